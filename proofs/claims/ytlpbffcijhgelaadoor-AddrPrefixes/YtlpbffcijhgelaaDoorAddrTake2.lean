/-
  How grouped takes a colon, a dot, a letter.
-/
import Derived.Test.YtlpbffcijhgelaaDoorAddrTake
namespace Go.Proofs.YtlpbffcijhgelaaDoor
open Go Go.RowKit
set_option linter.unusedVariables false
set_option linter.unusedSimpArgs false

/-- Behind the append: the longer row; the grouped itself stands. -/
structure Mid (B b : Nat) (g : Grp) (w : World) (v : Value) (X : World) : Prop where
  own : X.ownsRow B 5 1 v (g.ended.length + 2) ((g.ended ++ [g.value / 256, g.value % 256]).map (fun z => Value.int .u8 z))
  turns : Turns B (fun j => j = b) w X
  typed : Typed X b 84
  cells : ∀ i, X.cell? ⟨b, i, none⟩ = w.cell? ⟨b, i, none⟩

theorem mid_of {B b : Nat} {g : Grp} {w : World} {v0 : Value} (h : GrpAt B b g w) (hk : g.Ok) (hrow : w.ownsRow B 5 1 v0 g.ended.length (g.ended.map (fun z => Value.int .u8 z))) (ty : TypeId) (arr : Array Value) (harr : arr = #[.int .u8 (g.value / 256), .int .u8 (g.value % 256)]) :
    ∃ v X, (Builtin.append_ #[81, 81] ty #[v0, .slice (some ⟨w.heap.size, 0, none⟩) 2 2]).run Tryd.prog (w.alloc (.cells arr 5)) = .ok v X ∧ Mid B b g w v X := by
  subst harr
  have hl := hk.len
  obtain ⟨v, X, hrun, hown, hgr, -⟩ := own_lit elem_u8 hrow h.size (by omega) (by decide) [.int .u8 (g.value / 256), .int .u8 (g.value % 256)] 2 rfl (by decide) (by simp [Value.oneCell']) ty _ rfl
  have hap := h.typed.apart (by decide) hrow
  obtain ⟨cs, hcs⟩ := h.typed
  have hlt := (Array.getElem?_eq_some_iff.1 hcs).1
  have hb : X.heap[b]? = w.heap[b]? := hgr.block b hlt (fun e => hap e.symm)
  refine ⟨v, X, hrun, by simpa using hown, (Turns.refl _ _ _).grown hrow hgr h.size, ⟨cs, hb.trans hcs⟩, fun i => World.cell?_of_block (a := ⟨b, i, none⟩) hb⟩

theorem GrpAt.drew {B b : Nat} {g : Grp} {w : World} (h : GrpAt B b g w) : GrpAt B b g w.drew :=
  ⟨h.typed, h.hB, h.row, h.c1, h.c2, h.c3, h.c4, h.c5, h.c6, ⟨h.tail.c0, h.tail.c1, h.tail.c2, h.tail.c3, h.tail.c4, h.tail.c5⟩⟩

theorem mid_drew {B b : Nat} {g : Grp} {w : World} {v0 : Value} (h : GrpAt B b g w) (hk : g.Ok) (hrow : w.ownsRow B 5 1 v0 g.ended.length (g.ended.map (fun z => Value.int .u8 z))) (ty : TypeId) :
    ∃ v X, (Builtin.append_ #[81, 81] ty #[v0, .slice (some ⟨w.heap.size, 0, none⟩) 2 2]).run Tryd.prog ((w.alloc (.cells #[.int .u8 (IntKind.u8.wrap (g.value / 256)), .int .u8 (IntKind.u8.wrap g.value)] 5)).drew) = .ok v X ∧ Mid B b g w v X := by
  have hv := hk.value
  obtain ⟨v, X, h1, h2⟩ := mid_of h.drew hk (v0 := v0) hrow ty #[.int .u8 (IntKind.u8.wrap (g.value / 256)), .int .u8 (IntKind.u8.wrap g.value)] (by
    rw [IntKind.wrap_u8, IntKind.wrap_u8, Int.emod_eq_of_lt (a := g.value / 256) (by omega) (by omega)])
  exact ⟨v, X, h1, h2.own, ⟨⟨h2.turns.below.os, h2.turns.below.tape, h2.turns.below.output, h2.turns.below.size, h2.turns.below.block⟩, h2.turns.kept⟩, h2.typed, h2.cells⟩

set_option maxHeartbeats 4000000 in
set_option maxRecDepth 100000 in
theorem grp_colon {B b : Nat} {g : Grp} {w : World} (h : GrpAt B b g w) (hk : g.Ok) :
    Calls Tryd.prog 126 #[.pointer (some ⟨b, 0, none⟩)] w fun e w' => GrpTook g.colon B b w e w' := by
  have hR := grp_room h hk.len
  obtain ⟨v, h0, hown⟩ := h.row
  obtain ⟨a, cap, rfl, -, -⟩ := own_form hown
  have hf := h.typed.open
  have c1 := h.c1
  have c2 := h.c2
  have c3 := h.c3
  have H : Hid _ := h
  have hv := hk.value
  have HO : Hid _ := hown
  clear hown h
  unfold Grp.colon
  by_cases hno : g.room ≤ 2
  · rw [if_pos hno]
    generalize g.room = rm at *
    go_enter Tryd.func126, Tryd.ntmps126
    go_wp2_with fail
    refine hR.mono ?_
    rintro e w' ⟨rfl, rfl⟩
    go_wp2
    go_ret
    exact ⟨rfl, Turns.refl _ _ _, fun g' hg' => by cases hg'⟩
  · rw [if_neg hno]
    have hno' : decide (g.room ≤ 2) = false := by simpa using hno
    generalize g.room = rm at *
    go_enter Tryd.func126, Tryd.ntmps126
    go_wp2_with fail
    refine hR.mono ?_
    rintro e w' ⟨rfl, rfl⟩
    clear hR
    have ha : ∀ o, (w'.alloc o).cell? ⟨b, 0, none⟩ = some (.slice a g.ended.length cap) := fun o => (World.cell?_of_block (a := ⟨b, 0, none⟩) (Below.heap_alloc w' o b (World.block_lt_of_cell? w' _ h0))).trans h0
    have ha2 : ∀ o, (w'.alloc o).cell? ⟨b, 2, none⟩ = some (.int .u16 g.value) := fun o => (World.cell?_of_block (a := ⟨b, 2, none⟩) (Below.heap_alloc w' o b (World.block_lt_of_cell? w' _ c2))).trans c2
    go_wp2
    go_region_law (refine step_append_ex rfl _ _ _ _ rfl rfl rfl (mid_drew H.out hk HO.out _) ?_; intro v1 X1 hM; obtain ⟨a1, cap1, rfl, -, -⟩ := own_form hM.own; have x0 := (hM.cells 0).trans h0; have x1 := (hM.cells 1).trans c1; have x2 := (hM.cells 2).trans c2; have x3 := (hM.cells 3).trans c3; have xf := hM.typed.open)
    all_goals
      go_wp2
      go_ret
      have hw : Wrote b 0 7 X1 ((((X1.setCell ⟨b, 0, none⟩ (.slice a1 (g.ended.length + 2) cap1)).setCell ⟨b, 1, none⟩ (.string ⟨#[]⟩)).setCell ⟨b, 2, none⟩ (.int .u16 0)).setCell ⟨b, 3, none⟩ (.int .i64 1)) := ((((Wrote.refl _ _ _ _).set (by omega) _).set (by omega) _).set (by omega) _).set (by omega) _
      refine ⟨rfl, hM.turns.trans (hw.turns H.out.hB), fun g' hg' => ?_⟩
      cases hg'
      have x4 := (hM.cells 4).trans H.out.c4
      have x5 := (hM.cells 5).trans H.out.c5
      have x6 := (hM.cells 6).trans H.out.c6
      have ht : DotAt g.tail X1 b 7 := by
        obtain ⟨t0, t1, t2, t3, t4, t5⟩ := H.out.tail
        exact ⟨(hM.cells _).trans t0, (hM.cells _).trans t1, (hM.cells _).trans t2, (hM.cells _).trans t3, (hM.cells _).trans t4, (hM.cells _).trans t5⟩
      refine ⟨hM.typed.wrote hw, H.out.hB, ⟨_, by go_cell, ?_⟩, by go_cell, by go_cell, by go_cell, by go_cell, by go_cell, by go_cell, ht.wrote hw (by omega)⟩
      have := own_wrote hw hM.typed (by decide) hM.own
      simpa using this

end Go.Proofs.YtlpbffcijhgelaaDoor
