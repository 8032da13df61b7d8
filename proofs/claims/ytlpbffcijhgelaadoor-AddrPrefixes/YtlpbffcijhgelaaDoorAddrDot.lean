/-
  How grouped takes a dot.
-/
import Derived.Test.YtlpbffcijhgelaaDoorAddrTake2
namespace Go.Proofs.YtlpbffcijhgelaaDoor
open Go Go.RowKit
set_option linter.unusedVariables false
set_option linter.unusedSimpArgs false

/-- In a loop over the digits: the tail turns and the iterator, nothing else. -/
structure Loop7 (b k : Nat) (w wr : World) : Prop where
  os : wr.os = w.os
  tape : wr.tape = w.tape
  output : wr.output = w.output
  size : wr.heap.size = w.heap.size
  other : ∀ j, j ≠ b → j ≠ k → wr.heap[j]? = w.heap[j]?
  typed : ∀ cs t fz, w.heap[b]? = some (.cells cs t fz) → ∃ cs', wr.heap[b]? = some (.cells cs' t fz)
  cell : ∀ i, i < 7 → wr.cell? ⟨b, i, none⟩ = w.cell? ⟨b, i, none⟩

theorem Loop7.refl (b k : Nat) (w : World) : Loop7 b k w w := ⟨rfl, rfl, rfl, rfl, fun _ _ _ => rfl, fun cs _ _ h => ⟨cs, h⟩, fun _ _ => rfl⟩
theorem Loop7.wrote {b k : Nat} {w u v : World} (h : Loop7 b k w u) (g : Wrote b 7 6 u v) : Loop7 b k w v :=
  ⟨g.os.trans h.os, g.tape.trans h.tape, g.output.trans h.output, g.size.trans h.size, fun j hj hk => (g.other j hj).trans (h.other j hj hk),
    fun cs t fz hc => by obtain ⟨c2, h2⟩ := h.typed cs t fz hc; exact g.typed c2 t fz h2, fun i hi => (g.cell i (by omega)).trans (h.cell i hi)⟩
theorem Loop7.iterAt {b k : Nat} {w u : World} (h : Loop7 b k w u) (hbk : b ≠ k) (s : ByteArray) (pos : Nat) : Loop7 b k w (u.iterAt k s pos) :=
  ⟨h.os, h.tape, h.output, (Lib.iterAt_size _ _ _ _).trans h.size, fun j hj hk => (Lib.iterAt_other u k j s pos hk).trans (h.other j hj hk),
    fun cs t fz hc => by obtain ⟨c2, h2⟩ := h.typed cs t fz hc; exact ⟨c2, (Lib.iterAt_other u k b s pos hbk).trans h2⟩,
    fun i hi => (World.cell?_of_block (a := ⟨b, i, none⟩) (Lib.iterAt_other u k b s pos hbk)).trans (h.cell i hi)⟩

theorem DotAt.iterAt {b k p : Nat} {d : Dot} {u : World} (h : DotAt d u b p) (hbk : b ≠ k) (s : ByteArray) (pos : Nat) : DotAt d (u.iterAt k s pos) b p := by
  have e := fun i => World.cell?_of_block (a := ⟨b, i, none⟩) (Lib.iterAt_other u k b s pos hbk)
  exact ⟨(e _).trans h.c0, (e _).trans h.c1, (e _).trans h.c2, (e _).trans h.c3, (e _).trans h.c4, (e _).trans h.c5⟩

theorem DotAt.alloc {b p : Nat} {d : Dot} {u : World} (h : DotAt d u b p) (o : Obj) : DotAt d (u.alloc o) b p := by
  have e := fun i => World.cell?_of_block (a := ⟨b, i, none⟩) (Below.heap_alloc u o b (World.block_lt_of_cell? u _ h.c0))
  exact ⟨(e _).trans h.c0, (e _).trans h.c1, (e _).trans h.c2, (e _).trans h.c3, (e _).trans h.c4, (e _).trans h.c5⟩

theorem Loop7.old {b : Nat} {w W : World} {o : Obj} (h : Loop7 b w.heap.size (w.alloc o) W) {j : Nat} (hj : j ≠ b) (hlt : j < w.heap.size) : W.heap[j]? = w.heap[j]? :=
  (h.other j hj (by omega)).trans (Below.heap_alloc w o j hlt)

theorem Loop7.turns {B b : Nat} {w W : World} {o : Obj} (h : Loop7 b w.heap.size (w.alloc o) W) (hB : B ≤ b) (hb : b < w.heap.size) : Turns B (fun j => j = b) w W :=
  ⟨⟨h.os, h.tape, h.output, by rw [h.size]; simp, fun j hj => h.old (by omega) (by omega)⟩, fun j x hj hn _ => (h.old hn (Array.getElem?_eq_some_iff.1 hj).1).trans hj⟩

set_option maxHeartbeats 4000000 in
set_option maxRecDepth 100000 in
theorem grp_dot {B b : Nat} {g : Grp} {w : World} (h : GrpAt B b g w) (hk : g.Ok) (hnd : g.dots = false) :
    Calls Tryd.prog 127 #[.pointer (some ⟨b, 0, none⟩)] w fun e w' => GrpTook g.dot B b w e w' := by
  have hR := grp_room h hk.len
  obtain ⟨v, h0, hown⟩ := h.row
  have hf := h.typed.open
  have c1 := h.c1
  have c4 := h.c4
  have c6 := h.c6
  have H : Hid _ := h
  have HO : Hid _ := hown
  clear hown h
  unfold Grp.dot
  by_cases hno : g.room < 4 ∨ (g.gapped = false ∧ 4 < g.room)
  · rw [if_pos hno]
    generalize g.room = rm at *
    have HN : Hid _ := hno
    clear hno
    go_enter Tryd.func127, Tryd.ntmps127
    go_wp2_with (go_at_call 122; refine hR.mono ?_; rintro e w1 ⟨rfl, rfl⟩)
    all_goals first
      | (go_ret; exact ⟨rfl, Turns.refl _ _ _, fun g' hg' => by cases hg'⟩)
      | (exfalso; have := HN.out; simp_all; done)
      | (exfalso; have := HN.out; simp_all; omega)
      | go_show
  · rw [if_neg hno]
    have hr4 : decide (g.room < 4) = false := by simp; omega
    have hr5 : g.gapped = false → g.room = 4 := by intro e; have h6 : ¬ 4 < g.room := fun x => hno (.inr ⟨e, x⟩); have h7 : ¬ g.room < 4 := fun x => hno (.inl x); omega
    clear hno
    have hq : (!g.gapped && decide (4 < g.room)) = false := by
      cases hg : g.gapped with
      | true => rfl
      | false => simp; have := hr5 hg; omega
    generalize g.room = rm at *
    go_enter Tryd.func127, Tryd.ntmps127
    go_wp2_with (go_at_call 122; refine hR.mono ?_; rintro e w1 ⟨rfl, rfl⟩)
    all_goals
      clear hR hr4 hr5 hq
      have hat := H.out.tail
      have hlt : b < w1.heap.size := World.block_lt_of_cell? w1 _ c1
      have hbk : b ≠ w1.heap.size := by omega
      have hs0 : (⟨g.part.toArray⟩ : ByteArray).size = g.part.length := by simp [ByteArray.size]
      go_loopw [] (fun wr => ∃ (pos : Nat) (d : Dot), pos ≤ g.part.length ∧ wr.heap[w1.heap.size]? = some (.stringIter ⟨g.part.toArray⟩ pos) ∧ Loop7 b w1.heap.size (w1.iter ⟨g.part.toArray⟩ 0) wr ∧ DotAt d wr b 7 ∧ d.Ok ∧ g.tail.takes g.part = d.takes (g.part.drop pos))
        (fun wr => g.part.length - wr.iterPos w1.heap.size)
      case atStart =>
        exact ⟨0, g.tail, Nat.zero_le _, World.iter_heap _ _ _, Loop7.refl _ _ _, hat.alloc _, hk.tail, rfl⟩
      case round =>
        obtain ⟨pos, d, hps, hit, hL, hD, hdk, htk⟩ := hrel
        have HT : Hid _ := htk
        clear htk
        have hTy : Typed wr b 84 := by
          obtain ⟨cs, hcs⟩ := H.out.typed
          exact hL.typed cs _ _ ((Below.heap_alloc w1 _ b hlt).trans hcs)
        have hmu : wr.iterPos w1.heap.size = pos := by simp [World.iterPos, hit]
        by_cases hp : pos < g.part.length
        · have hp' : pos < (⟨g.part.toArray⟩ : ByteArray).size := by rw [hs0]; exact hp
          have hch : ((⟨g.part.toArray⟩ : ByteArray)[pos]'hp') = g.part[pos] := by simp [ByteArray.getElem_eq_getElem_data]
          have h128 : ((⟨g.part.toArray⟩ : ByteArray)[pos]'hp').toNat < 128 := by rw [hch]; exact hk.ascii _ (List.getElem_mem _)
          have hnext : ∀ ty, (Instr.next (.pointer (some ⟨w1.heap.size, 0, none⟩)) true ty).run Tryd.prog wr = _ := fun ty => Lib.run_next_ascii_at wr w1.heap.size ⟨g.part.toArray⟩ pos ty hit hp' h128
          have hit1 := Lib.iterAt_heap wr w1.heap.size ⟨g.part.toArray⟩ pos (pos + 1) hit
          have hL1 := hL.iterAt hbk ⟨g.part.toArray⟩ (pos + 1)
          have hD1 := hD.iterAt hbk ⟨g.part.toArray⟩ (pos + 1)
          have hTy1 : Typed (wr.iterAt w1.heap.size ⟨g.part.toArray⟩ (pos + 1)) b 84 := by
            obtain ⟨cs, hcs⟩ := hTy
            exact ⟨cs, (Lib.iterAt_other wr _ b _ _ hbk).trans hcs⟩
          rw [hch] at hnext h128
          generalize hc : g.part[pos] = c at hnext h128
          have hdrop : g.part.drop pos = c :: g.part.drop (pos + 1) := by rw [← hc]; exact List.drop_eq_getElem_cons hp
          rw [hdrop] at HT
          clear hch hdrop
          have HC : Hid _ := hc
          clear hc
          generalize wr.iterAt w1.heap.size ⟨g.part.toArray⟩ (pos + 1) = W1 at hnext hit1 hL1 hD1 hTy1
          have hCall := dot_take d c.toNat b 7 W1 hdk (by omega) hD1 hTy1.open
          go_wp2_with fail
          refine hCall.mono ?_
          rintro e W2 ⟨rfl, hW, hsome⟩
          clear hCall
          cases hx : d.take c.toNat with
          | none =>
            go_wp2
            go_ret
            have hbad : g.tail.takes g.part = none := by rw [HT.out]; simp [Dot.takes, hx]
            rw [hbad]
            exact ⟨rfl, (hL1.wrote hW).turns H.out.hB hlt, fun g' hg' => by cases hg'⟩
          | some d' =>
            have hD2 := hsome d' hx
            have hit2 := (hW.other _ (Ne.symm hbk)).trans hit1
            go_wp2
            go_roundw
            case rel =>
              refine ⟨pos + 1, d', by omega, hit2, hL1.wrote hW, hD2, Dot.take_ok hx hdk, ?_⟩
              rw [HT.out]
              simp [Dot.takes, hx]
            case measure =>
              have hmu2 : W2.iterPos w1.heap.size = pos + 1 := by simp [World.iterPos, hit2]
              rw [hmu, hmu2]
              omega
        · have hnext : ∀ ty, (Instr.next (.pointer (some ⟨w1.heap.size, 0, none⟩)) true ty).run Tryd.prog wr = _ := fun ty => Lib.run_next_end_at wr w1.heap.size ⟨g.part.toArray⟩ pos ty hit (by rw [hs0]; exact hp)
          have hend : g.part.drop pos = [] := List.drop_eq_nil_of_le (by omega)
          rw [hend] at HT
          have hc6 : wr.cell? ⟨b, 6, none⟩ = some (.bool g.dots) := (hL.cell 6 (by omega)).trans ((World.cell?_of_block (a := ⟨b, 6, none⟩) (Below.heap_alloc w1 _ b hlt)).trans c6)
          have hfr := hTy.open
          have hw6 : Wrote b 0 7 wr (wr.setCell ⟨b, 6, none⟩ (.bool true)) := (Wrote.refl _ _ _ _).set (by omega) _
          have hCall := dot_take d 46 b 7 (wr.setCell ⟨b, 6, none⟩ (.bool true)) hdk (by decide) (hD.wrote hw6 (by omega)) (hTy.wrote hw6).open
          go_wp2_with fail
          refine hCall.mono ?_
          rintro e W2 ⟨rfl, hW, hsome⟩
          clear hCall
          go_wp2
          go_ret
          have hgood : g.tail.takes g.part = some d := by rw [HT.out]; rfl
          rw [hgood]
          refine ⟨by simp, ((hL.turns H.out.hB hlt).trans (hw6.turns H.out.hB)).trans (hW.turns H.out.hB), fun g' hg' => ?_⟩
          cases hx : d.take 46 with
          | none => simp [hx] at hg'
          | some d' =>
            simp only [Option.bind_some, hx, Option.map_some, Option.some.injEq] at hg'
            subst hg'
            have hcell : ∀ i, i < 6 → W2.cell? ⟨b, i, none⟩ = w1.cell? ⟨b, i, none⟩ := fun i hi => by
              rw [hW.cell i (by omega), World.cell?_setCell_other _ _ _ _ (fun e => by injection e with _ e _; omega), hL.cell i (by omega)]
              exact World.cell?_of_block (a := ⟨b, i, none⟩) (Below.heap_alloc w1 _ b hlt)
            have h6 : W2.cell? ⟨b, 6, none⟩ = some (.bool true) := by rw [hW.cell 6 (by omega)]; go_cell
            refine ⟨(hTy.wrote hw6).wrote hW, H.out.hB, ⟨v, (hcell 0 (by omega)).trans h0, ?_⟩, (hcell 1 (by omega)).trans H.out.c1, (hcell 2 (by omega)).trans H.out.c2, (hcell 3 (by omega)).trans H.out.c3,
              (hcell 4 (by omega)).trans H.out.c4, (hcell 5 (by omega)).trans H.out.c5, h6, hsome d' hx⟩
            have hap := H.out.typed.apart (by decide) HO.out
            refine ⟨HO.out.1, HO.out.2.imp id ?_⟩
            rintro ⟨q, cap, cur, rfl, hbq, hq, r⟩
            have hne : q ≠ b := fun e => hap (by simp [Value.ownBlock, e])
            refine ⟨q, cap, cur, rfl, hbq, ?_, r⟩
            rw [hW.other q hne, hw6.other q hne, hL.old hne (Array.getElem?_eq_some_iff.1 hq).1]
            exact hq

end Go.Proofs.YtlpbffcijhgelaaDoor
