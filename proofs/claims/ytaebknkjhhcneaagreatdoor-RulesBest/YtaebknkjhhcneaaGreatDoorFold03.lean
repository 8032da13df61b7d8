/-
  grouped.addr: what is copied.
  Loads and stores of whole arrays.
  How many bytes are given where two colons stood.
  grouped as a kind of letters.
-/
import Derived.Test.YtaebknkjhhcneaaGreatDoorFold02
namespace Go.Proofs.YtaebknkjhhcneaaGreatDoor
open Go Go.RowKit
set_option linter.unusedVariables false
set_option linter.unusedSimpArgs false

/-- The bytes that are given so far: a row of the call's own. -/
structure Giv (w1 : World) (l : List Int) (v : Value) (X : World) : Prop where
  own : X.ownsRow w1.heap.size 5 1 v l.length (l.map (fun z => Value.int .u8 z))
  below : Below w1.heap.size w1 X

theorem Giv.start (w1 : World) : Giv w1 [] (.slice (some ⟨w1.heap.size, 0, none⟩) 0 0) (w1.alloc (.cells #[] 5)) :=
  ⟨⟨rfl, .inr ⟨w1.heap.size, 0, _, rfl, Nat.le_refl _, heap_alloc_new w1 _, Nat.le_refl _, by decide, rfl, rfl⟩⟩, (Below.refl _ w1).alloc (Nat.le_refl _) _⟩

theorem Giv.app {w1 X : World} {l : List Int} {v : Value} (h : Giv w1 l v X) (zs : List Int) (a : Option Addr) (c : Nat) (hl : l.length ≤ 1000) (hz : zs.length ≤ 1000)
    (hsrc : zs.length = 0 ∧ a = none ∨ ∃ x : Addr, a = some x ∧ ∀ (j : Nat) z, zs[j]? = some z → X.cell? (x.add j) = some (.int .u8 z)) (ty : TypeId) :
    ∃ v' X', (Builtin.append_ #[127, 127] ty #[v, .slice a zs.length c]).run Tryz.prog X = .ok v' X' ∧ Giv w1 (l ++ zs) v' X' := by
  obtain ⟨v', X', hrun, hown, hgr, -⟩ := own_append elem_u8 (c := c) (m := zs.length) h.own a (zs.map (fun z => Value.int .u8 z)) (by simp) (fun e => by
      rcases hsrc with ⟨h0, _⟩ | ⟨x, rfl, _⟩
      · simpa using h0
      · cases e) (fun x hx j u hj => by
      rcases hsrc with ⟨_, rfl⟩ | ⟨x', rfl, hx'⟩
      · cases hx
      · cases hx
        rw [List.getElem?_map] at hj
        cases hz : zs[j]? with
        | none => simp [hz] at hj
        | some z => simp [hz] at hj; subst hj; exact hx' j z hz) (by simp [Value.oneCell']) (by unfold maxLen; omega) (by omega) h.below.size ty
  refine ⟨v', X', hrun, ⟨by simpa using hown, h.below.grown hgr h.below.size (fun k hk => (h.own.lt k hk).1)⟩⟩

/-- A row of bytes of one's own, cell by cell. -/
theorem row_form {B : Nat} {X : World} {l : List Int} {v : Value} (h : X.ownsRow B 5 1 v l.length (l.map (fun z => Value.int .u8 z))) : ∃ a cap, v = .slice a l.length cap ∧ l.length ≤ cap ∧ (l.length = 0 ∧ a = none ∨ ∃ G, a = some ⟨G, 0, none⟩ ∧ B ≤ G ∧ G < X.heap.size ∧ (∃ cs, X.heap[G]? = some (.cells cs 5 (0, 0))) ∧ ∀ (j : Nat) z, l[j]? = some z → X.cell? ⟨G, j, none⟩ = some (.int .u8 z)) := by
  have hc := fun g hg => h.cells (g := g) hg
  rcases h.2 with ⟨rfl, h0⟩ | ⟨G, cap, cur, rfl, hb, hg, hn, _⟩
  · exact ⟨none, 0, by rw [h0], by omega, .inl ⟨h0, rfl⟩⟩
  · refine ⟨_, cap, rfl, hn, .inr ⟨G, rfl, hb, (Array.getElem?_eq_some_iff.1 hg).1, ⟨cur, hg⟩, fun j z hj => ?_⟩⟩
    have := hc G rfl j (.int .u8 z) (by rw [List.getElem?_map, hj]; rfl)
    rw [Go.WideShapes.add_plain] at this
    simpa using this

theorem arr_new (X : World) : ArrAt (X.alloc (.cells #[.int .u8 0, .int .u8 0, .int .u8 0, .int .u8 0, .int .u8 0, .int .u8 0, .int .u8 0, .int .u8 0, .int .u8 0, .int .u8 0, .int .u8 0, .int .u8 0, .int .u8 0, .int .u8 0, .int .u8 0, .int .u8 0] 24)) X.heap.size (List.replicate 16 0) := by
  refine ⟨rfl, fun j z hj => ?_, ⟨_, heap_alloc_new X _⟩⟩
  rw [World.cell?_alloc_new]
  rw [List.getElem?_replicate] at hj
  split at hj
  case isFalse => cases hj
  rename_i hj'
  cases hj
  match j, hj' with
  | 0, _ => rfl
  | 1, _ => rfl
  | 2, _ => rfl
  | 3, _ => rfl
  | 4, _ => rfl
  | 5, _ => rfl
  | 6, _ => rfl
  | 7, _ => rfl
  | 8, _ => rfl
  | 9, _ => rfl
  | 10, _ => rfl
  | 11, _ => rfl
  | 12, _ => rfl
  | 13, _ => rfl
  | 14, _ => rfl
  | 15, _ => rfl
  | n + 16, h => exact absurd h (by omega)

theorem Giv.alloc {w1 X : World} {l : List Int} {v : Value} (h : Giv w1 l v X) (o : Obj) : Giv w1 l v (X.alloc o) := ⟨h.own.alloc o, h.below.alloc h.below.size o⟩

/-- What is loaded from the array. -/
theorem ArrAt.cells {w : World} {A : Nat} {l : List Int} (h : ArrAt w A l) : ∃ x0 x1 x2 x3 x4 x5 x6 x7 x8 x9 x10 x11 x12 x13 x14 x15 : Int, l = [x0, x1, x2, x3, x4, x5, x6, x7, x8, x9, x10, x11, x12, x13, x14, x15] ∧ w.cell? ⟨A, 0, none⟩ = some (.int .u8 x0) ∧ w.cell? ⟨A, 1, none⟩ = some (.int .u8 x1) ∧ w.cell? ⟨A, 2, none⟩ = some (.int .u8 x2) ∧ w.cell? ⟨A, 3, none⟩ = some (.int .u8 x3) ∧ w.cell? ⟨A, 4, none⟩ = some (.int .u8 x4) ∧ w.cell? ⟨A, 5, none⟩ = some (.int .u8 x5) ∧ w.cell? ⟨A, 6, none⟩ = some (.int .u8 x6) ∧ w.cell? ⟨A, 7, none⟩ = some (.int .u8 x7) ∧ w.cell? ⟨A, 8, none⟩ = some (.int .u8 x8) ∧ w.cell? ⟨A, 9, none⟩ = some (.int .u8 x9) ∧ w.cell? ⟨A, 10, none⟩ = some (.int .u8 x10) ∧ w.cell? ⟨A, 11, none⟩ = some (.int .u8 x11) ∧ w.cell? ⟨A, 12, none⟩ = some (.int .u8 x12) ∧ w.cell? ⟨A, 13, none⟩ = some (.int .u8 x13) ∧ w.cell? ⟨A, 14, none⟩ = some (.int .u8 x14) ∧ w.cell? ⟨A, 15, none⟩ = some (.int .u8 x15) := by
  obtain ⟨x0, x1, x2, x3, x4, x5, x6, x7, x8, x9, x10, x11, x12, x13, x14, x15, rfl⟩ := list16 h.len
  exact ⟨x0, x1, x2, x3, x4, x5, x6, x7, x8, x9, x10, x11, x12, x13, x14, x15, rfl, h.cell 0 _ rfl, h.cell 1 _ rfl, h.cell 2 _ rfl, h.cell 3 _ rfl, h.cell 4 _ rfl, h.cell 5 _ rfl, h.cell 6 _ rfl, h.cell 7 _ rfl, h.cell 8 _ rfl, h.cell 9 _ rfl, h.cell 10 _ rfl, h.cell 11 _ rfl, h.cell 12 _ rfl, h.cell 13 _ rfl, h.cell 14 _ rfl, h.cell 15 _ rfl⟩

/-- The given bytes go over whole. -/
theorem copy_full {w1 X : World} {l : List Int} {v : Value} (h : Giv w1 l v X) (hl : l.length = 16) (ty : TypeId) :
    ∃ v' w2, (Builtin.copy_ #[127, 127] ty #[.slice (some ⟨X.heap.size, 0, none⟩) 16 16, v]).run Tryz.prog (X.alloc (.cells #[.int .u8 0, .int .u8 0, .int .u8 0, .int .u8 0, .int .u8 0, .int .u8 0, .int .u8 0, .int .u8 0, .int .u8 0, .int .u8 0, .int .u8 0, .int .u8 0, .int .u8 0, .int .u8 0, .int .u8 0, .int .u8 0] 24)) = .ok v' w2 ∧ (ArrAt w2 X.heap.size l ∧ Below w1.heap.size w1 w2) := by
  obtain ⟨a, cap, rfl, hcap, hc⟩ := row_form h.own
  obtain ⟨v', w2, hrun, hA, hW⟩ := copy_ex (arr_new X) l a 0 16 16 cap rfl (by omega) (hc.imp (fun x => x.1) (fun ⟨G, e, _, hG, _, hcc⟩ => ⟨_, e, fun j z hj => by
    rw [Go.WideShapes.add_plain]
    simp only [Nat.zero_add]
    rw [World.cell?_alloc_lt _ _ _ hG]
    exact hcc j z hj⟩)) ty
  refine ⟨v', w2, hrun, ?_, (h.below.alloc h.below.size _).trans (hW.below h.below.size)⟩
  simpa [hl] using hA

/-- The bytes ahead of the gap go over. -/
theorem copy_head {w1 X : World} {l : List Int} {a : Option Addr} {cap : Nat} (h : Giv w1 l (.slice a l.length cap) X) (γ : Nat) (hγ : γ ≤ l.length) (hl : l.length ≤ 14) (ty : TypeId) :
    ∃ v' w2, (Builtin.copy_ #[127, 127] ty #[.slice (some ⟨X.heap.size, 0, none⟩) 16 16, .slice a γ cap]).run Tryz.prog ((X.alloc (.cells #[.int .u8 0, .int .u8 0, .int .u8 0, .int .u8 0, .int .u8 0, .int .u8 0, .int .u8 0, .int .u8 0, .int .u8 0, .int .u8 0, .int .u8 0, .int .u8 0, .int .u8 0, .int .u8 0, .int .u8 0, .int .u8 0] 24)).drew) = .ok v' w2 ∧ (ArrAt w2 X.heap.size (l.take γ ++ List.replicate (16 - γ) 0) ∧ Giv w1 l (.slice a l.length cap) w2) := by
  obtain ⟨a', cap', e, hcap, hc⟩ := row_form h.own
  injection e with e1 _ e3
  subst e1 e3
  have hA0 : ArrAt (X.alloc (.cells #[.int .u8 0, .int .u8 0, .int .u8 0, .int .u8 0, .int .u8 0, .int .u8 0, .int .u8 0, .int .u8 0, .int .u8 0, .int .u8 0, .int .u8 0, .int .u8 0, .int .u8 0, .int .u8 0, .int .u8 0, .int .u8 0] 24)).drew X.heap.size (List.replicate 16 0) := (arr_new X).drew
  obtain ⟨v', w2, hrun, hA, hW⟩ := copy_ex hA0 (l.take γ) a 0 16 16 cap rfl (by simp; omega) (hc.imp (fun x => by simp; omega) (fun ⟨G, e, _, hG, _, hcc⟩ => ⟨_, e, fun j z hj => by
    rw [Go.WideShapes.add_plain]
    simp only [Nat.zero_add]
    show (X.alloc (.cells #[.int .u8 0, .int .u8 0, .int .u8 0, .int .u8 0, .int .u8 0, .int .u8 0, .int .u8 0, .int .u8 0, .int .u8 0, .int .u8 0, .int .u8 0, .int .u8 0, .int .u8 0, .int .u8 0, .int .u8 0, .int .u8 0] 24)).cell? _ = _
    rw [World.cell?_alloc_lt _ _ _ hG]
    refine hcc j z ?_
    rw [List.getElem?_take] at hj
    split at hj
    · exact hj
    · cases hj⟩)) ty
  have hlt : (l.take γ).length = γ := by simp; omega
  rw [hlt] at hrun hW
  refine ⟨v', w2, hrun, ?_, ⟨h.own.1, h.own.2.imp id ?_⟩, ((h.below.alloc h.below.size _).drew).trans (hW.below h.below.size)⟩
  · rw [hlt, List.take_zero, List.nil_append, Nat.zero_add, List.drop_replicate] at hA
    exact hA
  · rintro ⟨G, cap, cur, e, hb, hg, r⟩
    have hlt2 := (Array.getElem?_eq_some_iff.1 hg).1
    exact ⟨G, cap, cur, e, hb, (hW.other G (by omega)).trans ((Below.heap_alloc X _ G hlt2).trans hg), r⟩

/-- The bytes behind the gap go to the end. -/
theorem copy_tail {w1 X : World} {l k : List Int} {a : Option Addr} {cap A : Nat} (h : Giv w1 l (.slice a l.length cap) X) (hA0 : ArrAt X A k) (hAB : w1.heap.size ≤ A) (γ : Nat) (hγ : γ ≤ l.length) (hl : l.length ≤ 14) (a' : Option Addr) (o m c dc : Nat) (hm : m = l.length - γ) (ho : o = 16 - m)
    (ha : l.length = 0 ∨ ∃ G, a = some ⟨G, 0, none⟩ ∧ a' = some ⟨G, γ, none⟩) (ty : TypeId) :
    ∃ v' w2, (Builtin.copy_ #[127, 127] ty #[.slice (some ⟨A, o, none⟩) m dc, .slice a' m c]).run Tryz.prog X = .ok v' w2 ∧ (ArrAt w2 A (k.take (16 - m) ++ l.drop γ) ∧ Below w1.heap.size w1 w2) := by
  have hlt : (l.drop γ).length = m := by simp; omega
  have hom : o + m = 16 := by omega
  have hml : (l.drop γ).length ≤ m := by omega
  have hk := hA0.len
  have e2 : k.drop (16 - m + m) = [] := List.drop_eq_nil_of_le (by omega)
  obtain ⟨a2, cap2, e, hcap, hc⟩ := row_form h.own
  injection e with e1 _ e3
  subst e1 e3
  obtain ⟨v', w2, hrun, hA, hW⟩ := copy_ex hA0 (l.drop γ) a' o m dc c hom hml (by
    rcases ha with h0 | ⟨G, hG, rfl⟩
    · exact .inl (by omega)
    · rcases hc with ⟨h0, _⟩ | ⟨G', e, _, hlt, _, hcc⟩
      · exact .inl (by omega)
      · rw [hG] at e
        cases e
        refine .inr ⟨_, rfl, fun j z hj => ?_⟩
        rw [Go.WideShapes.add_plain]
        rw [List.getElem?_drop] at hj
        exact hcc _ z hj) ty
  rw [hlt] at hrun hW
  refine ⟨v', w2, hrun, ?_, h.below.trans (hW.below hAB)⟩
  subst ho
  rw [hlt, e2, List.append_nil] at hA
  exact hA

/-- The four bytes of the tail behind the groups. -/
theorem tail_app {w1 X1 X2 : World} {g : Grp} {v1 : Value} {L : List Int} (hG1 : Giv w1 g.ended v1 X1) (hl : g.ended.length ≤ 16) (hB2 : Below X1.heap.size X1 X2) (hL : L = g.ended ++ g.tail.addr) :
    ∃ v X, (Builtin.append_ #[127, 127] 127 #[v1, .slice (some ⟨X2.heap.size, 0, none⟩) 4 4]).run Tryz.prog (X2.alloc (.cells #[.int .u8 g.tail.e0, .int .u8 g.tail.e1, .int .u8 g.tail.e2, .int .u8 g.tail.num.value] 61)) = .ok v X ∧ Giv w1 L v X := by
  have hG2 : Giv w1 g.ended v1 X2 := by
    refine ⟨⟨hG1.own.1, hG1.own.2.imp id ?_⟩, hG1.below.trans (hB2.mono hG1.below.size)⟩
    rintro ⟨G, cap, cur, rfl, hb, hg, r⟩
    exact ⟨G, cap, cur, rfl, hb, (hB2.block G (Array.getElem?_eq_some_iff.1 hg).1).trans hg, r⟩
  rw [hL]
  exact (hG2.alloc (.cells #[.int .u8 g.tail.e0, .int .u8 g.tail.e1, .int .u8 g.tail.e2, .int .u8 g.tail.num.value] 61)).app g.tail.addr (some ⟨X2.heap.size, 0, none⟩) 4 (by omega) (by simp [Dot.addr]) (.inr ⟨_, rfl, fun j z hj => by
    rw [Go.WideShapes.add_plain]
    simp only [Nat.zero_add, World.cell?_alloc_new]
    match j, hj with
    | 0, hj => cases hj; rfl
    | 1, hj => cases hj; rfl
    | 2, hj => cases hj; rfl
    | 3, hj => cases hj; rfl
    | n + 4, hj => simp [Dot.addr] at hj⟩) 127

theorem Giv.drew {w1 X : World} {l : List Int} {v : Value} (h : Giv w1 l v X) : Giv w1 l v X.drew := ⟨h.own, h.below.drew⟩

/-- The two bytes of the open group behind the groups. -/
theorem part_app {w1 X1 : World} {g : Grp} {v1 : Value} {L : List Int} (hG1 : Giv w1 g.ended v1 X1) (hl : g.ended.length ≤ 16) (hv : 0 ≤ g.value ∧ g.value < 65536) (hL : L = g.ended ++ [g.value / 256, g.value % 256]) (ty : TypeId) :
    ∃ v X, (Builtin.append_ #[127, 127] ty #[v1, .slice (some ⟨X1.heap.size, 0, none⟩) 2 2]).run Tryz.prog ((X1.alloc (.cells #[.int .u8 (IntKind.u8.wrap (g.value / 256)), .int .u8 (IntKind.u8.wrap g.value)] 5)).drew) = .ok v X ∧ Giv w1 L v X := by
  rw [hL]
  exact ((hG1.alloc (.cells #[.int .u8 (IntKind.u8.wrap (g.value / 256)), .int .u8 (IntKind.u8.wrap g.value)] 5)).drew).app [g.value / 256, g.value % 256] (some ⟨X1.heap.size, 0, none⟩) 2 (by omega) (by simp) (.inr ⟨_, rfl, fun j z hj => by
    rw [Go.WideShapes.add_plain]
    show (X1.alloc _).cell? _ = _
    simp only [Nat.zero_add, World.cell?_alloc_new]
    match j, hj with
    | 0, hj =>
      cases hj
      rw [IntKind.wrap_u8, Int.emod_eq_of_lt (by omega) (by omega)]
      rfl
    | 1, hj =>
      cases hj
      rw [IntKind.wrap_u8]
      rfl
    | n + 2, hj => simp at hj⟩) ty

end Go.Proofs.YtaebknkjhhcneaaGreatDoor

namespace Go.Proofs.YtaebknkjhhcneaaGreatDoor
open Go Go.RowKit
set_option linter.unusedVariables false
set_option linter.unusedSimpArgs false

theorem wpList_load_run {P : Program} {w : World} {ops : Array Oper} {rest : List Oper} {o : Oper} {a : Act} {Q : Exit → Act → World → Prop} (hg : o.guard = none) (p : Operand) (t : TypeId)
    (hop : o.op = Op.load t p) {vp v : Value} (hp : a.eval p = vp) (hrun : (Instr.loadAt t vp).run P w = .ok v w) (hK : wpList P ops Q rest (a.put o.dst v) w) : wpList P ops Q (o :: rest) a w := by
  refine wpList_plain hg fun K hK' => ?_
  unfold Oper.wp
  simp [execOp, hop, hp, hrun, Result.andThen]
  exact hK' _ _ hK

theorem wpList_store_run {P : Program} {w w2 : World} {ops : Array Oper} {rest : List Oper} {o : Oper} {a : Act} {Q : Exit → Act → World → Prop} (hg : o.guard = none) (p x : Operand) (t : TypeId)
    (hop : o.op = Op.store t p x) {vp vx : Value} (hp : a.eval p = vp) (hx : a.eval x = vx) (hrun : (Instr.storeAt t vp vx).run P w = .ok () w2) (hK : wpList P ops Q rest (a.put o.dst (.tuple #[])) w2) : wpList P ops Q (o :: rest) a w := by
  refine wpList_plain hg fun K hK' => ?_
  unfold Oper.wp
  simp [execOp, hop, hp, hx, hrun, Result.andThen]
  exact hK' _ _ hK

theorem load16 {w : World} {A : Nat} {l : List Int} (h : ArrAt w A l) : (Instr.loadAt 24 (.pointer (some ⟨A, 0, none⟩))).run Tryz.prog w = .ok (addrV l) w := by
  have hl := run_loadCells_list (P := Tryz.prog) w ⟨A, 0, none⟩ (l.map (fun z => Value.int .u8 z)) (fun j v hj => by
    rw [Go.WideShapes.add_plain]
    rw [List.getElem?_map] at hj
    cases hz : l[j]? with
    | none => simp [hz] at hj
    | some z => simp [hz] at hj; subst hj; simpa using h.cell j z hz)
  have h16 : (l.map (fun z => Value.int .u8 z)).length = 16 := by simpa using h.len
  rw [h16] at hl
  have hi : (Tryz.prog.info? 24).map (·.size) = some 16 := by kernel_rfl
  cases hq : Tryz.prog.info? 24 with
  | none => rw [hq] at hi; cases hi
  | some i =>
    rw [hq] at hi
    have hi2 : i.size = 16 := by simpa using hi
    simp [Instr.loadAt, Instr.sureAddr, loadVar, isAgg, sizeOf, typeInfo, run_underlying Tryz.underlying24, hl, hq, hi2]
    rfl

theorem store16 {w : World} {R : Nat} (l : List Int) (hl : l.length = 16) (hc : ∀ i, i < 16 → (w.cell? ⟨R, i, none⟩).isSome = true) (hf : ∀ i, w.frozen? ⟨R, i, none⟩ = false) :
    (Instr.storeAt 24 (.pointer (some ⟨R, 0, none⟩)) (addrV l)).run Tryz.prog w = .ok () (w.setCells R 0 (l.map (fun z => Value.int .u8 z))) := by
  have hst := run_storeCells_cells (P := Tryz.prog) R 0 (l.map (fun z => Value.int .u8 z)) 0 w (fun j hj => by simpa using hc j (by simpa [hl] using hj)) (fun j hj => by simpa using hf j) (by simp [Value.oneCell'])
  have hi : (Tryz.prog.info? 24).map (·.size) = some 16 := by kernel_rfl
  cases hq : Tryz.prog.info? 24 with
  | none => rw [hq] at hi; cases hi
  | some i =>
    rw [hq] at hi
    have hi2 : i.size = 16 := by simpa using hi
    simp [Instr.storeAt, Instr.sureAddr, storeVar, sizeOf, typeInfo, hq, hi2, addrV, Value.cells, hl]
    simpa using hst

theorem Below.setCells {B : Nat} {a : World} {R : Nat} (hB : B ≤ R) : ∀ (vs : List Value) (o : Nat) (w : World), Below B a w → Below B a (w.setCells R o vs)
  | [], _, _, h => h
  | v :: r, o, w, h => by
    unfold World.setCells
    exact Below.setCells hB r (o + 1) _ (h.setCell hB v)

theorem loadVar16 {w : World} {A : Nat} {l : List Int} (h : ArrAt w A l) : (loadVar 24 ⟨A, 0, none⟩).run Tryz.prog w = .ok (addrV l) w := by
  have := load16 h
  simpa [Instr.loadAt, Instr.sureAddr] using this

theorem results_cell1 {P : Program} {fn : Func} {a : Tmp} {t : TypeId} (h : fn.results = #[.cell a t]) {tmps : Array Value} {R : Addr} (hp : tmps.getD a undef = .pointer (some R)) {v : Value} {w : World} (hl : (loadVar t R).run P w = .ok v w) :
    (results fn tmps).run P w = .ok v w := by
  rw [Array.getD_eq_getD_getElem?] at hp
  simp [results, h, hp, asAddr, hl]

theorem results_cell3 {P : Program} {fn : Func} {a b c : Tmp} {t : TypeId} (h : fn.results = #[.cell a t, .tmp b, .tmp c]) {tmps : Array Value} {R : Addr} (hp : tmps.getD a undef = .pointer (some R)) {v : Value} {w : World} (hl : (loadVar t R).run P w = .ok v w) :
    (results fn tmps).run P w = .ok (.tuple #[v, tmps.getD b undef, tmps.getD c undef]) w := by
  rw [Array.getD_eq_getD_getElem?] at hp
  simp [results, h, hp, asAddr, hl]

/-- Behind a store of 16 bytes. -/
theorem arr_stored {w : World} {R : Nat} {l : List Int} (hl : l.length = 16) (hc : ∀ i, i < 16 → (w.cell? ⟨R, i, none⟩).isSome = true) (ht : Typed w R 24) : ArrAt (w.setCells R 0 (l.map (fun z => Value.int .u8 z))) R l := by
  have hW : Wrote R 0 16 w (w.setCells R 0 (l.map (fun z => Value.int .u8 z))) := wrote_setCells R _ 0 _ 0 w w (Wrote.refl _ _ _ _) (Nat.le_refl _) (by simp [hl])
  refine ⟨hl, fun j z hj => ?_, ht.wrote hW⟩
  have hj' := (List.getElem?_eq_some_iff.1 hj)
  obtain ⟨hlt, hz⟩ := hj'
  have := World.cell?_setCells_in R (l.map (fun z => Value.int .u8 z)) 0 w (fun j hj => by simpa using hc j (by simpa [hl] using hj)) j (by simpa using hlt)
  simpa [hz] using this

theorem slice16 (A k : Nat) (hk : k ≤ 16) : ∃ o, (k < 16 → o = k) ∧ ∀ X, (Instr.sliceAt 24 (.pointer (some ⟨A, 0, none⟩)) (some (.int .i64 k)) none none).run Tryz.prog X = .ok (.slice (some ⟨A, o, none⟩) (16 - k) (16 - k)) X := by
  by_cases h : k = 16
  · subst h
    refine ⟨0, fun h => by omega, fun X => ?_⟩
    kernel_rfl
  · refine ⟨k, fun _ => rfl, fun X => ?_⟩
    simp [Instr.sliceAt, go_sem, run_underlying Tryz.underlying24]
    rw [if_pos (by omega), if_neg (by omega)]

theorem copy_end {w1 X : World} {l kk : List Int} {a : Option Addr} {cap A : Nat} (h : Giv w1 l (.slice a l.length cap) X) (hA0 : ArrAt X A kk) (hAB : w1.heap.size ≤ A) (γ : Nat) (hγ : γ ≤ l.length) (hl : l.length ≤ 14) (a' : Option Addr) (o k c : Nat) (hk : k = 16 - (l.length - γ)) (ho : k < 16 → o = k)
    (ha : l.length - γ = 0 ∨ ∃ G, a = some ⟨G, 0, none⟩ ∧ a' = some ⟨G, γ, none⟩) (ty : TypeId) :
    ∃ v' w2, (Builtin.copy_ #[127, 127] ty #[.slice (some ⟨A, o, none⟩) (16 - k) (16 - k), .slice a' (l.length - γ) c]).run Tryz.prog X = .ok v' w2 ∧ ArrAt w2 A (kk.take k ++ l.drop γ) ∧ Below w1.heap.size w1 w2 := by
  by_cases hm : l.length - γ = 0
  · have hinf : (Tryz.prog.info? 5).map (·.size) = some 1 := by kernel_rfl
    have hk16 : k = 16 := by omega
    have e1 : l.drop γ = [] := List.drop_eq_nil_of_le (by omega)
    have e2 : kk.take k = kk := List.take_of_length_le (by rw [hA0.len]; omega)
    refine ⟨_, X, run_copy_none X _ _ ty 5 _ a' _ _ _ c Tryz.underlying127 hinf (by rw [hm]; simp), ?_, h.below⟩
    rw [e1, e2, List.append_nil]
    exact hA0
  · obtain rfl := ho (by omega)
    obtain ⟨v', w2, hrun, hA, hB⟩ := copy_tail h hA0 hAB γ hγ hl a' o (l.length - γ) c (16 - o) rfl (by omega) (by
      rcases ha with h0 | hx
      · exact absurd h0 hm
      · exact .inr hx) ty
    have e : 16 - (l.length - γ) = o := by omega
    have e' : l.length - γ = 16 - o := by omega
    refine ⟨v', w2, ?_, by rw [e] at hA; exact hA, hB⟩
    rw [← e'] at hrun ⊢
    exact hrun

theorem copy_zero (X : World) : ∀ (d a : Option Addr) (x y : Nat), (Builtin.copy_ #[127, 127] 3 #[.slice d 0 x, .slice a 0 y]).run Tryz.prog X = .ok (goInt 0) X := fun d a x y =>
  run_copy_none X _ _ _ 5 d a 0 x 0 y Tryz.underlying127 (by kernel_rfl) (by simp)

theorem gap_list (L : List Int) (γ k : Nat) (hγ : γ ≤ L.length) (hl : L.length ≤ 14) (hk : k = 16 - (L.length - γ)) : (L.take γ ++ List.replicate (16 - γ) 0).take k ++ L.drop γ = L.take γ ++ List.replicate (16 - L.length) 0 ++ L.drop γ := by
  have h1 : (L.take γ).length = γ := by simp; omega
  rw [List.take_append, h1, List.take_of_length_le (by omega), List.take_replicate]
  rw [show min (k - γ) (16 - γ) = 16 - L.length by omega]

end Go.Proofs.YtaebknkjhhcneaaGreatDoor

namespace Go.Proofs.YtaebknkjhhcneaaGreatDoor
open Go Go.RowKit
set_option linter.unusedVariables false

theorem given_bound {g : Grp} (hk : g.Ok) (hgp : g.gapped = true) : g.given.length ≤ 14 ∧ g.ended.length ≤ g.given.length := by
  have hm := hk.most
  rw [hgp, if_pos rfl] at hm
  unfold Grp.given
  split
  · rename_i hd
    rw [if_pos hd] at hm
    simp [Dot.addr]
    omega
  · rename_i hd
    rw [if_neg hd] at hm
    split
    · rename_i hp
      rw [if_neg (by simpa using hp)] at hm
      simp
      omega
    · omega

end Go.Proofs.YtaebknkjhhcneaaGreatDoor

namespace Go.Proofs.YtaebknkjhhcneaaGreatDoor
open Go Go.RowKit
set_option linter.unusedVariables false
set_option linter.unusedSimpArgs false

/-- What is whole has all its bytes. -/
theorem Grp.whole_full {g : Grp} (hk : g.Ok) (hw : g.whole = true) (hgp : g.gapped = false) : g.given.length = 16 := by
  unfold Grp.whole at hw
  unfold Grp.given
  by_cases hd : g.dots = true
  · rw [if_pos hd]
    have := hk.full hd hgp
    simp [Dot.addr, this]
  · rw [if_neg hd] at hw ⊢
    rw [hgp] at hw
    simp at hw
    rw [if_pos hw.1]
    have := hw.2
    unfold Grp.room at this
    rw [hgp] at this
    simp at this
    simp
    omega

theorem Grp.addr_len {g : Grp} (hk : g.Ok) (hw : g.whole = true) : g.addr.length = 16 := by
  have hm := hk.most
  unfold Grp.addr
  by_cases hgp : g.gapped = true
  · rw [if_pos hgp]
    have hgl := hk.gap
    have hl : g.given.length ≤ 14 ∧ g.ended.length ≤ g.given.length := by
      unfold Grp.given
      rw [hgp, if_pos rfl] at hm
      split
      · rename_i hd
        rw [if_pos hd] at hm
        simp [Dot.addr]
        omega
      · rename_i hd
        rw [if_neg hd] at hm
        split
        · rename_i hp
          rw [if_neg (by simpa using hp)] at hm
          simp
          omega
        · omega
    simp
    omega
  · rw [if_neg hgp]
    exact Grp.whole_full hk hw (by simpa using hgp)

/-- A grouped in a block of its own. -/
structure GrpIn (B b : Nat) (g : Grp) (w : World) : Prop where
  cells : GrpAt B b g w
  ok : g.Ok

theorem GrpAt.move {B b : Nat} {g : Grp} {w w' : World} (h : GrpAt B b g w) (hb : w'.heap[b]? = w.heap[b]?) (hrow : ∀ (G : Nat) (cs : Array Value), w.heap[G]? = some (Obj.cells cs 5 (0, 0)) → w'.heap[G]? = w.heap[G]?) : GrpAt B b g w' := by
  have e := fun i => World.cell?_of_block (a := ⟨b, i, none⟩) hb
  obtain ⟨v, h0, hown⟩ := h.row
  obtain ⟨cs, hc⟩ := h.typed
  refine ⟨⟨cs, hb.trans hc⟩, h.hB, ⟨v, (e 0).trans h0, hown.1, hown.2.imp id ?_⟩, (e _).trans h.c1, (e _).trans h.c2, (e _).trans h.c3, (e _).trans h.c4, (e _).trans h.c5, (e _).trans h.c6,
    ⟨(e _).trans h.tail.c0, (e _).trans h.tail.c1, (e _).trans h.tail.c2, (e _).trans h.tail.c3, (e _).trans h.tail.c4, (e _).trans h.tail.c5⟩⟩
  rintro ⟨G, cap, cur, rfl, hB, hg, r⟩
  exact ⟨G, cap, cur, rfl, hB, (hrow G cur hg).trans hg, r⟩

theorem grp_kind {B b : Nat} : Kind grpReader B (fun j => j = b) 223 (.pointer (some ⟨b, 0, none⟩)) 227 228 (GrpIn B b) where
  findT := fun w => by kernel_rfl
  findW := fun w => by kernel_rfl
  entT := fun args w => by kernel_rfl
  entW := fun args w => by kernel_rfl
  take := fun g w r h hr => (grp_take h.cells h.ok hr).mono fun e w' hT => ⟨hT.1, hT.2.1, fun g' hg' => ⟨hT.2.2 g' hg', Grp.take_ok hg' h.ok⟩⟩
  whole := fun g w h => grp_whole h.cells h.ok.len
  step := fun g w k s pos pos' h hk => by
    obtain ⟨h1, h2⟩ := h.cells.typed.iterAt hk pos'
    refine ⟨h.cells.move (Lib.iterAt_other w k b s pos' h2) (fun G cs hG => Lib.iterAt_other w k G s pos' (fun e => ?_)), h.ok⟩
    subst e
    rw [hG] at hk
    cases hk
  alloc := fun g w o h => ⟨h.cells.move (Below.heap_alloc w o b (by obtain ⟨cs, hc⟩ := h.cells.typed; exact (Array.getElem?_eq_some_iff.1 hc).1)) (fun G cs hG => Below.heap_alloc w o G (Array.getElem?_eq_some_iff.1 hG).1), h.ok⟩

theorem read_good {σ : Type} {R : Reader σ} : ∀ (l : List UInt8) (pos : Nat) (st st' : σ), R.read l pos st = .good st' → R.whole st' = true
  | [], pos, st, st', h => by
    unfold Reader.read at h
    split at h
    · rename_i hw
      injection h with h
      rw [← h]
      exact hw
    · cases h
  | c :: l, pos, st, st', h => by
    unfold Reader.read at h
    split at h
    · cases h
    · exact read_good l _ _ _ h

end Go.Proofs.YtaebknkjhhcneaaGreatDoor
