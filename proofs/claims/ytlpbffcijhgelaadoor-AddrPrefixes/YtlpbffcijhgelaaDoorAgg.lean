/-
  Structs and arrays as one value: loads, stores and literals of them, whatever the type; none of their cells is looked at.
-/
import Derived.Test.YtlpbffcijhgelaaDoorHi
import Derived.Laws.IdiomCopy
import Derived.Laws.Tables
namespace Go.Proofs.YtlpbffcijhgelaaDoor
open Go Go.RowKit
set_option linter.unusedVariables false
set_option linter.unusedSimpArgs false

/-- The cells of a block from a place on. -/
def CellsAt (w : World) (b o : Nat) (vs : List Value) : Prop := ∀ j v, vs[j]? = some v → w.cell? ⟨b, o + j, none⟩ = some v
theorem CellsAt.of_blk {w : World} {b : Nat} {A : Array Value} {t : TypeId} {fr : Nat × Nat} (h : w.heap[b]? = some (.cells A t fr)) : CellsAt w b 0 A.toList := by
  intro j v hj
  simp only [World.cell?, h, Nat.zero_add]
  simpa using hj
theorem CellsAt.part {w : World} {b o : Nat} {xs ys zs : List Value} (h : CellsAt w b o (xs ++ (ys ++ zs))) : CellsAt w b (o + xs.length) ys := by
  intro j v hj
  have hl := (List.getElem?_eq_some_iff.1 hj).1
  have := h (xs.length + j) v (by rw [List.getElem?_append_right (by omega), Nat.add_sub_cancel_left, List.getElem?_append_left hl]; exact hj)
  rwa [Nat.add_assoc]
theorem CellsAt.fst {w : World} {b o : Nat} {xs ys : List Value} (h : CellsAt w b o (xs ++ ys)) : CellsAt w b o xs := by
  intro j v hj
  have hl := (List.getElem?_eq_some_iff.1 hj).1
  exact h j v (by rw [List.getElem?_append_left hl]; exact hj)

theorem CellsAt.lt {w : World} {b o : Nat} {v : Value} {vs : List Value} (h : CellsAt w b o (v :: vs)) : b < w.heap.size := by
  have := h 0 v rfl
  unfold World.cell? at this
  cases hw : w.heap[b]? with
  | none => rw [hw] at this; simp at this
  | some ob => exact (Array.getElem?_eq_some_iff.1 hw).1
theorem CellsAt.up {w : World} {b o : Nat} {vs : List Value} (h : CellsAt w b o vs) (hb : b < w.heap.size) (x : Hi w) : CellsAt x.W b o vs := by
  intro j v hj
  exact (x.below.cell (p := ⟨b, o + j, none⟩) hb).trans (h j v hj)
theorem agg_load {t n : Nat} {w : World} {b o : Nat} {vs : List Value} (ha : ∀ w, (isAgg t).run Tryd.prog w = .ok true w) (hs : ∀ w, (Go.sizeOf t).run Tryd.prog w = .ok n w) (hl : vs.length = n) (h : CellsAt w b o vs) :
    (Instr.loadAt t (.pointer (some ⟨b, o, none⟩))).run Tryd.prog w = .ok (.agg vs.toArray) w := by
  have hl' := run_loadCells_list (P := Tryd.prog) w ⟨b, o, none⟩ vs (fun j v hj => by rw [Go.WideShapes.add_plain]; exact h j v hj)
  rw [hl] at hl'
  simp [Instr.loadAt, Instr.sureAddr, loadVar, ha, hs, hl']
theorem agg_loadVar {t n : Nat} {w : World} {b o : Nat} {vs : List Value} (ha : ∀ w, (isAgg t).run Tryd.prog w = .ok true w) (hs : ∀ w, (Go.sizeOf t).run Tryd.prog w = .ok n w) (hl : vs.length = n) (h : CellsAt w b o vs) :
    (loadVar t ⟨b, o, none⟩).run Tryd.prog w = .ok (.agg vs.toArray) w := by
  have := agg_load ha hs hl h
  simpa [Instr.loadAt, Instr.sureAddr] using this
theorem agg_store {t n : Nat} {w : World} {b o : Nat} {vs : List Value} (hs : ∀ w, (Go.sizeOf t).run Tryd.prog w = .ok n w) (hl : vs.length = n) (h1 : ∀ v ∈ vs, v.oneCell' = true)
    (hc : ∀ j, j < vs.length → (w.cell? ⟨b, o + j, none⟩).isSome = true) (hf : ∀ j, w.frozen? ⟨b, j, none⟩ = false) :
    (Instr.storeAt t (.pointer (some ⟨b, o, none⟩)) (.agg vs.toArray)).run Tryd.prog w = .ok () (w.setCells b o vs) := by
  have hst := run_storeCells_cells (P := Tryd.prog) b o vs 0 w (fun j hj => by simpa using hc j hj) (fun j hj => hf _) h1
  simp [Instr.storeAt, Instr.sureAddr, storeVar, hs, Value.cells, hl]
  simpa using hst

theorem arm_load {P : Program} {w : World} {ops : Array Oper} {rest : List Oper} {o : Oper} {a : Act} {Q : Exit → Act → World → Prop} (hg : Region.wanted o (yielded ops a.tmps) = true) (p : Operand) (t : TypeId)
    (hop : o.op = Op.load t p) {vp v : Value} (hp : a.eval p = vp) (hrun : (Instr.loadAt t vp).run P w = .ok v w) (hK : wpList P ops Q rest (a.put o.dst v) w) : wpList P ops Q (o :: rest) a w := by
  refine BigFrame.wpList_want hg fun K hK' => ?_
  unfold Oper.wp
  simp [execOp, hop, hp, hrun, Result.andThen]
  exact hK' _ _ hK
theorem arm_store {P : Program} {w w2 : World} {ops : Array Oper} {rest : List Oper} {o : Oper} {a : Act} {Q : Exit → Act → World → Prop} (hg : Region.wanted o (yielded ops a.tmps) = true) (p x : Operand) (t : TypeId)
    (hop : o.op = Op.store t p x) {vp vx : Value} (hp : a.eval p = vp) (hx : a.eval x = vx) (hrun : (Instr.storeAt t vp vx).run P w = .ok () w2) (hK : wpList P ops Q rest (a.put o.dst (.tuple #[])) w2) : wpList P ops Q (o :: rest) a w := by
  refine BigFrame.wpList_want hg fun K hK' => ?_
  unfold Oper.wp
  simp [execOp, hop, hp, hx, hrun, Result.andThen]
  exact hK' _ _ hK
theorem arm_build {P : Program} {w : World} {ops : Array Oper} {rest : List Oper} {o : Oper} {a : Act} {Q : Exit → Act → World → Prop} (hg : Region.wanted o (yielded ops a.tmps) = true) (t : TypeId) (ps : List (Nat × Operand))
    (hop : o.op = Op.build t ps.toArray) {vs : List (Nat × Value)} (hv : ps.map (fun p => (p.1, a.eval p.2)) = vs) {v : Value} (hrun : (Instr.build t vs.toArray).run P w = .ok v w) (hK : wpList P ops Q rest (a.put o.dst v) w) : wpList P ops Q (o :: rest) a w := by
  refine BigFrame.wpList_want hg fun K hK' => ?_
  unfold Oper.wp
  have e : (ps.toArray.map fun (i, x) => (i, a.eval x)) = vs.toArray := by
    rw [← hv]
    simp
  simp only [execOp, hop]
  rw [e]
  simp [hrun, Result.andThen]
  exact hK' _ _ hK
theorem CellsAt.stored {b o : Nat} (vs : List Value) {w : World} (hc : ∀ j, j < vs.length → (w.cell? ⟨b, o + j, none⟩).isSome = true) : CellsAt (w.setCells b o vs) b o vs := by
  intro j v hj
  obtain ⟨hlt, hz⟩ := List.getElem?_eq_some_iff.1 hj
  have := World.cell?_setCells_in b vs o w hc j hlt
  rw [this, hz]
theorem Below.sets {B : Nat} {a : World} {R : Nat} (hB : B ≤ R) : ∀ (vs : List Value) (o : Nat) (w : World), Below B a w → Below B a (w.setCells R o vs)
  | [], _, _, h => h
  | v :: r, o, w, h => by
    unfold World.setCells
    exact Below.sets hB r (o + 1) _ (h.setCell hB v)
theorem arm_bin {P : Program} {w : World} {ops : Array Oper} {rest : List Oper} {o : Oper} {a : Act} {Q : Exit → Act → World → Prop} (hg : Region.wanted o (yielded ops a.tmps) = true) (b : BinOp) (t u : TypeId) (x y : Operand)
    (hop : o.op = Op.binOp b t x y u) {vx vy v : Value} (hx : a.eval x = vx) (hy : a.eval y = vy) (hgd : (eqGuard b t x y vx vy).run P w = .ok () w) (hrun : (binOp b t vx vy).run P w = .ok v w) (hK : wpList P ops Q rest (a.put o.dst v) w) : wpList P ops Q (o :: rest) a w := by
  refine BigFrame.wpList_want hg fun K hK' => ?_
  unfold Oper.wp
  simp [execOp, hop, hx, hy, hgd, hrun, Result.andThen]
  exact hK' _ _ hK

/-- The same in a region that draws: a load, in every world above. -/
theorem hi_load {P : Program} {w : World} {o : Oper} {a : Act} {K : Act → Prop} (p : Operand) (t : TypeId) (hop : o.op = Op.load t p) {vp v : Value} (hp : a.eval p = vp) (hrun : ∀ x : Hi w, (Instr.loadAt t vp).run P x.W = .ok v x.W) (hK : K (a.put o.dst v)) :
    o.quiet P a (fun w' => ∃ x : Hi w, w' = x.W) K := by
  refine ⟨v, fun W hW => ?_, hK⟩
  obtain ⟨x, rfl⟩ := hW
  unfold Oper.quietAt
  simp [execOp, hop, hp, hrun, Result.andThen, Oper.quietUpon]

end Go.Proofs.YtlpbffcijhgelaaDoor
