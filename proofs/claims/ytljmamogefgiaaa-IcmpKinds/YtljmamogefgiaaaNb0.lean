/-
  Boxes and new memory, for package icmp.
-/
import Derived.Test.YtljmamogefgiaaaNa3
import Derived.Test.YtljmamogefgiaaaRg
namespace Go.Proofs.Ytljmamogefgiaaa
open Go Go.RowKit Go.ChangeShapes Go.WideShapes Go.ChangeAt
set_option linter.unusedVariables false
set_option linter.unusedSimpArgs false

theorem box_store {ty : TypeId} {n : Nat} {w : World} {R : Nat} {c : List Value} (hs : ∀ w, (Go.sizeOf ty).run Try.prog w = .ok n w) (h : w.heap[R]? = some (.cells c.toArray ty)) (hl : c.length = n) (V : List Value) (hV : V.length = n) (h1 : ∀ v ∈ V, v.oneCell' = true) :
    ∃ w', (Instr.storeAt ty (.pointer (some ⟨R, 0, none⟩)) (.agg V.toArray)).run Try.prog w = .ok () w' ∧ w'.heap[R]? = some (.cells V.toArray ty) ∧ Only R w w' := by
  refine ⟨_, agg_store hs hV h1 (fun j hj => ?_) (fun j => blk_open h j), ?_, Only.sets _ _ _ (Only.refl _ _)⟩
  · rw [Nat.zero_add, blk_cell h (j := j) (v := c[j]'(by omega)) (by simp)]
    rfl
  · rw [blk_sets V 0 c w h, setsL_all _ _ (by omega)]

/-- A new box is given its cells. -/
theorem box_new {ty : TypeId} {n : Nat} (hs : ∀ w, (Go.sizeOf ty).run Try.prog w = .ok n w) (w : World) (c : List Value) (hl : c.length = n) (V : List Value) (hV : V.length = n) (h1 : ∀ v ∈ V, v.oneCell' = true) :
    ∃ w', (Instr.storeAt ty (.pointer (some ⟨w.heap.size, 0, none⟩)) (.agg V.toArray)).run Try.prog (w.alloc (.cells c.toArray ty)) = .ok () w' ∧ w'.heap[w.heap.size]? = some (.cells V.toArray ty) ∧ Below w.heap.size w w' := by
  obtain ⟨w', h, hb, ho⟩ := box_store hs (blk_new w (.cells c.toArray ty)) hl V hV h1
  exact ⟨w', h, hb, ((Below.refl _ w).alloc (Nat.le_refl _) _).trans (ho.below (Nat.le_refl _))⟩

/-- Bytes that lie in memory made behind world w. -/
def New (w : World) (v : Value) (zs : List Int) : Prop := zs.length = 0 ∨ ∃ b off n k, v = .slice (some ⟨b, off, none⟩) n k ∧ w.heap.size ≤ b

theorem New.old {w w' : World} {v : Value} {zs : List Int} (h : New w' v zs) (hs : w.heap.size ≤ w'.heap.size) : New w v zs := h.imp id (fun ⟨b, off, n, k, e, hb⟩ => ⟨b, off, n, k, e, Nat.le_trans hs hb⟩)

theorem New.only {w W W' : World} {g : Nat} {v : Value} {zs : List Int} (h : New w v zs) (hg : g < w.heap.size) (hv : BytesAt W.heap.size W v zs) (ho : Only g W W') : BytesAt W'.heap.size W' v zs :=
  bytes_only hv ho (h.imp id (fun ⟨b, off, n, k, e, hb⟩ => ⟨b, off, n, k, e, Nat.lt_of_lt_of_le hg hb⟩))

theorem ex_move {P : Program} {o : Oper} {a : Act} {W : World} (p : Operand) (hop : o.op = Op.move p) {v : Value} (hp : a.eval p = v) : (execOp a.eval o).run P W = .ok (.value v) W := by
  generalize a.eval = ev at *
  simp [execOp, hop, hp, go_sem]

theorem ex_index {o : Oper} {a : Act} {W : World} (k : Nat) (j : Nat) {b off len cap : Nat} (hop : o.op = Op.indexAddr 24 (.tmp k) (.const (.int .i64 (j : Int)))) (hk : a.eval (.tmp k) = .slice (some ⟨b, off, none⟩) len cap) (hj : j < len) :
    (execOp a.eval o).run Try.prog W = .ok (.value (.pointer (some ⟨b, off + j, none⟩))) W := by
  have hc : a.eval (.const (.int .i64 (j : Int))) = .int .i64 (j : Int) := rfl
  have h1 : ((j : Int) < (len : Int)) := by omega
  generalize a.eval = ev at *
  simp [execOp, hop, hk, hc, go_sem, h1, hj]

theorem ex_load8 {o : Oper} {a : Act} {W : World} (k : Nat) {p : Addr} {x : Int} (hop : o.op = Op.load 5 (.tmp k)) (hk : a.eval (.tmp k) = .pointer (some p)) (hc : W.cell? p = some (.int .u8 x)) :
    (execOp a.eval o).run Try.prog W = .ok (.value (.int .u8 x)) W := by
  generalize a.eval = ev at *
  simp [execOp, hop, hk, go_sem, hc]

end Go.Proofs.Ytljmamogefgiaaa
