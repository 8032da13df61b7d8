/-
  Bytes of one's own that are turned in place: operations of regions that draw.
-/
import Derived.Test.YtackllcfnlhkpaaVe4
namespace Go.Proofs.Ytackllcfnlhkpaa
open Go Go.RowKit
set_option linter.unusedVariables false
set_option linter.unusedSimpArgs false

theorem ex_index {o : Oper} {a : Act} {W : World} (p q : Operand) (hop : o.op = Op.indexAddr 25 p q) {b n k i : Nat} (hp : a.eval p = .slice (some ⟨b, 0, none⟩) n k) (hq : a.eval q = .int .i64 (i : Nat)) (hi : i < n) : (execOp a.eval o).run Try.prog W = .ok (.value (.pointer (some ⟨b, i, none⟩))) W := by
  have h1 : (i : Int) < (n : Int) := by omega
  generalize a.eval = ev at *
  simp [execOp, hop, hp, hq, go_sem, h1, hi]
theorem ld_u8 {W : World} {p : Addr} {x : Int} (h : W.cell? p = some (.int .u8 x)) : (Instr.loadAt 5 (.pointer (some p))).run Try.prog W = .ok (.int .u8 x) W := by
  simp [Instr.loadAt, go_sem, h]
theorem ex_xor {o : Oper} {a : Act} {W : World} (p : Operand) {t : TypeId} (hop : o.op = Op.binOp .xor 5 p (.const (.int .u8 255)) t) {x : Int} (hp : a.eval p = .int .u8 x) : (execOp a.eval o).run Try.prog W = .ok (.value (.int .u8 (bits .xor .u8 x 255))) W := by
  have hc : a.eval (.const (.int .u8 255)) = .int .u8 255 := rfl
  generalize a.eval = ev at *
  simp [execOp, hop, hp, hc, go_sem]
theorem st_u8 {W : World} {b i : Nat} {zs : List Int} (h : OwnG W b zs) (hi : i < zs.length) (x : Int) : (Instr.storeAt 5 (.pointer (some ⟨b, i, none⟩)) (.int .u8 x)).run Try.prog W = .ok () (W.setCell ⟨b, i, none⟩ (.int .u8 x)) := by
  have h1 := h.cell i hi
  have h2 := h.open i
  simp [Instr.storeAt, go_sem, h1, h2]
/-- Two copies of one's own: of the bytes body (block b1) and opts (block b2), apart. -/
structure Two (B : Nat) (W : World) (b1 k1 b2 k2 : Nat) (body opts : List Int) : Prop where
  lo1 : B ≤ b1
  lo2 : B ≤ b2
  lt1 : b1 < W.heap.size
  lt2 : b2 < W.heap.size
  c1 : body.length ≤ k1
  c2 : opts.length ≤ k2
  o1 : body = [] ∨ OwnG W b1 body
  o2 : opts = [] ∨ OwnG W b2 opts
  ne : opts = [] ∨ b1 ≠ b2
theorem app_run {w W : World} {v : Value} {zs : List Int} (h : BytesAt w.heap.size w v zs) (hB : Below w.heap.size w W) (B : Nat) (ty : TypeId) :
    ∃ b k W2, (Builtin.append_ #[25, 25] ty #[.slice (some ⟨B, 0, none⟩) 0 0, v]).run Try.prog W = .ok (.slice (some ⟨b, 0, none⟩) zs.length k) W2 ∧ zs.length ≤ k ∧ Below W.heap.size W W2 ∧ ((zs = [] ∧ b = B) ∨ (W.heap.size ≤ b ∧ OwnG W2 b zs)) := bytes_copied3 (h.later hB) B ty

end Go.Proofs.Ytackllcfnlhkpaa
