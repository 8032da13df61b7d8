/-
  A part of two, for package icmp.
-/
import Derived.Test.YtljmamogefgiaaaNc2
namespace Go.Proofs.Ytljmamogefgiaaa
open Go Go.RowKit Go.ChangeShapes Go.WideShapes Go.ChangeAt
set_option linter.unusedVariables false
set_option linter.unusedSimpArgs false

theorem wp_parts2 {o : Oper} {a : Act} {d : Option Nat} {w : World} {K : Act → World → Prop} {Q : Exit → Act → World → Prop} (p0 p1 : Operand) (hop : o.op = Op.buildSlice 76 2 #[(0, p0), (1, p1)]) (hd : o.dst = d) {v0 v1 : Value} (h0 : a.eval p0 = v0) (h1 : a.eval p1 = v1)
    (s0 : ∃ x n m, v0 = .slice x n m) (s1 : ∃ x n m, v1 = .slice x n m)
    (hK : K (a.put d (.slice (some ⟨w.heap.size, 0, none⟩) 2 2)) (w.alloc (.cells #[v0, v1] 24))) : o.wp Try.prog a w K Q := by
  obtain ⟨x0, n0, m0, rfl⟩ := s0
  obtain ⟨x1, n1, m1, rfl⟩ := s1
  subst hd
  unfold Oper.wp
  generalize hev : a.eval = ev at *
  simp [execOp, hop, h0, h1, go_sem]
  exact hK

end Go.Proofs.Ytljmamogefgiaaa
