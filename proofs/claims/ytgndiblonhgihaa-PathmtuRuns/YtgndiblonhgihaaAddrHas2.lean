/-
  IPv4 prefixes: the program's Has4, and that both sides say the same of what a prefix has and covers.
-/
import Derived.Test.YtgndiblonhgihaaAddrArg
import Derived.Test.YtgndiblonhgihaaAddrCov
namespace Go.Proofs.Ytgndiblonhgihaa
open Go Go.RowKit
set_option linter.unusedVariables false
set_option linter.unusedSimpArgs false

theorem ok32 {a0 a1 a2 a3 : Int} (h0 : 0 ≤ a0 ∧ a0 < 256) (h1 : 0 ≤ a1 ∧ a1 < 256) (h2 : 0 ≤ a2 ∧ a2 < 256) (h3 : 0 ≤ a3 ∧ a3 < 256) : okP4 a0 a1 a2 a3 32 = true := by
  have h := low_ok (a0 := a0) (a1 := a1) (a2 := a2) (a3 := a3) 32 (Nat.le_refl _) h0 h1 h2 h3
  have hl : lowB [a0, a1, a2, a3] 32 = true := by
    unfold lowB
    exact decide_eq_true (fun i hi hn => by simp at hi; omega)
  rw [hl] at h
  unfold okP4
  rw [decide_eq_true (by omega), Bool.true_and]
  exact h.symm

theorem cov_same (a0 a1 a2 a3 n b0 b1 b2 b3 m : Int) : rcovB a0 a1 a2 a3 n b0 b1 b2 b3 m = covB a0 a1 a2 a3 n b0 b1 b2 b3 m := by
  unfold rcovB covB hasB
  rw [Bool.and_comm]
  congr 1
  rw [decide_eq_decide]
  exact ⟨Eq.symm, Eq.symm⟩
theorem has_same {a0 a1 a2 a3 n b0 b1 b2 b3 : Int} (h0 : 0 ≤ b0 ∧ b0 < 256) (h1 : 0 ≤ b1 ∧ b1 < 256) (h2 : 0 ≤ b2 ∧ b2 < 256) (h3 : 0 ≤ b3 ∧ b3 < 256) :
    (bothOk a0 a1 a2 a3 n b0 b1 b2 b3 32 && covB a0 a1 a2 a3 n b0 b1 b2 b3 32) = (okP4 a0 a1 a2 a3 n && hasB a0 a1 a2 a3 n b0 b1 b2 b3) ∧ bothOk a0 a1 a2 a3 n b0 b1 b2 b3 32 = okP4 a0 a1 a2 a3 n := by
  have e : bothOk a0 a1 a2 a3 n b0 b1 b2 b3 32 = okP4 a0 a1 a2 a3 n := by
    unfold bothOk
    rw [ok32 h0 h1 h2 h3, Bool.and_true]
  refine ⟨?_, e⟩
  rw [e]
  cases hok : okP4 a0 a1 a2 a3 n
  · rfl
  · have hn : 0 ≤ n ∧ n ≤ 32 := by simp [okP4] at hok; exact hok.1
    rw [← cov_same]
    unfold rcovB
    rw [decide_eq_true hn.2, Bool.and_true]

end Go.Proofs.Ytgndiblonhgihaa
