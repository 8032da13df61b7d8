/-
  IPv4 prefixes: the program's Has4, and that both sides say the same of what a prefix has and covers.
-/
import Derived.Test.YtopbbljnhnhpaaaDoorAddrArg
import Derived.Test.YtopbbljnhnhpaaaDoorAddrCov
namespace Go.Proofs.YtopbbljnhnhpaaaDoor
open Go Go.RowKit
set_option linter.unusedVariables false
set_option linter.unusedSimpArgs false

theorem ok32 {a0 a1 a2 a3 : Int} (h0 : 0 ≤ a0 ∧ a0 < 256) (h1 : 0 ≤ a1 ∧ a1 < 256) (h2 : 0 ≤ a2 ∧ a2 < 256) (h3 : 0 ≤ a3 ∧ a3 < 256) : okP4 a0 a1 a2 a3 32 = true := by
  have h := low_ok (a0 := a0) (a1 := a1) (a2 := a2) (a3 := a3) 32 (Nat.le_refl _) h0 h1 h2 h3
  have hl : lowB [a0, a1, a2, a3] 32 = true := by
    unfold lowB
    exact decide_eq_true (fun i hi hn => by simp at hi; omega)
  rw [hl] at h
  unfold okP4
  rw [decide_eq_true (by omega), Bool.true_and]
  exact h.symm

theorem cov_same (a0 a1 a2 a3 n b0 b1 b2 b3 m : Int) : rcovB a0 a1 a2 a3 n b0 b1 b2 b3 m = covB a0 a1 a2 a3 n b0 b1 b2 b3 m := by
  unfold rcovB covB hasB
  rw [Bool.and_comm]
  congr 1
  rw [decide_eq_decide]
  exact ⟨Eq.symm, Eq.symm⟩
theorem has_same {a0 a1 a2 a3 n b0 b1 b2 b3 : Int} (h0 : 0 ≤ b0 ∧ b0 < 256) (h1 : 0 ≤ b1 ∧ b1 < 256) (h2 : 0 ≤ b2 ∧ b2 < 256) (h3 : 0 ≤ b3 ∧ b3 < 256) :
    (bothOk a0 a1 a2 a3 n b0 b1 b2 b3 32 && covB a0 a1 a2 a3 n b0 b1 b2 b3 32) = (okP4 a0 a1 a2 a3 n && hasB a0 a1 a2 a3 n b0 b1 b2 b3) ∧ bothOk a0 a1 a2 a3 n b0 b1 b2 b3 32 = okP4 a0 a1 a2 a3 n := by
  have e : bothOk a0 a1 a2 a3 n b0 b1 b2 b3 32 = okP4 a0 a1 a2 a3 n := by
    unfold bothOk
    rw [ok32 h0 h1 h2 h3, Bool.and_true]
  refine ⟨?_, e⟩
  rw [e]
  cases hok : okP4 a0 a1 a2 a3 n
  · rfl
  · have hn : 0 ≤ n ∧ n ≤ 32 := by simp [okP4] at hok; exact hok.1
    rw [← cov_same]
    unfold rcovB
    rw [decide_eq_true hn.2, Bool.and_true]

set_option maxHeartbeats 2000000 in
set_option maxRecDepth 100000 in
theorem Has4_calls (a0 a1 a2 a3 n b0 b1 b2 b3 : Int) (w : World) (ha : Fits a0 a1 a2 a3 n) (g0 : 0 ≤ b0 ∧ b0 < 256) (g1 : 0 ≤ b1 ∧ b1 < 256) (g2 : 0 ≤ b2 ∧ b2 < 256) (g3 : 0 ≤ b3 ∧ b3 < 256) :
    Calls Tryd.prog 30 #[P4 a0 a1 a2 a3 n, A4 b0 b1 b2 b3] w fun e w' => e = .returned (.tuple #[.bool (okP4 a0 a1 a2 a3 n && hasB a0 a1 a2 a3 n b0 b1 b2 b3), .int .i64 (if okP4 a0 a1 a2 a3 n then 0 else 22)]) ∧ Below w.heap.size w w' := by
  have hB : Below w.heap.size w ((w.alloc (.cells #[.int .u8 a0, .int .u8 a1, .int .u8 a2, .int .u8 a3, .int .i64 n] 38)).alloc (.cells #[.int .u8 b0, .int .u8 b1, .int .u8 b2, .int .u8 b3] 23)) := ((Below.refl _ w).alloc (Nat.le_refl _) _).alloc (by simp) _
  have hs := @has_same a0 a1 a2 a3 n b0 b1 b2 b3 g0 g1 g2 g3
  have hc : ∀ w : World, Calls Tryd.prog 32 #[P4 a0 a1 a2 a3 n, P4 b0 b1 b2 b3 32] w fun e w' => e = .returned (.tuple #[.bool (okP4 a0 a1 a2 a3 n && hasB a0 a1 a2 a3 n b0 b1 b2 b3), .int .i64 (if okP4 a0 a1 a2 a3 n then 0 else 22)]) ∧ Below w.heap.size w w' := by
    intro w
    have h := Cover4_calls a0 a1 a2 a3 n b0 b1 b2 b3 32 w ha ⟨g0, g1, g2, g3, by omega⟩
    rw [hs.1, hs.2] at h
    exact h
  generalize (okP4 a0 a1 a2 a3 n && hasB a0 a1 a2 a3 n b0 b1 b2 b3) = r1 at *
  generalize (if okP4 a0 a1 a2 a3 n = true then (0 : Int) else 22) = r2 at *
  have HC : Hid _ := hc
  have HB : Hid _ := hB
  clear hc hB hs
  go_enter Tryd.func30, Tryd.ntmps30
  go_wp2_with fail
  refine Calls.mono (HC.out _) ?_
  rintro e w2 ⟨rfl, hB2⟩
  go_wp2
  go_ret2
  exact ⟨rfl, HB.out.trans (hB2.mono HB.out.size)⟩

end Go.Proofs.YtopbbljnhnhpaaaDoor
