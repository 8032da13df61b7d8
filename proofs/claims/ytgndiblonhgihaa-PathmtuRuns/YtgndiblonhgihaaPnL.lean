/-
  New of good settings.
-/
import Derived.Test.YtgndiblonhgihaaPnK
namespace Go.Proofs.Ytgndiblonhgihaa
open Go Go.RowKit Go.Lib
set_option linter.unusedVariables false
set_option linter.unusedSimpArgs false

def cfC (cf : Cf) : List Value := [.int .i64 cf.lim, .int .i64 cf.link, .int .i64 cf.life, .int .i64 cf.least]
set_option maxHeartbeats 4000000 in
set_option maxRecDepth 100000 in
theorem may_yes {cf : Cf} (h : cf.Ok) (W : World) : Calls Try.prog 19 #[.agg (cfC cf).toArray] W fun e w' => e = .returned (.bool true) ∧ Below W.heap.size W w' := by
  obtain ⟨⟨h1, h2⟩, ⟨h3, h4⟩, h5, ⟨h6, h7⟩⟩ := h
  obtain ⟨lim, link, life, least⟩ := cf
  simp only at h1 h2 h3 h4 h5 h6 h7
  have q1 : decide (lim < 1) = false := decide_eq_false (by omega)
  have q2 : decide (lim > 4096) = false := decide_eq_false (by omega)
  have q2b : decide (4096 < lim) = false := decide_eq_false (by omega)
  have q3 : decide (life < 1) = false := decide_eq_false (by omega)
  have q4 : decide (life > 2147483648) = false := decide_eq_false (by omega)
  have q4b : decide (2147483648 < life) = false := decide_eq_false (by omega)
  have q5 : decide ((68 : Int) ≤ least) = true := decide_eq_true h5
  have q6 : decide (least ≤ link) = true := decide_eq_true h6
  have q7 : decide (link ≤ 65535) = true := decide_eq_true h7
  have HB : Hid (Below W.heap.size W (W.alloc (.cells (cfC ⟨lim, link, life, least⟩).toArray 23))) := (Below.refl W.heap.size W).alloc (Nat.le_refl _) _
  unfold cfC at *
  go_enter Try.func19, Try.ntmps19
  go_wp2
  all_goals (try go_returns)
  all_goals first | exact ⟨rfl, HB.out⟩ | (refine ⟨?_, HB.out⟩; simp_all) | (exfalso; omega)
end Go.Proofs.Ytgndiblonhgihaa
