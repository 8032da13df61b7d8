/-
  An address as groups.
-/
import Derived.Test.YtiigcilclblblaaDoorAddrT6
import Derived.Test.YtiigcilclblblaaDoorAddrParse6
import Derived.Laws.BitsAllLaws
namespace Go.Proofs.YtiigcilclblblaaDoor
open Go Go.RowKit
set_option linter.unusedVariables false
set_option linter.unusedSimpArgs false

theorem or8 (a b : Int) (ha : 0 ≤ a ∧ a < 256) (hb : 0 ≤ b ∧ b < 256) : bits .or .u16 (a * 256) b = a * 256 + b := by
  obtain ⟨x, rfl⟩ := Int.eq_ofNat_of_zero_le ha.1
  obtain ⟨y, rfl⟩ := Int.eq_ofNat_of_zero_le hb.1
  rw [u16_or _ _ (by omega) (by omega) (by omega) (by omega)]
  have e1 : ((x : Int) * 256).toNat = 2 ^ 8 * x := by omega
  have e2 : (y : Int).toNat = y := by omega
  rw [e1, e2, ← Nat.two_pow_add_eq_or_of_lt (by omega) x]
  omega

set_option maxHeartbeats 8000000 in
set_option maxRecDepth 100000 in
theorem groups_calls (a0 a1 a2 a3 a4 a5 a6 a7 a8 a9 a10 a11 a12 a13 a14 a15 : Int) (h0 : 0 ≤ a0 ∧ a0 < 256) (h1 : 0 ≤ a1 ∧ a1 < 256) (h2 : 0 ≤ a2 ∧ a2 < 256) (h3 : 0 ≤ a3 ∧ a3 < 256) (h4 : 0 ≤ a4 ∧ a4 < 256) (h5 : 0 ≤ a5 ∧ a5 < 256) (h6 : 0 ≤ a6 ∧ a6 < 256) (h7 : 0 ≤ a7 ∧ a7 < 256) (h8 : 0 ≤ a8 ∧ a8 < 256) (h9 : 0 ≤ a9 ∧ a9 < 256) (h10 : 0 ≤ a10 ∧ a10 < 256) (h11 : 0 ≤ a11 ∧ a11 < 256) (h12 : 0 ≤ a12 ∧ a12 < 256) (h13 : 0 ≤ a13 ∧ a13 < 256) (h14 : 0 ≤ a14 ∧ a14 < 256) (h15 : 0 ≤ a15 ∧ a15 < 256) (w : World) : Calls Tryd.prog 59 #[.agg #[.int .u8 a0, .int .u8 a1, .int .u8 a2, .int .u8 a3, .int .u8 a4, .int .u8 a5, .int .u8 a6, .int .u8 a7, .int .u8 a8, .int .u8 a9, .int .u8 a10, .int .u8 a11, .int .u8 a12, .int .u8 a13, .int .u8 a14, .int .u8 a15]] w fun e w' => e = .returned (.agg #[.int .u16 (a0 * 256 + a1), .int .u16 (a2 * 256 + a3), .int .u16 (a4 * 256 + a5), .int .u16 (a6 * 256 + a7), .int .u16 (a8 * 256 + a9), .int .u16 (a10 * 256 + a11), .int .u16 (a12 * 256 + a13), .int .u16 (a14 * 256 + a15)]) ∧ Below w.heap.size w w' := by
  have o0 := or8 a0 a1 h0 h1
  have o1 := or8 a2 a3 h2 h3
  have o2 := or8 a4 a5 h4 h5
  have o3 := or8 a6 a7 h6 h7
  have o4 := or8 a8 a9 h8 h9
  have o5 := or8 a10 a11 h10 h11
  have o6 := or8 a12 a13 h12 h13
  have o7 := or8 a14 a15 h14 h15
  go_enter Tryd.func59, Tryd.ntmps59
  go_wp2
  refine wp_loop_rounds 9 ?_
  iterate 8 (rw [rounds_succ]; go_wp2; go_region; go_wp2)
  rw [rounds_succ]
  go_wp2
  go_returns
  refine ⟨by first | rfl | kernel_rfl, ?_⟩
  go_grown

end Go.Proofs.YtiigcilclblblaaDoor
