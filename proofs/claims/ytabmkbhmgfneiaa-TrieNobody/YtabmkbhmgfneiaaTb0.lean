/-
  How many first bits of a byte are 0.
-/
import Derived.Test.YtabmkbhmgfneiaaTa8
namespace Go.Proofs.Ytabmkbhmgfneiaa
open Go Go.RowKit Go.Shelf
set_option linter.unusedVariables false
set_option linter.unusedSimpArgs false
/-- How many bits a byte needs. -/
def ln8 (x : Nat) : Nat := if x = 0 then 0 else if x < 2 then 1 else if x < 4 then 2 else if x < 8 then 3 else if x < 16 then 4 else if x < 32 then 5 else if x < 64 then 6 else if x < 128 then 7 else 8
theorem ln8_le (x : Nat) : ln8 x ≤ 8 := by
  unfold ln8
  repeat' split
  all_goals omega
set_option maxHeartbeats 1000000 in
set_option maxRecDepth 100000 in
theorem Len8_calls (x : Nat) (hx : x < 256) (w : World) : Calls Try.prog 88 #[.int .u8 (x : Int)] w fun e w' => e = .returned (.int .i64 (ln8 x : Nat)) ∧ w' = w := by
  go_enter Try.func88, Try.ntmps88
  go_wp2
  go_ret
  refine ⟨congrArg (fun z => Ending.returned (.int .i64 z)) ?_, rfl⟩
  rename_i h
  revert h
  revert hx
  revert x
  decide +kernel
def clz (x : Nat) : Nat := 8 - ln8 x
theorem clz_tab : ∀ x, x < 256 → x ≠ 0 → clz x < 8 ∧ bk x (7 - clz x) ≠ 0 ∧ ∀ j, j < 8 → j < clz x → bk x (7 - j) = 0 := by decide +kernel
set_option maxHeartbeats 1000000 in
set_option maxRecDepth 100000 in
theorem LZ8_calls (x : Nat) (hx : x < 256) (w : World) : Calls Try.prog 87 #[.int .u8 (x : Int)] w fun e w' => e = .returned (.int .i64 (clz x : Nat)) ∧ w' = w := by
  have HC : Hid _ := fun w => Len8_calls x hx w
  have hl := ln8_le x
  have e8 : (8 : Int) - (ln8 x : Nat) = (clz x : Nat) := by unfold clz; omega
  have hz : clz x ≤ 8 := by unfold clz; omega
  generalize clz x = c at *
  generalize ln8 x = l at *
  go_enter Try.func87, Try.ntmps87
  go_wp2_with fail
  refine Calls.mono (HC.out _) ?_
  rintro e w' ⟨rfl, rfl⟩
  go_wp2
  go_ret
  refine ⟨congrArg (fun z => Ending.returned (.int .i64 z)) ?_, rfl⟩
  first | exact e8 | (simp only [wrap64]; omega) | omega
end Go.Proofs.Ytabmkbhmgfneiaa
