/-
  Port sets: Check of the program, Right and Check of the document.
-/
import Derived.Test.YtmcofmdogopfjaaHi
namespace Go.Proofs.Ytmcofmdogopfjaa
open Go Go.RowKit
set_option linter.unusedVariables false
set_option linter.unusedSimpArgs false

/-- A port set. -/
abbrev PS (o l p : Int) : Value := .agg #[.int .i64 o, .int .i64 l, .int .u16 p]
def In64 (n : Int) : Prop := -9223372036854775808 ≤ n ∧ n ≤ 9223372036854775807
def cutOk (o l : Int) : Prop := 0 ≤ o ∧ o ≤ 15 ∧ 0 ≤ l ∧ l ≤ 16 - o
instance (o l : Int) : Decidable (cutOk o l) := by unfold cutOk; infer_instance
def setOk (o l p : Int) : Prop := cutOk o l ∧ p < 2 ^ l.toNat
instance (o l p : Int) : Decidable (setOk o l p) := by unfold setOk; infer_instance
theorem pow_le16 {l : Nat} (h : l ≤ 16) : (2 : Int) ^ l ≤ 65536 := by
  have h2 : (2 : Nat) ^ l ≤ 65536 := Nat.pow_le_pow_right (n := 2) (j := 16) (by omega) h
  have h3 : (2 : Int) ^ l = ((2 ^ l : Nat) : Int) := by rw [Int.natCast_pow]; rfl
  rw [h3]
  omega
theorem pow_ge1 (l : Nat) : (1 : Int) ≤ 2 ^ l := by
  have h2 : 1 ≤ (2 : Nat) ^ l := Nat.one_le_two_pow
  have h3 : (2 : Int) ^ l = ((2 ^ l : Nat) : Int) := by rw [Int.natCast_pow]; rfl
  rw [h3]
  omega
theorem bA (w : World) (o : Obj) : Below w.heap.size w (w.alloc o) := (Below.refl _ w).alloc (Nat.le_refl _) o
theorem bD {B : Nat} {u w : World} (h : Below B u w) (n : Nat) : Below B u (w.drewN n) := ⟨h.os, h.tape, h.output, h.size, h.block⟩

theorem cutOk_zero {o l : Int} (h : cutOk o l) : setOk o l 0 := ⟨h, by have := pow_ge1 l.toNat; omega⟩

set_option maxHeartbeats 400000 in
theorem Check_any (o l p : Int) (w : World) (ho : In64 o) (hl : In64 l) (hp : 0 ≤ p ∧ p < 65536) :
    Calls Try.prog 13 #[PS o l p] w fun e w' => e = .returned (.int .i64 (if setOk o l p then 0 else 90)) ∧ Below w.heap.size w w' := by
  obtain ⟨ho1, ho2⟩ := ho
  obtain ⟨hl1, hl2⟩ := hl
  have hB := bA w (Obj.cells #[.int .i64 o, .int .i64 l, .int .u16 p] 24)
  by_cases h1 : 0 ≤ o ∧ o ≤ 15
  · by_cases h2 : 0 ≤ l ∧ l ≤ 16 - o
    · obtain ⟨n, rfl⟩ := Int.eq_ofNat_of_zero_le h2.1
      have k1 := pow_le16 (l := n) (by omega)
      have k2 := pow_ge1 n
      by_cases h3 : p < 2 ^ n
      · rw [if_pos (show setOk o n p from ⟨⟨h1.1, h1.2, h2.1, h2.2⟩, by simpa using h3⟩)]
        go_enter Try.func13, Try.ntmps13
        go_wp2
        go_quiet (fail)
        go_wp2
        go_ret
        exact ⟨rfl, bD hB _⟩
      · rw [if_neg (show ¬ setOk o n p from fun h => h3 (by simpa using h.2))]
        go_enter Try.func13, Try.ntmps13
        go_wp2
        go_quiet (fail)
        go_wp2
        go_ret
        exact ⟨rfl, bD hB _⟩
    · rw [if_neg (show ¬ setOk o l p from fun h => h2 h.1.2.2)]
      go_enter Try.func13, Try.ntmps13
      go_wp2
      all_goals
        go_ret
        exact ⟨rfl, hB⟩
  · rw [if_neg (show ¬ setOk o l p from fun h => h1 ⟨h.1.1, h.1.2.1⟩)]
    go_enter Try.func13, Try.ntmps13
    go_wp2
    all_goals
      go_ret
      exact ⟨rfl, hB⟩

set_option maxHeartbeats 1000000 in
theorem Right_any (o l p : Int) (w : World) (ho : In64 o) (hl : In64 l) (hp : 0 ≤ p ∧ p < 65536) :
    Calls Try.prog 27 #[PS o l p] w fun e w' => e = .returned (.bool (decide (setOk o l p))) ∧ Below w.heap.size w w' := by
  obtain ⟨ho1, ho2⟩ := ho
  obtain ⟨hl1, hl2⟩ := hl
  have hB := bA w (Obj.cells #[.int .i64 o, .int .i64 l, .int .u16 p] 24)
  by_cases h1 : 0 ≤ o
  · by_cases h2 : o ≤ 15
    · by_cases h3 : 0 ≤ l
      · by_cases h4 : l ≤ 16 - o
        · obtain ⟨n, rfl⟩ := Int.eq_ofNat_of_zero_le h3
          have k1 := pow_le16 (l := n) (by omega)
          have k2 := pow_ge1 n
          by_cases h5 : p < 2 ^ n
          · rw [decide_eq_true (show setOk o n p from ⟨⟨h1, h2, h3, h4⟩, by simpa using h5⟩)]
            go_enter Try.func27, Try.ntmps27
            go_wp2
            go_quiet (fail)
            go_wp2
            go_ret
            exact ⟨by simp [*], bD hB _⟩
          · rw [decide_eq_false (show ¬ setOk o n p from fun h => h5 (by simpa using h.2))]
            go_enter Try.func27, Try.ntmps27
            go_wp2
            go_quiet (fail)
            go_wp2
            go_ret
            exact ⟨by simp [*], bD hB _⟩
        · rw [decide_eq_false (show ¬ setOk o l p from fun h => h4 h.1.2.2.2)]
          have d4 : decide (l ≤ 16 - o) = false := decide_eq_false h4
          go_enter Try.func27, Try.ntmps27
          go_wp2
          go_quiet (fail)
          go_wp2
          go_ret
          exact ⟨by simp [*], bD hB _⟩
      · rw [decide_eq_false (show ¬ setOk o l p from fun h => h3 h.1.2.2.1)]
        have d3 : decide (0 ≤ l) = false := decide_eq_false h3
        go_enter Try.func27, Try.ntmps27
        go_wp2
        go_quiet (fail)
        go_wp2
        go_ret
        exact ⟨by simp [*], bD hB _⟩
    · rw [decide_eq_false (show ¬ setOk o l p from fun h => h2 h.1.2.1)]
      have d2 : decide (o ≤ 15) = false := decide_eq_false h2
      go_enter Try.func27, Try.ntmps27
      go_wp2
      go_quiet (fail)
      go_wp2
      go_ret
      exact ⟨by simp [*], bD hB _⟩
  · rw [decide_eq_false (show ¬ setOk o l p from fun h => h1 h.1.1)]
    have d1 : decide (0 ≤ o) = false := decide_eq_false h1
    go_enter Try.func27, Try.ntmps27
    go_wp2
    go_quiet (fail)
    go_wp2
    go_ret
    exact ⟨by simp [*], bD hB _⟩

end Go.Proofs.Ytmcofmdogopfjaa
