/-
  The document's Low4 and Check4: all bits behind the first n are 0.
  A prefix may be just when all bits behind its length are 0: the program's way and the document's are one.
-/
import Derived.Test.YtgndiblonhgihaaFold00
import Derived.Test.YtgndiblonhgihaaProg
import Derived.WalkKit
import Derived.Below
import Derived.Laws.BitsAllLaws
import Derived.Test.YtgndiblonhgihaaFold03
namespace Go.Proofs.Ytgndiblonhgihaa
open Go Go.RowKit
set_option linter.unusedVariables false
set_option linter.unusedSimpArgs false

theorem lbit_u8 (z : Int) (k : Nat) (h0 : 0 ≤ z) (h1 : z < 256) : bits .and .u8 (z / 2 ^ k) 1 = ((bk z.toNat k : Nat) : Int) := by
  have e : z / 2 ^ k = ((z.toNat / 2 ^ k : Nat) : Int) := by
    obtain ⟨n, rfl⟩ := Int.eq_ofNat_of_zero_le h0
    simp
  have hlt : z.toNat / 2 ^ k < 256 := Nat.lt_of_le_of_lt (Nat.div_le_self _ _) (by omega)
  have h := u8_and_nat (z.toNat / 2 ^ k) 1 hlt (by decide)
  rw [e]
  rw [show ((1 : Nat) : Int) = 1 from rfl] at h
  rw [h, Nat.and_one_is_mod]
  rfl

/-- All bits from n on are 0. -/
def lowB (zs : List Int) (n : Nat) : Bool := decide (∀ i, i < 8 * zs.length → n ≤ i → bitN zs i = 0)

end Go.Proofs.Ytgndiblonhgihaa

namespace Go.Proofs.Ytgndiblonhgihaa
open Go Go.RowKit
set_option linter.unusedVariables false
set_option linter.unusedSimpArgs false

theorem tab_msk : ∀ r, r < 9 → ∀ j, j < 8 → ∀ z, z < 256 → bk (z &&& (255 - 255 / 2 ^ r)) (7 - j) = if j < r then bk z (7 - j) else 0 := by decide +kernel
theorem bk_bl (z m : Int) (j : Nat) (hj : j < 8) (h : 0 ≤ z ∧ z < 256) : bk (bl z m).toNat (7 - j) = if (j : Int) < m then bk z.toNat (7 - j) else 0 := by
  unfold bl msk
  rw [Int.toNat_natCast, tab_msk (min (max m 0) 8).toNat (by omega) j hj z.toNat (by omega)]
  by_cases c : (j : Int) < m
  · rw [if_pos c, if_pos (by omega)]
  · rw [if_neg c, if_neg (by omega)]

theorem pL_fit {a0 a1 a2 a3 : Int} (n : Int) (h0 : 0 ≤ a0 ∧ a0 < 256) (h1 : 0 ≤ a1 ∧ a1 < 256) (h2 : 0 ≤ a2 ∧ a2 < 256) (h3 : 0 ≤ a3 ∧ a3 < 256) : FitB (pL a0 a1 a2 a3 n) :=
  fit4 (bl_fit _ _ h0) (bl_fit _ _ h1) (bl_fit _ _ h2) (bl_fit _ _ h3)

theorem bitN_pL {a0 a1 a2 a3 : Int} (n i : Nat) (hi : i < 32) (h0 : 0 ≤ a0 ∧ a0 < 256) (h1 : 0 ≤ a1 ∧ a1 < 256) (h2 : 0 ≤ a2 ∧ a2 < 256) (h3 : 0 ≤ a3 ∧ a3 < 256) : bitN (pL a0 a1 a2 a3 n) i = if i < n then bitN [a0, a1, a2, a3] i else 0 := by
  unfold bitN pL
  have hq : i / 8 = 0 ∨ i / 8 = 1 ∨ i / 8 = 2 ∨ i / 8 = 3 := by omega
  rcases hq with q | q | q | q
  all_goals
    rw [q]
    simp only [List.getElem?_cons_zero, List.getElem?_cons_succ, Option.getD_some]
    rw [bk_bl _ _ _ (Nat.mod_lt _ (by decide)) (by assumption)]
    by_cases c : i < n
    · rw [if_pos c, if_pos (by omega)]
    · rw [if_neg c, if_neg (by omega)]

theorem low_ok {a0 a1 a2 a3 : Int} (n : Nat) (hn : n ≤ 32) (h0 : 0 ≤ a0 ∧ a0 < 256) (h1 : 0 ≤ a1 ∧ a1 < 256) (h2 : 0 ≤ a2 ∧ a2 < 256) (h3 : 0 ≤ a3 ∧ a3 < 256) : lowB [a0, a1, a2, a3] n = decide ([a0, a1, a2, a3] = pL a0 a1 a2 a3 n) := by
  unfold lowB
  rw [decide_eq_decide]
  constructor
  · intro h
    refine row_ext rfl (fit4 h0 h1 h2 h3) (pL_fit _ h0 h1 h2 h3) fun p hp => ?_
    have hp' : p < 32 := by simpa using hp
    rw [bitN_pL n p hp' h0 h1 h2 h3]
    by_cases c : p < n
    · rw [if_pos c]
    · rw [if_neg c]; exact h p hp (by omega)
  · intro e i hi hni
    have hi' : i < 32 := by simpa using hi
    rw [e, bitN_pL n i hi' h0 h1 h2 h3, if_neg (by omega)]

end Go.Proofs.Ytgndiblonhgihaa
