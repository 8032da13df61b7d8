/-
  IPv4 prefixes: the document's Last4.
-/
import Derived.Test.YthejkiocndoflaaDoorAddrHas2
namespace Go.Proofs.YthejkiocndoflaaDoor
open Go Go.RowKit
set_option linter.unusedVariables false
set_option linter.unusedSimpArgs false

/-- Bits from n on set, up to n + k. -/
def lstL (zs : List Int) (n : Nat) : Nat → List Int
  | 0 => zs
  | k + 1 => setL (lstL zs n k) (n + k) 1
@[simp] theorem lstL_length (zs : List Int) (n k : Nat) : (lstL zs n k).length = zs.length := by
  induction k with
  | zero => rfl
  | succ k ih => simp [lstL, ih]
theorem lstL_fit {zs : List Int} (h : FitB zs) (n k : Nat) : FitB (lstL zs n k) := by
  induction k with
  | zero => exact h
  | succ k ih => exact setL_fit ih _ _ (by decide)
theorem bitN_lstL {zs : List Int} (h : FitB zs) (n k q : Nat) (hp : n + k ≤ 8 * zs.length) : bitN (lstL zs n k) q = if n ≤ q ∧ q < n + k then 1 else bitN zs q := by
  induction k with
  | zero => have : ¬ (n ≤ q ∧ q < n + 0) := by omega
            simp [lstL]; omega
  | succ k ih =>
    rw [lstL, bitN_setL (lstL_fit h _ _) _ _ _ (by decide) (by simp; omega), ih (by omega)]
    by_cases c : q = n + k
    · subst c; rw [if_pos rfl, if_pos (by omega)]
    · rw [if_neg c]
      by_cases d : n ≤ q ∧ q < n + k
      · rw [if_pos d, if_pos (by omega)]
      · rw [if_neg d, if_neg (by omega)]
/-- A byte whose bits behind the first n are 1. -/
def fl (z : Int) (n : Int) : Int := ((z.toNat ||| (255 - msk n) : Nat) : Int)
theorem tab_last : ∀ r, r < 9 → ∀ z, z < 256 → z ||| (255 - (255 - 255 / 2 ^ r)) < 256 ∧ ∀ j, j < 8 → bk (z ||| (255 - (255 - 255 / 2 ^ r))) (7 - j) = if j < r then bk z (7 - j) else 1 := by decide +kernel
theorem fl_fit (z m : Int) (h : 0 ≤ z ∧ z < 256) : 0 ≤ fl z m ∧ fl z m < 256 := by
  have := (tab_last (min (max m 0) 8).toNat (by omega) z.toNat (by omega)).1
  unfold fl msk
  omega
theorem bk_fl (z m : Int) (j : Nat) (hj : j < 8) (h : 0 ≤ z ∧ z < 256) : bk (fl z m).toNat (7 - j) = if (j : Int) < m then bk z.toNat (7 - j) else 1 := by
  have ht := (tab_last (min (max m 0) 8).toNat (by omega) z.toNat (by omega)).2 j hj
  unfold fl msk
  rw [Int.toNat_natCast, ht]
  by_cases c : (j : Int) < m
  · rw [if_pos c, if_pos (by omega)]
  · rw [if_neg c, if_neg (by omega)]
def fL (a0 a1 a2 a3 n : Int) : List Int := [fl a0 n, fl a1 (n - 8), fl a2 (n - 16), fl a3 (n - 24)]
theorem bitN_fL {a0 a1 a2 a3 : Int} (n i : Nat) (hi : i < 32) (h0 : 0 ≤ a0 ∧ a0 < 256) (h1 : 0 ≤ a1 ∧ a1 < 256) (h2 : 0 ≤ a2 ∧ a2 < 256) (h3 : 0 ≤ a3 ∧ a3 < 256) : bitN (fL a0 a1 a2 a3 n) i = if i < n then bitN [a0, a1, a2, a3] i else 1 := by
  unfold bitN fL
  have hq : i / 8 = 0 ∨ i / 8 = 1 ∨ i / 8 = 2 ∨ i / 8 = 3 := by omega
  rcases hq with q | q | q | q
  all_goals
    rw [q]
    simp only [List.getElem?_cons_zero, List.getElem?_cons_succ, Option.getD_some]
    rw [bk_fl _ _ _ (Nat.mod_lt _ (by decide)) (by assumption)]
    by_cases c : i < n
    · rw [if_pos c, if_pos (by omega)]
    · rw [if_neg c, if_neg (by omega)]
theorem lst_fL {a0 a1 a2 a3 : Int} (n : Nat) (hn : n ≤ 32) (h0 : 0 ≤ a0 ∧ a0 < 256) (h1 : 0 ≤ a1 ∧ a1 < 256) (h2 : 0 ≤ a2 ∧ a2 < 256) (h3 : 0 ≤ a3 ∧ a3 < 256) : lstL [a0, a1, a2, a3] n (32 - n) = fL a0 a1 a2 a3 n := by
  refine row_ext (by simp [fL]) (lstL_fit (fit4 h0 h1 h2 h3) _ _) (fit4 (fl_fit _ _ h0) (fl_fit _ _ h1) (fl_fit _ _ h2) (fl_fit _ _ h3)) fun p hp => ?_
  have hp' : p < 32 := by simpa using hp
  rw [bitN_lstL (fit4 h0 h1 h2 h3) _ _ _ (by simp; omega), bitN_fL n p hp' h0 h1 h2 h3]
  by_cases c : p < n
  · rw [if_neg (by omega), if_pos c]
  · rw [if_pos (by omega), if_neg c]

end Go.Proofs.YthejkiocndoflaaDoor
