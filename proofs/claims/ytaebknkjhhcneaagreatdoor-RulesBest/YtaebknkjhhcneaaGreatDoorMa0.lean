/-
  Edges of rules as plain functions of bits: what an edge's prefix, address and MAP address are, bit by bit.
-/
import Derived.Test.YtaebknkjhhcneaaGreatDoorFold11
import Derived.Test.YtaebknkjhhcneaaGreatDoorSixM
import Derived.Test.YtaebknkjhhcneaaGreatDoorFold17
import Derived.Test.YtaebknkjhhcneaaGreatDoorFold14
namespace Go.Proofs.YtaebknkjhhcneaaGreatDoor
open Go Go.RowKit Fld
set_option linter.unusedVariables false
set_option linter.unusedSimpArgs false

theorem bk_acc (zs : List Int) (p n j : Nat) (h : j < n) : bk (accN zs p n) (n - 1 - j) = bitN zs (p + j) := by
  induction n with
  | zero => omega
  | succ n ih =>
    have hb := bitN_lt zs (p + n)
    rw [accN]
    by_cases c : j = n
    · subst c
      rw [show j + 1 - 1 - j = 0 by omega]
      unfold bk
      simp
      omega
    · have hi := ih (by omega)
      rw [show n + 1 - 1 - j = (n - 1 - j) + 1 by omega]
      unfold bk at hi ⊢
      rw [Nat.pow_succ, Nat.mul_comm (2 ^ (n - 1 - j)) 2, ← Nat.div_div_eq_div_mul, show (2 * accN zs p n + bitN zs (p + n)) / 2 = accN zs p n by omega]
      exact hi

theorem bk_zero (k : Nat) : bk 0 k = 0 := by simp [bk]
theorem bk_ext {a b n : Nat} (ha : a < 2 ^ n) (hb : b < 2 ^ n) (h : ∀ j, j < n → bk a (n - 1 - j) = bk b (n - 1 - j)) : a = b := by
  induction n generalizing a b with
  | zero => simp at ha hb; omega
  | succ n ih =>
    have h0 := h n (by omega)
    rw [show n + 1 - 1 - n = 0 by omega] at h0
    have h1 : a / 2 = b / 2 := by
      refine ih (by rw [Nat.pow_succ] at ha; omega) (by rw [Nat.pow_succ] at hb; omega) fun j hj => ?_
      have := h j (by omega)
      rw [show n + 1 - 1 - j = (n - 1 - j) + 1 by omega] at this
      unfold bk at this ⊢
      rw [Nat.pow_succ, Nat.mul_comm (2 ^ (n - 1 - j)) 2, ← Nat.div_div_eq_div_mul, ← Nat.div_div_eq_div_mul] at this
      exact this
    unfold bk at h0
    simp at h0
    omega
/-- The bits of a number cut in two. -/
theorem bk_div (v q k : Nat) : bk (v / 2 ^ q) k = bk v (k + q) := by
  unfold bk
  rw [Nat.div_div_eq_div_mul, ← Nat.pow_add, Nat.add_comm q k]
theorem bk_mod (v q k : Nat) (h : k < q) : bk (v % 2 ^ q) k = bk v k := by
  unfold bk
  rw [show q = k + (q - k) by omega, Nat.pow_add, Nat.mod_mul_right_div_self]
  rw [show q - k = (q - k - 1) + 1 by omega, Nat.pow_succ, Nat.mul_comm, Nat.mod_mul_right_mod]
theorem bk_small {v n k : Nat} (h : v < 2 ^ n) (hk : n ≤ k) : bk v k = 0 := by
  unfold bk
  have : v < 2 ^ k := Nat.lt_of_lt_of_le h (Nat.pow_le_pow_right (by decide) hk)
  rw [Nat.div_eq_of_lt this]

/-- Bytes, and zeros behind them. -/
def padL (bs : List Int) (n : Nat) : List Int := bs ++ List.replicate (n - bs.length) 0
theorem padL_length (bs : List Int) (n : Nat) (h : bs.length ≤ n) : (padL bs n).length = n := by simp [padL]; omega
theorem padL_fit {bs : List Int} (h : FitB bs) (n : Nat) : FitB (padL bs n) := by
  intro z hz
  rcases List.mem_append.1 hz with hz | hz
  · exact h z hz
  · have := List.eq_of_mem_replicate hz; subst this; decide
theorem bitN_padL (bs : List Int) (n q : Nat) : bitN (padL bs n) q = bitN bs q := by
  unfold bitN padL
  by_cases c : q / 8 < bs.length
  · rw [List.getElem?_append_left c]
  · rw [List.getElem?_append_right (by omega), List.getElem?_replicate, List.getElem?_eq_none (l := bs) (by omega)]
    split <;> rfl

theorem cat_at (n v : Nat) (L : List Nat) (q : Nat) : (runBits n v ++ L)[q]?.getD 0 = if q < n then bk v (n - 1 - q) else L[q - n]?.getD 0 := by
  by_cases c : q < n
  · rw [if_pos c, List.getElem?_append_left (by simpa [runBits] using c)]
    simp [runBits, c]
  · rw [if_neg c, List.getElem?_append_right (by simp [runBits]; omega)]
    simp [runBits]
theorem run_at (n v q : Nat) : (runBits n v)[q]?.getD 0 = if q < n then bk v (n - 1 - q) else 0 := by
  have := cat_at n v [] q
  simpa using this

/-- The runs of bits of an edge's prefix or address. -/
theorem cat2_bits (a b : Nat) (u v : Nat) (q : Nat) : bitN (catRow [((a : Int), u), ((b : Int), v)] (a + b) 2) q = if q < a then bk u (a - 1 - q) else if q - a < b then bk v (b - 1 - (q - a)) else 0 := by
  rw [bitN_catRow _ _ _ _ (by simp [total, rN])]
  simp only [catBits, rN, rV, List.nil_append, List.getElem?_cons_zero, List.getElem?_cons_succ, Option.getD_some, Int.toNat_natCast]
  rw [cat_at, run_at]
theorem cat6_bits (a b c : Nat) (u v x y : Nat) (q : Nat) (h : a + b + c = 64) : bitN (catRow [((a : Int), u), ((b : Int), v), ((c : Int), 0), (16, 0), (32, x), (16, y)] 128 6) q = if q < a then bk u (a - 1 - q) else if q - a < b then bk v (b - 1 - (q - a)) else if 80 ≤ q ∧ q < 112 then bk x (31 - (q - 80)) else if 112 ≤ q ∧ q < 128 then bk y (15 - (q - 112)) else 0 := by
  rw [bitN_catRow _ _ _ _ (by simp [total, rN]; omega)]
  simp only [catBits, rN, rV, List.nil_append, List.getElem?_cons_zero, List.getElem?_cons_succ, Option.getD_some, Int.toNat_natCast, List.append_assoc]
  rw [cat_at, cat_at, cat_at, cat_at, cat_at, run_at]
  simp only [bk_zero, show ((16 : Int)).toNat = 16 from rfl, show ((32 : Int)).toNat = 32 from rfl]
  by_cases c1 : q < a
  · rw [if_pos c1, if_pos c1]
  · rw [if_neg c1, if_neg c1]
    by_cases c2 : q - a < b
    · rw [if_pos c2, if_pos c2]
    · rw [if_neg c2, if_neg c2]
      by_cases c3 : q - a - b < c
      · rw [if_pos c3, if_neg (by omega), if_neg (by omega)]
      · rw [if_neg c3]
        by_cases c4 : q - a - b - c < 16
        · rw [if_pos c4, if_neg (by omega), if_neg (by omega)]
        · rw [if_neg c4]
          by_cases c5 : q - a - b - c - 16 < 32
          · rw [if_pos c5, if_pos (by omega)]
            congr 1
            omega
          · rw [if_neg c5]
            by_cases c6 : q - a - b - c - 16 - 32 < 16
            · rw [if_pos c6, if_neg (by omega), if_pos (by omega)]
              congr 1
              omega
            · rw [if_neg c6, if_neg (by omega), if_neg (by omega)]

end Go.Proofs.YtaebknkjhhcneaaGreatDoor
