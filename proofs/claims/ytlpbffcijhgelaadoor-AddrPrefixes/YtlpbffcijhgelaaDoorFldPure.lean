/-
  Bits of rows of bytes as plain functions: one bit, one bit set, runs of them, and rows told by their bits.
-/
import Derived.Test.YtlpbffcijhgelaaDoorRows
namespace Go.Proofs.YtlpbffcijhgelaaDoor
set_option linter.unusedVariables false
open Go

/-- Bit k of a number. -/
def bk (z k : Nat) : Nat := z / 2 ^ k % 2
/-- A number whose bit k is b. -/
def setN (z k b : Nat) : Nat := z - bk z k * 2 ^ k + b * 2 ^ k

theorem bk_lt (z k : Nat) : bk z k < 2 := Nat.mod_lt _ (by decide)
theorem tab_or : ∀ k, k < 8 → ∀ z, z < 256 → z ||| 2 ^ k = setN z k 1 := by decide +kernel
theorem tab_an : ∀ k, k < 8 → ∀ z, z < 256 → z &&& (255 - 2 ^ k) = setN z k 0 := by decide +kernel
theorem tab_lt : ∀ k, k < 8 → ∀ b, b < 2 → ∀ z, z < 256 → setN z k b < 256 := by decide +kernel
theorem tab_bit : ∀ j, j < 8 → ∀ k, k < 8 → ∀ b, b < 2 → ∀ z, z < 256 → bk (setN z k b) j = if j = k then b else bk z j := by decide +kernel
theorem tab_add (z k : Nat) (h : bk z k = 0) : z + 2 ^ k = setN z k 1 := by simp [setN, h]
theorem tab_same (z k : Nat) (h : bk z k = 0) : z = setN z k 0 := by simp [setN, h]
theorem tab_ext (z y : Nat) (hz : z < 256) (hy : y < 256) (h : ∀ k, k < 8 → bk z k = bk y k) : z = y := by
  have h0 := h 0 (by omega); have h1 := h 1 (by omega); have h2 := h 2 (by omega); have h3 := h 3 (by omega)
  have h4 := h 4 (by omega); have h5 := h 5 (by omega); have h6 := h 6 (by omega); have h7 := h 7 (by omega)
  simp only [bk] at h0 h1 h2 h3 h4 h5 h6 h7
  omega

def FitB (zs : List Int) : Prop := ∀ z ∈ zs, 0 ≤ z ∧ z < 256

/-- The bit at a place of a row of bytes. -/
def bitN (zs : List Int) (p : Nat) : Nat := bk (zs[p / 8]?.getD 0).toNat (7 - p % 8)
/-- The row with another bit at a place. -/
def setL (zs : List Int) (p b : Nat) : List Int := zs.set (p / 8) ((setN (zs[p / 8]?.getD 0).toNat (7 - p % 8) b : Nat) : Int)

theorem bitN_lt (zs : List Int) (p : Nat) : bitN zs p < 2 := bk_lt _ _
theorem fit_at {zs : List Int} (h : FitB zs) (i : Nat) : 0 ≤ zs[i]?.getD 0 ∧ zs[i]?.getD 0 < 256 := by
  rcases Nat.lt_or_ge i zs.length with hi | hi
  · simp only [List.getElem?_eq_getElem hi, Option.getD_some]; exact h _ (List.getElem_mem hi)
  · simp [List.getElem?_eq_none hi]
@[simp] theorem setL_length (zs : List Int) (p b : Nat) : (setL zs p b).length = zs.length := by simp [setL]
theorem setL_fit {zs : List Int} (h : FitB zs) (p b : Nat) (hb : b < 2) : FitB (setL zs p b) := by
  intro z hz
  rcases List.mem_or_eq_of_mem_set hz with hz | rfl
  · exact h z hz
  · have := fit_at h (p / 8)
    have := tab_lt (7 - p % 8) (by omega) b hb (zs[p / 8]?.getD 0).toNat (by omega)
    omega
theorem bitN_setL {zs : List Int} (h : FitB zs) (p b q : Nat) (hb : b < 2) (hp : p < 8 * zs.length) : bitN (setL zs p b) q = if q = p then b else bitN zs q := by
  have hf := fit_at h (p / 8)
  unfold bitN setL
  by_cases e : p / 8 = q / 8
  · have hl : q / 8 < zs.length := by omega
    rw [e, List.getElem?_set_self (by omega)]
    simp only [Option.getD_some, Int.toNat_natCast]
    rw [tab_bit (7 - q % 8) (by omega) (7 - p % 8) (by omega) b hb _ (by rw [← e]; omega)]
    by_cases c : q = p
    · subst c; simp
    · have : ¬ (7 - q % 8 = 7 - p % 8) := by omega
      simp [c, this]
  · rw [List.getElem?_set_ne e]
    have : q ≠ p := by intro c; subst c; exact e rfl
    simp [this]

theorem row_ext {zs ys : List Int} (hl : zs.length = ys.length) (hz : FitB zs) (hy : FitB ys) (h : ∀ p, p < 8 * zs.length → bitN zs p = bitN ys p) : zs = ys := by
  refine List.ext_getElem hl fun i h1 h2 => ?_
  have z1 := hz _ (List.getElem_mem h1)
  have y1 := hy _ (List.getElem_mem h2)
  have : zs[i].toNat = ys[i].toNat := by
    refine tab_ext _ _ (by omega) (by omega) fun k hk => ?_
    have := h (8 * i + (7 - k)) (by omega)
    unfold bitN at this
    rw [show (8 * i + (7 - k)) / 8 = i by omega, show 7 - (8 * i + (7 - k)) % 8 = k by omega] at this
    simpa [List.getElem?_eq_getElem h1, List.getElem?_eq_getElem h2] using this
  omega

/-- n bits of v written from a place on, i rounds of it. -/
def writeL (zs : List Int) (at' n v : Nat) : Nat → List Int
  | 0 => zs
  | i + 1 => setL (writeL zs at' n v i) (at' + i) (bk v (n - 1 - i))
@[simp] theorem writeL_length (zs : List Int) (at' n v i : Nat) : (writeL zs at' n v i).length = zs.length := by
  induction i with
  | zero => rfl
  | succ i ih => simp [writeL, ih]
theorem writeL_fit {zs : List Int} (h : FitB zs) (at' n v i : Nat) : FitB (writeL zs at' n v i) := by
  induction i with
  | zero => exact h
  | succ i ih => exact setL_fit ih _ _ (bk_lt _ _)
theorem bitN_writeL {zs : List Int} (h : FitB zs) (at' n v i q : Nat) (hp : at' + i ≤ 8 * zs.length) : bitN (writeL zs at' n v i) q = if at' ≤ q ∧ q < at' + i then bk v (n - 1 - (q - at')) else bitN zs q := by
  induction i with
  | zero => have : ¬ (at' ≤ q ∧ q < at' + 0) := by omega
            simp [writeL]; omega
  | succ i ih =>
    rw [writeL, bitN_setL (writeL_fit h _ _ _ _) _ _ _ (bk_lt _ _) (by simp; omega), ih (by omega)]
    by_cases c : q = at' + i
    · subst c
      rw [if_pos rfl, if_pos (by omega), show at' + i - at' = i by omega]
    · rw [if_neg c]
      by_cases d : at' ≤ q ∧ q < at' + i
      · rw [if_pos d, if_pos (by omega)]
      · rw [if_neg d, if_neg (by omega)]

/-- n bits as a number. -/
def accN (zs : List Int) (at' : Nat) : Nat → Nat
  | 0 => 0
  | i + 1 => 2 * accN zs at' i + bitN zs (at' + i)
theorem accN_lt (zs : List Int) (at' i : Nat) : accN zs at' i < 2 ^ i := by
  induction i with
  | zero => simp [accN]
  | succ i ih => have := bitN_lt zs (at' + i); simp only [accN]; rw [Nat.pow_succ]; omega
theorem accN_congr {zs ys : List Int} {at' at2 : Nat} (i : Nat) (h : ∀ j, j < i → bitN zs (at' + j) = bitN ys (at2 + j)) : accN zs at' i = accN ys at2 i := by
  induction i with
  | zero => rfl
  | succ i ih => simp only [accN]; rw [ih (fun j hj => h j (by omega)), h i (by omega)]
theorem accN_of {zs : List Int} {at' n v : Nat} (h : ∀ j, j < n → bitN zs (at' + j) = bk v (n - 1 - j)) (hv : v < 2 ^ n) : accN zs at' n = v := by
  have key : ∀ i, i ≤ n → accN zs at' i = v / 2 ^ (n - i) := by
    intro i hi
    induction i with
    | zero => simp [accN, Nat.div_eq_of_lt hv]
    | succ i ih =>
      simp only [accN]
      rw [ih (by omega), h i (by omega)]
      unfold bk
      rw [show n - i = (n - 1 - i) + 1 by omega, show n - (i + 1) = n - 1 - i by omega, Nat.pow_succ, ← Nat.div_div_eq_div_mul]
      omega
  simpa using key n (Nat.le_refl _)

/-- Bytes of bits, 0 behind them: i rounds over zeros. -/
def packL (l : List Nat) : Nat → List Int
  | 0 => List.replicate ((l.length + 7) / 8) 0
  | i + 1 => setL (packL l i) i (if l[i]?.getD 0 = 1 then 1 else 0)
@[simp] theorem packL_length (l : List Nat) (i : Nat) : (packL l i).length = (l.length + 7) / 8 := by
  induction i with
  | zero => simp [packL]
  | succ i ih => simp [packL, ih]
theorem packL_fit (l : List Nat) (i : Nat) : FitB (packL l i) := by
  induction i with
  | zero => intro z hz; have := List.eq_of_mem_replicate hz; subst this; decide
  | succ i ih => exact setL_fit ih _ _ (by split <;> decide)
theorem bitN_zero (n p : Nat) : bitN (List.replicate n 0) p = 0 := by
  have : ((List.replicate n (0 : Int))[p / 8]?.getD 0) = 0 := by
    rw [List.getElem?_replicate]; split <;> rfl
  unfold bitN
  rw [this]
  simp [bk]
theorem bitN_packL (l : List Nat) (i q : Nat) (hi : i ≤ l.length) : bitN (packL l i) q = if q < i ∧ l[q]?.getD 0 = 1 then 1 else 0 := by
  induction i with
  | zero => simp [packL, bitN_zero]
  | succ i ih =>
    rw [packL, bitN_setL (packL_fit _ _) _ _ _ (by split <;> decide) (by simp; omega), ih (by omega)]
    by_cases c : q = i
    · subst c; simp
    · rw [if_neg c]
      by_cases d : q < i
      · simp [d, show q < i + 1 by omega]
      · simp [d, show ¬ q < i + 1 by omega]

/-- All bits of a row. -/
def bitsL (zs : List Int) : List Nat := (List.range (8 * zs.length)).map (bitN zs)
@[simp] theorem bitsL_length (zs : List Int) : (bitsL zs).length = 8 * zs.length := by simp [bitsL]
theorem bitsL_get (zs : List Int) (q : Nat) (h : q < 8 * zs.length) : (bitsL zs)[q]? = some (bitN zs q) := by simp [bitsL, h]

end Go.Proofs.YtlpbffcijhgelaaDoor
