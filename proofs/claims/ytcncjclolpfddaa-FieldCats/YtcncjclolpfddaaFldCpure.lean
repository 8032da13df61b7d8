/-
  Runs of bits as plain functions: which run is none, how many bits there are, the bits and the bytes of all.
-/
import Derived.Test.YtcncjclolpfddaaFldGets
import Derived.Test.YtcncjclolpfddaaFldWone
namespace Go.Proofs.Ytcncjclolpfddaa
set_option linter.unusedVariables false
set_option linter.unusedSimpArgs false
open Go Go.RowKit

/-- Run k: how many bits, and the number. -/
def rN (rs : List (Int × Nat)) (k : Nat) : Int := (rs[k]?.getD (0, 0)).1
def rV (rs : List (Int × Nat)) (k : Nat) : Nat := (rs[k]?.getD (0, 0)).2
def runE (n : Int) (v : Nat) : Int := if n < 0 ∨ 64 < n then 30 else if wideB v n.toNat then 1 else 0
def allOk (rs : List (Int × Nat)) (k : Nat) : Prop := ∀ j, j < k → runE (rN rs j) (rV rs j) = 0
def total (rs : List (Int × Nat)) : Nat → Nat
  | 0 => 0
  | k + 1 => total rs k + (rN rs k).toNat

theorem runE_ok {n : Int} {v : Nat} (h : runE n v = 0) : 0 ≤ n ∧ n ≤ 64 ∧ wideB v n.toNat = false ∧ v < 2 ^ n.toNat := by
  unfold runE at h
  by_cases c : n < 0 ∨ 64 < n
  · rw [if_pos c] at h; omega
  · rw [if_neg c] at h
    cases hw : wideB v n.toNat
    · refine ⟨by omega, by omega, rfl, ?_⟩
      unfold wideB at hw
      simpa using hw
    · rw [hw] at h; simp at h
theorem allOk_succ {rs : List (Int × Nat)} {k : Nat} (h : allOk rs k) (hk : runE (rN rs k) (rV rs k) = 0) : allOk rs (k + 1) := by
  intro j hj
  by_cases c : j = k
  · subst c; exact hk
  · exact h j (by omega)
theorem total_le {rs : List (Int × Nat)} : ∀ {k : Nat}, allOk rs k → total rs k ≤ 64 * k
  | 0, _ => by simp [total]
  | k + 1, h => by
    have h1 := total_le (k := k) (fun j hj => h j (by omega))
    have h2 := runE_ok (h k (by omega))
    simp only [total]
    omega
theorem total_mono (rs : List (Int × Nat)) (k : Nat) : ∀ n, k ≤ n → total rs k ≤ total rs n := by
  intro n
  induction n with
  | zero => intro h; have : k = 0 := by omega
            subst this; exact Nat.le_refl _
  | succ n ih =>
    intro h
    by_cases c : k = n + 1
    · subst c; exact Nat.le_refl _
    · have := ih (by omega); simp only [total]; omega

/-- The bits of the first k runs. -/
def runBits (n v : Nat) : List Nat := (List.range n).map (fun j => bk v (n - 1 - j))
def catBits (rs : List (Int × Nat)) : Nat → List Nat
  | 0 => []
  | k + 1 => catBits rs k ++ runBits (rN rs k).toNat (rV rs k)
@[simp] theorem catBits_length (rs : List (Int × Nat)) (k : Nat) : (catBits rs k).length = total rs k := by
  induction k with
  | zero => rfl
  | succ k ih => simp [catBits, total, ih, runBits]

/-- The bytes, run by run. -/
def catRow (rs : List (Int × Nat)) (t : Nat) : Nat → List Int
  | 0 => List.replicate ((t + 7) / 8) 0
  | k + 1 => writeL (catRow rs t k) (total rs k) (rN rs k).toNat (rV rs k) (rN rs k).toNat
@[simp] theorem catRow_length (rs : List (Int × Nat)) (t k : Nat) : (catRow rs t k).length = (t + 7) / 8 := by
  induction k with
  | zero => simp [catRow]
  | succ k ih => simp [catRow, ih]
theorem catRow_fit (rs : List (Int × Nat)) (t k : Nat) : FitB (catRow rs t k) := by
  induction k with
  | zero => intro z hz; have := List.eq_of_mem_replicate hz; subst this; decide
  | succ k ih => exact writeL_fit ih _ _ _ _
theorem bitN_catRow (rs : List (Int × Nat)) (t k q : Nat) (h : total rs k ≤ t) : bitN (catRow rs t k) q = (catBits rs k)[q]?.getD 0 := by
  induction k with
  | zero => simp [catRow, catBits, bitN_zero]
  | succ k ih =>
    simp only [total] at h
    rw [catRow, bitN_writeL (catRow_fit _ _ _) _ _ _ _ _ (by simp; omega), ih (by omega), catBits]
    by_cases c : total rs k ≤ q ∧ q < total rs k + (rN rs k).toNat
    · rw [if_pos c, List.getElem?_append_right (by simpa using c.1)]
      simp [runBits, show q - total rs k < (rN rs k).toNat by omega]
    · rw [if_neg c]
      by_cases d : q < total rs k
      · rw [List.getElem?_append_left (by simpa using d)]
      · rw [List.getElem?_append_right (by simp; omega), List.getElem?_eq_none (by simp; omega), List.getElem?_eq_none (by simp [runBits]; omega)]

theorem catBits_lt (rs : List (Int × Nat)) (k q : Nat) : (catBits rs k)[q]?.getD 0 < 2 := by
  induction k with
  | zero => simp [catBits]
  | succ k ih =>
    rw [catBits]
    by_cases d : q < total rs k
    · rw [List.getElem?_append_left (by simpa using d)]; exact ih
    · rw [List.getElem?_append_right (by simp; omega)]
      simp only [runBits, List.getElem?_map]
      by_cases c : q - (catBits rs k).length < (rN rs k).toNat
      · rw [List.getElem?_range c]; exact bk_lt _ _
      · rw [List.getElem?_eq_none (by simp; simpa using c)]
        show (0 : Nat) < 2
        decide

theorem bit01' (b : Nat) (h : b < 2) : (if b = 1 then 1 else 0) = b := by
  have : b = 0 ∨ b = 1 := by omega
  rcases this with rfl | rfl <;> rfl

theorem cat_pack (rs : List (Int × Nat)) (k : Nat) : packL (catBits rs k) (catBits rs k).length = catRow rs (total rs k) k := by
  refine row_ext (by simp) (packL_fit _ _) (catRow_fit _ _ _) fun q hq => ?_
  rw [bitN_packL _ _ _ (Nat.le_refl _), bitN_catRow _ _ _ _ (Nat.le_refl _)]
  have h2 := catBits_lt rs k q
  by_cases c : q < (catBits rs k).length
  · have := bit01' _ h2
    have c' : q < total rs k := by simpa using c
    simpa [c'] using this
  · rw [List.getElem?_eq_none (by omega)]
    simp

/-- What Cat answers. -/
def CatIs (rs : List (Int × Nat)) (bs : List Int) (er : Int) : Prop :=
  (∃ k, k < rs.length ∧ allOk rs k ∧ runE (rN rs k) (rV rs k) ≠ 0 ∧ er = runE (rN rs k) (rV rs k) ∧ bs = []) ∨
  (allOk rs rs.length ∧ 65536 < total rs rs.length ∧ er = 3 ∧ bs = []) ∨
  (allOk rs rs.length ∧ total rs rs.length ≤ 65536 ∧ er = 0 ∧ bs = catRow rs (total rs rs.length) rs.length)

theorem CatIs.uniq {rs : List (Int × Nat)} {bs bs' : List Int} {er er' : Int} (h : CatIs rs bs er) (g : CatIs rs bs' er') : bs = bs' ∧ er = er' := by
  rcases h with ⟨k, hk, ho, hn, rfl, rfl⟩ | ⟨ho, hb, rfl, rfl⟩ | ⟨ho, hb, rfl, rfl⟩ <;>
  rcases g with ⟨k', hk', ho', hn', rfl, rfl⟩ | ⟨ho', hb', rfl, rfl⟩ | ⟨ho', hb', rfl, rfl⟩
  · have : k = k' := by
      rcases Nat.lt_trichotomy k k' with c | c | c
      · exact absurd (ho' k c) hn
      · exact c
      · exact absurd (ho k' c) hn'
    subst this
    exact ⟨rfl, rfl⟩
  · exact absurd (ho' k hk) hn
  · exact absurd (ho' k hk) hn
  · exact absurd (ho k' hk') hn'
  · exact ⟨rfl, rfl⟩
  · omega
  · exact absurd (ho k' hk') hn'
  · omega
  · exact ⟨rfl, rfl⟩

/-- A run is found at its place. -/
theorem cat_get (rs : List (Int × Nat)) (n k : Nat) (hk : k < n) (ho : allOk rs n) : accN (catRow rs (total rs n) n) (total rs k) (rN rs k).toNat = rV rs k := by
  have hok := runE_ok (ho k hk)
  refine accN_of (fun j hj => ?_) hok.2.2.2
  rw [bitN_catRow _ _ _ _ (Nat.le_refl _)]
  have key : ∀ n, k < n → (catBits rs n)[total rs k + j]? = some (bk (rV rs k) ((rN rs k).toNat - 1 - j)) := by
    intro n
    induction n with
    | zero => intro h; omega
    | succ n ih =>
      intro h
      rw [catBits]
      by_cases c : k = n
      · subst c
        rw [List.getElem?_append_right (by simp), catBits_length, show total rs k + j - total rs k = j by omega]
        simp [runBits, hj]
      · have hm := total_mono rs (k + 1) n (by omega)
        simp only [total] at hm
        rw [List.getElem?_append_left (by simp; omega)]
        exact ih (by omega)
  rw [key n hk]
  rfl

end Go.Proofs.Ytcncjclolpfddaa
