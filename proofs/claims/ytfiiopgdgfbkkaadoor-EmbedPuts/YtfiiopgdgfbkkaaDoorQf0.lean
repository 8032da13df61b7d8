/-
  Bits carried from one row to another: what the document's Put and Get do.
-/
import Derived.Test.YtfiiopgdgfbkkaaDoorQe0
namespace Go.Proofs.YtfiiopgdgfbkkaaDoor
set_option linter.unusedVariables false
set_option linter.unusedSimpArgs false
open Go Go.RowKit

theorem or_one (z : Int) (k : Nat) (hk : k < 8) (h : 0 ≤ z ∧ z < 256) : bits .or .u8 z (2 ^ k) = ((setN z.toNat k 1 : Nat) : Int) := by
  have hp : ∀ j, j < 8 → 2 ^ j < 256 := by decide
  have h1 := u8_or_nat z.toNat (2 ^ k) (by omega) (hp k hk)
  rw [← tab_or k hk _ (by omega), ← h1, Int.toNat_of_nonneg h.1]
  simp

def mvK (dst src : List Int) (d s : Nat → Nat) : Nat → List Int
  | 0 => dst
  | k + 1 => if bitN src (s k) = 1 then setL (mvK dst src d s k) (d k) 1 else mvK dst src d s k
theorem mvK_length (dst src : List Int) (d s : Nat → Nat) (k : Nat) : (mvK dst src d s k).length = dst.length := by
  induction k with
  | zero => rfl
  | succ k ih =>
    unfold mvK
    split
    · rw [setL_length, ih]
    · exact ih
theorem mvK_fit {dst src : List Int} (h : FitB dst) (d s : Nat → Nat) (k : Nat) : FitB (mvK dst src d s k) := by
  induction k with
  | zero => exact h
  | succ k ih =>
    unfold mvK
    split
    · exact setL_fit ih _ _ (by decide)
    · exact ih

theorem mvK_bits {dst src : List Int} (hd : FitB dst) {d s : Nat → Nat} {K : Nat} (hlt : ∀ i, i < K → d i < 8 * dst.length) (hinj : ∀ i j, i < K → j < K → d i = d j → i = j) (h0 : ∀ i, i < K → bitN dst (d i) = 0) :
    ∀ k, k ≤ K → (∀ i, i < k → bitN (mvK dst src d s k) (d i) = bitN src (s i)) ∧ (∀ q, (∀ i, i < k → d i ≠ q) → bitN (mvK dst src d s k) q = bitN dst q) := by
  intro k
  induction k with
  | zero => exact fun _ => ⟨fun i hi => absurd hi (by omega), fun q _ => rfl⟩
  | succ k ih =>
    intro hk
    obtain ⟨hA, hB⟩ := ih (by omega)
    have hf := mvK_fit (src := src) hd d s k
    have hl := mvK_length dst src d s k
    have hdk : d k < 8 * (mvK dst src d s k).length := by rw [hl]; exact hlt k (by omega)
    have hkz : bitN (mvK dst src d s k) (d k) = 0 := by
      rw [hB (d k) (fun i hi e => by have := hinj i k (by omega) (by omega) e; omega)]
      exact h0 k (by omega)
    have hb2 := bitN_lt src (s k)
    refine ⟨fun i hi => ?_, fun q hq => ?_⟩
    · unfold mvK
      split
      · rename_i h1
        rw [bitN_setL hf _ _ _ (by decide) hdk]
        by_cases c : i = k
        · subst c; rw [if_pos rfl, h1]
        · rw [if_neg (fun e => c (hinj i k (by omega) (by omega) e)), hA i (by omega)]
      · rename_i h1
        by_cases c : i = k
        · subst c; rw [hkz]; omega
        · exact hA i (by omega)
    · unfold mvK
      split
      · rw [bitN_setL hf _ _ _ (by decide) hdk, if_neg (fun e => hq k (by omega) e.symm)]
        exact hB q (fun i hi => hq i (by omega))
      · exact hB q (fun i hi => hq i (by omega))

/-- At which bit of the IPv6 address the i-th of the IPv4 one stands. -/
def plN (n i : Nat) : Nat := if n ≤ 64 ∧ 64 ≤ n + i then n + i + 8 else n + i

/-- What is known of places, for each length. -/
structure Plc (n : Nat) : Prop where
  lt : ∀ i, i < 32 → plN n i < 128
  inj : ∀ i, i < 32 → ∀ j, j < 32 → plN n i = plN n j → i = j
  byte : ∀ i, i < 32 → plN n i / 8 = (plc n).getD (i / 8) 0 ∧ plN n i % 8 = i % 8
  back : ∀ q, q < 128 → q / 8 ∈ plc n → ∃ i, i < 32 ∧ plN n i = q
  low : ∀ i, i < 32 → n ≤ plN n i
theorem plc_all {n : Nat} (h : lenOk n = true) : Plc n := by
  rcases lenOk_six h with h | h | h | h | h | h
  · obtain rfl : n = 32 := by omega
    exact ⟨by decide, by decide, by decide, by decide +kernel, by decide⟩
  · obtain rfl : n = 40 := by omega
    exact ⟨by decide, by decide, by decide, by decide +kernel, by decide⟩
  · obtain rfl : n = 48 := by omega
    exact ⟨by decide, by decide, by decide, by decide +kernel, by decide⟩
  · obtain rfl : n = 56 := by omega
    exact ⟨by decide, by decide, by decide, by decide +kernel, by decide⟩
  · obtain rfl : n = 64 := by omega
    exact ⟨by decide, by decide, by decide, by decide +kernel, by decide⟩
  · obtain rfl : n = 96 := by omega
    exact ⟨by decide, by decide, by decide, by decide +kernel, by decide⟩

theorem bitN_getL {x : List Int} {n : Nat} (P : Plc n) (i : Nat) (hi : i < 32) : bitN (getL x (plc n)) i = bitN x (plN n i) := by
  obtain ⟨h1, h2⟩ := P.byte i hi
  obtain ⟨p0, p1, p2, p3, hpp, _⟩ := plc_lt (n : Int)
  unfold bitN
  rw [h1, h2, hpp]
  have hj : i / 8 = 0 ∨ i / 8 = 1 ∨ i / 8 = 2 ∨ i / 8 = 3 := by omega
  rcases hj with h | h | h | h <;> rw [h] <;> simp [getL, List.getD_eq_getElem?_getD]

theorem get_moved {x : List Int} {n : Nat} (P : Plc n) (hf : FitB x) : mvK zeroA4 x (fun i => i) (plN n) 32 = getL x (plc n) := by
  have hz : FitB zeroA4 := by intro z hz; simp at hz; subst hz; decide
  obtain ⟨hA, _⟩ := mvK_bits (src := x) (s := plN n) hz (d := fun i => i) (K := 32) (fun i hi => by simpa using hi) (fun i j _ _ e => e) (fun i hi => bitN_zero 4 i) 32 (Nat.le_refl _)
  refine row_ext (by rw [mvK_length, getL_len]; rfl) (mvK_fit hz _ _ _) (getL_fit hf _) fun p hp => ?_
  rw [mvK_length] at hp
  have hp' : p < 32 := by simpa using hp
  exact (hA p hp').trans (bitN_getL P p hp').symm

theorem putK_other {l a : List Int} {ps : List Nat} {q : Nat} (h : ∀ i, i < 4 → ps.getD i 0 ≠ q) : (putK l ps a 4)[q]? = l[q]? := by
  have e : putK l ps a 4 = (((l.set (ps.getD 0 0) (a.getD 0 0)).set (ps.getD 1 0) (a.getD 1 0)).set (ps.getD 2 0) (a.getD 2 0)).set (ps.getD 3 0) (a.getD 3 0) := rfl
  rw [e, List.getElem?_set_ne (h 3 (by decide)), List.getElem?_set_ne (h 2 (by decide)), List.getElem?_set_ne (h 1 (by decide)), List.getElem?_set_ne (h 0 (by decide))]

theorem put_moved {l a : List Int} {n : Nat} (hl : l.length = 16) (hf : FitB l) (h : chkE l n = 0) (ha : a.length = 4) (hfa : FitB a) : mvK l a (plN n) (fun i => i) 32 = putL l n a := by
  obtain ⟨h1, h2, h3⟩ := chkE_ok h
  have P := plc_all h2
  have hb : l = blR n l := by
    unfold okP6 at h1
    simp only [Bool.and_eq_true, decide_eq_true_eq] at h1
    exact h1.2
  have E := emb_any hl hf h ha hfa
  have hput : (putL l n a).length = 16 := by unfold putL; rw [putK_length, hl]
  obtain ⟨hA, hB⟩ := mvK_bits (src := a) (s := fun i => i) hf (d := plN n) (K := 32) (fun i hi => by have := P.lt i hi; omega) (fun i j hi hj e => P.inj i hi j hj e) (fun i hi => by
    rw [hb, bitN_blR hf n _ (by have := P.lt i hi; omega), if_neg (by have := P.low i hi; omega)]) 32 (Nat.le_refl _)
  refine row_ext (by rw [mvK_length, hput, hl]) (mvK_fit hf _ _ _) (putK_fit hf hfa _ _) fun q hq => ?_
  rw [mvK_length, hl] at hq
  by_cases c : ∃ i, i < 32 ∧ plN n i = q
  · obtain ⟨i, hi, rfl⟩ := c
    rw [hA i hi, ← bitN_getL P i hi, E.got]
  · rw [hB q (fun i hi e => c ⟨i, hi, e⟩)]
    have hno : ∀ i, i < 4 → (plc n).getD i 0 ≠ q / 8 := fun i hi e => by
      refine c (P.back q (by omega) ?_)
      rw [← e]
      obtain ⟨p0, p1, p2, p3, hpp, _⟩ := plc_lt (n : Int)
      rw [hpp]
      have hj : i = 0 ∨ i = 1 ∨ i = 2 ∨ i = 3 := by omega
      rcases hj with h | h | h | h <;> rw [h] <;> simp
    unfold bitN putL
    rw [putK_other hno]

end Go.Proofs.YtfiiopgdgfbkkaaDoor
