/-
  IPv4 prefixes: the program's Has4, and that both sides say the same of what a prefix has and covers.
  Prefixes as sets: two of them meet just when one covers the other; to cover is a partial order.
-/
import Derived.Test.YtgndiblonhgihaaFold06
import Derived.Test.YtgndiblonhgihaaFold03
namespace Go.Proofs.Ytgndiblonhgihaa
open Go Go.RowKit
set_option linter.unusedVariables false
set_option linter.unusedSimpArgs false

theorem ok32 {a0 a1 a2 a3 : Int} (h0 : 0 ≤ a0 ∧ a0 < 256) (h1 : 0 ≤ a1 ∧ a1 < 256) (h2 : 0 ≤ a2 ∧ a2 < 256) (h3 : 0 ≤ a3 ∧ a3 < 256) : okP4 a0 a1 a2 a3 32 = true := by
  have h := low_ok (a0 := a0) (a1 := a1) (a2 := a2) (a3 := a3) 32 (Nat.le_refl _) h0 h1 h2 h3
  have hl : lowB [a0, a1, a2, a3] 32 = true := by
    unfold lowB
    exact decide_eq_true (fun i hi hn => by simp at hi; omega)
  rw [hl] at h
  unfold okP4
  rw [decide_eq_true (by omega), Bool.true_and]
  exact h.symm

theorem cov_same (a0 a1 a2 a3 n b0 b1 b2 b3 m : Int) : rcovB a0 a1 a2 a3 n b0 b1 b2 b3 m = covB a0 a1 a2 a3 n b0 b1 b2 b3 m := by
  unfold rcovB covB hasB
  rw [Bool.and_comm]
  congr 1
  rw [decide_eq_decide]
  exact ⟨Eq.symm, Eq.symm⟩
theorem has_same {a0 a1 a2 a3 n b0 b1 b2 b3 : Int} (h0 : 0 ≤ b0 ∧ b0 < 256) (h1 : 0 ≤ b1 ∧ b1 < 256) (h2 : 0 ≤ b2 ∧ b2 < 256) (h3 : 0 ≤ b3 ∧ b3 < 256) :
    (bothOk a0 a1 a2 a3 n b0 b1 b2 b3 32 && covB a0 a1 a2 a3 n b0 b1 b2 b3 32) = (okP4 a0 a1 a2 a3 n && hasB a0 a1 a2 a3 n b0 b1 b2 b3) ∧ bothOk a0 a1 a2 a3 n b0 b1 b2 b3 32 = okP4 a0 a1 a2 a3 n := by
  have e : bothOk a0 a1 a2 a3 n b0 b1 b2 b3 32 = okP4 a0 a1 a2 a3 n := by
    unfold bothOk
    rw [ok32 h0 h1 h2 h3, Bool.and_true]
  refine ⟨?_, e⟩
  rw [e]
  cases hok : okP4 a0 a1 a2 a3 n
  · rfl
  · have hn : 0 ≤ n ∧ n ≤ 32 := by simp [okP4] at hok; exact hok.1
    rw [← cov_same]
    unfold rcovB
    rw [decide_eq_true hn.2, Bool.and_true]

end Go.Proofs.Ytgndiblonhgihaa

namespace Go.Proofs.Ytgndiblonhgihaa
open Go
set_option linter.unusedVariables false

theorem msk_tab : ∀ r, r < 9 → ∀ s, s < 9 → r ≤ s → (255 - 255 / 2 ^ s) &&& (255 - 255 / 2 ^ r) = 255 - 255 / 2 ^ r := by decide
theorem msk_and {n m : Int} (h : n ≤ m) : msk m &&& msk n = msk n := by
  unfold msk
  exact msk_tab _ (by omega) _ (by omega) (by omega)
theorem bl_low {n m : Int} (h : n ≤ m) (z : Int) : bl (bl z m) n = bl z n := by
  unfold bl
  rw [Int.toNat_natCast, Nat.and_assoc, msk_and h]
theorem bl_high {n m : Int} (h : n ≤ m) (z : Int) : bl (bl z n) m = bl z n := by
  unfold bl
  rw [Int.toNat_natCast, Nat.and_assoc, Nat.and_comm (msk n), msk_and h]

/-- A row of bytes whose bits behind the first n are 0. -/
def blR (n : Int) (l : List Int) : List Int := l.mapIdx (fun i z => bl z (n - 8 * i))
theorem blR_low {n m : Int} (h : n ≤ m) (l : List Int) : blR n (blR m l) = blR n l := by
  unfold blR
  rw [List.mapIdx_mapIdx]
  congr 1
  funext i z
  exact bl_low (by omega) z
theorem blR_high {n m : Int} (h : n ≤ m) (l : List Int) : blR m (blR n l) = blR n l := by
  unfold blR
  rw [List.mapIdx_mapIdx]
  congr 1
  funext i z
  exact bl_high (by omega) z

/-- What is to be shown of three prefixes and an address. -/
structure SetLaws (a b c d : List Int) (n m k : Int) : Prop where
  k1 : decide (blR n d = a) = true → decide (blR m d = b) = true → (decide (n ≤ m) && decide (a = blR n b)) = false → (decide (m ≤ n) && decide (b = blR m a)) = true
  k2 : (decide (n ≤ m) && decide (a = blR n b)) = true → (decide (m ≤ n) && decide (b = blR m a)) = true → b = a ∧ m = n
  k3 : (decide (n ≤ m) && decide (a = blR n b)) = true → (decide (m ≤ k) && decide (b = blR m c)) = true → (decide (n ≤ k) && decide (a = blR n c)) = true
  k4 : ((decide (n ≤ m) && decide (a = blR n b)) || (decide (m ≤ n) && decide (b = blR m a))) = (decide (blR n b = a) || decide (blR m a = b))

theorem setLaws (a b c d : List Int) (n m k : Int) (ha : a = blR n a) (hb : b = blR m b) (hc : c = blR k c) : SetLaws a b c d n m k := by
  refine ⟨?_, ?_, ?_, ?_⟩
  · simp only [decide_eq_true_eq, Bool.and_eq_true, Bool.and_eq_false_iff, decide_eq_false_iff_not]
    intro h1 h2 h3
    rcases h3 with h3 | h3
    · refine ⟨by omega, ?_⟩
      rw [← h1, blR_low (show m ≤ n by omega), h2]
    · by_cases hnm : n ≤ m
      · exact absurd (by rw [← h2, blR_low hnm, h1]) h3
      · refine ⟨by omega, ?_⟩
        rw [← h1, blR_low (show m ≤ n by omega), h2]
  · simp only [decide_eq_true_eq, Bool.and_eq_true]
    rintro ⟨h1, h2⟩ ⟨h3, h4⟩
    obtain rfl : m = n := by omega
    exact ⟨by rw [h2, ← hb], rfl⟩
  · simp only [decide_eq_true_eq, Bool.and_eq_true]
    rintro ⟨h1, h2⟩ ⟨h3, h4⟩
    refine ⟨by omega, ?_⟩
    rw [h2, h4, blR_low h1]
  · rw [Bool.eq_iff_iff]
    simp only [Bool.or_eq_true, Bool.and_eq_true, decide_eq_true_eq]
    constructor
    · rintro (⟨h1, h2⟩ | ⟨h1, h2⟩)
      · exact .inl h2.symm
      · exact .inr h2.symm
    · rintro (h | h)
      · by_cases hnm : n ≤ m
        · exact .inl ⟨hnm, h.symm⟩
        · have hab : a = b := by rw [← h, hb, blR_high (show m ≤ n by omega), ← hb]
          exact .inr ⟨by omega, by rw [hab, ← hb]⟩
      · by_cases hnm : m ≤ n
        · exact .inr ⟨hnm, h.symm⟩
        · have hab : b = a := by rw [← h, ha, blR_high (show n ≤ m by omega), ← ha]
          exact .inl ⟨by omega, by rw [hab, ← ha]⟩

theorem blR4 (b0 b1 b2 b3 n : Int) : blR n [b0, b1, b2, b3] = pL b0 b1 b2 b3 n := by
  simp [blR, pL]

end Go.Proofs.Ytgndiblonhgihaa
