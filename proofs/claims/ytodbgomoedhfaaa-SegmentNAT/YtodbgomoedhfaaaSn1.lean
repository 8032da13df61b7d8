/-
  Where a segment's maximum segment size stands: the options' bytes.
-/
import Derived.Test.YtodbgomoedhfaaaSl4
namespace Go.Proofs.Ytodbgomoedhfaaa
open Go Go.RowKit Go.Shelf
set_option linter.unusedVariables false
set_option linter.unusedSimpArgs false

def szO (zs : List Int) (i : Nat) : Nat := if i + 1 < zs.length ∧ 2 ≤ gz zs (i + 1) ∧ i + (gz zs (i + 1)).toNat ≤ zs.length then (gz zs (i + 1)).toNat else 0
def plc (zs : List Int) : Nat → Nat → Option Nat
  | 0, _ => none
  | f + 1, i => if zs.length ≤ i ∨ gz zs i = 0 then none else if gz zs i = 1 then plc zs f (i + 1) else if szO zs i = 0 then none else if gz zs i = 2 ∧ szO zs i = 4 then some (i + 2) else plc zs f (i + szO zs i)
theorem plc_any (zs : List Int) : ∀ f g i, zs.length < f + i → zs.length < g + i → plc zs f i = plc zs g i
  | 0, 0, i, h, k => rfl
  | 0, g + 1, i, h, k => by
    unfold plc
    rw [if_pos (.inl (by omega))]
  | f + 1, 0, i, h, k => by
    unfold plc
    rw [if_pos (.inl (by omega))]
  | f + 1, g + 1, i, h, k => by
    unfold plc
    by_cases h1 : zs.length ≤ i ∨ gz zs i = 0
    · rw [if_pos h1, if_pos h1]
    · rw [if_neg h1, if_neg h1]
      by_cases h2 : gz zs i = 1
      · rw [if_pos h2, if_pos h2]
        exact plc_any zs f g (i + 1) (by omega) (by omega)
      · rw [if_neg h2, if_neg h2]
        by_cases h3 : szO zs i = 0
        · rw [if_pos h3, if_pos h3]
        · rw [if_neg h3, if_neg h3]
          by_cases h4 : gz zs i = 2 ∧ szO zs i = 4
          · rw [if_pos h4, if_pos h4]
          · rw [if_neg h4, if_neg h4]
            exact plc_any zs f g (i + szO zs i) (by omega) (by omega)
def pl (zs : List Int) (i : Nat) : Option Nat := plc zs (zs.length + 1 - i) i
section
variable {zs : List Int} {i : Nat}
theorem pl_unf (hi : i ≤ zs.length) : pl zs i = if zs.length ≤ i ∨ gz zs i = 0 then none else if gz zs i = 1 then pl zs (i + 1) else if szO zs i = 0 then none else if gz zs i = 2 ∧ szO zs i = 4 then some (i + 2) else pl zs (i + szO zs i) := by
  unfold pl
  rw [show zs.length + 1 - i = (zs.length - i) + 1 by omega]
  show plc zs ((zs.length - i) + 1) i = _
  rw [plc]
  by_cases h1 : zs.length ≤ i ∨ gz zs i = 0
  · rw [if_pos h1, if_pos h1]
  · rw [if_neg h1, if_neg h1]
    have hlt : i < zs.length := by omega
    by_cases h2 : gz zs i = 1
    · rw [if_pos h2, if_pos h2]
      exact plc_any zs _ _ (i + 1) (by omega) (by omega)
    · rw [if_neg h2, if_neg h2]
      by_cases h3 : szO zs i = 0
      · rw [if_pos h3, if_pos h3]
      · rw [if_neg h3, if_neg h3]
        by_cases h4 : gz zs i = 2 ∧ szO zs i = 4
        · rw [if_pos h4, if_pos h4]
        · rw [if_neg h4, if_neg h4]
          have hs : i + szO zs i ≤ zs.length := by
            unfold szO at h3 ⊢
            split
            · omega
            · omega
          exact plc_any zs _ _ (i + szO zs i) (by omega) (by omega)
theorem pl_end (h : i = zs.length) : pl zs i = none := by rw [pl_unf (by omega), if_pos (.inl (by omega))]
theorem pl_zero (hi : i < zs.length) (h : gz zs i = 0) : pl zs i = none := by rw [pl_unf (by omega), if_pos (.inr h)]
theorem pl_one (hi : i < zs.length) (h : gz zs i = 1) : pl zs i = pl zs (i + 1) := by rw [pl_unf (by omega), if_neg (by omega), if_pos h]
theorem pl_bad (hi : i < zs.length) (h0 : gz zs i ≠ 0) (h1 : gz zs i ≠ 1) (h : szO zs i = 0) : pl zs i = none := by rw [pl_unf (by omega), if_neg (by omega), if_neg h1, if_pos h]
theorem pl_mss (hi : i < zs.length) (h2 : gz zs i = 2) (h : szO zs i = 4) : pl zs i = some (i + 2) := by rw [pl_unf (by omega), if_neg (by omega), if_neg (by omega), if_neg (by omega), if_pos ⟨h2, h⟩]
theorem pl_go (hi : i < zs.length) (h0 : gz zs i ≠ 0) (h1 : gz zs i ≠ 1) (h : szO zs i ≠ 0) (h4 : ¬ (gz zs i = 2 ∧ szO zs i = 4)) : pl zs i = pl zs (i + szO zs i) := by rw [pl_unf (by omega), if_neg (by omega), if_neg h1, if_neg h, if_neg h4]
theorem szO_le : szO zs i ≠ 0 → 2 ≤ szO zs i ∧ i + szO zs i ≤ zs.length := by
  unfold szO
  split
  · omega
  · omega
theorem szO_eq (h : szO zs i ≠ 0) : i + 1 < zs.length ∧ gz zs (i + 1) = (szO zs i : Int) := by
  unfold szO at h ⊢
  split at h
  · next hc => rw [if_pos hc]; exact ⟨hc.1, by omega⟩
  · exact absurd rfl h
end
theorem pl_bound {zs : List Int} : ∀ (i k : Nat), i ≤ zs.length → pl zs i = some k → k + 2 ≤ zs.length := by
  have key : ∀ f i k, plc zs f i = some k → k + 2 ≤ zs.length := by
    intro f
    induction f with
    | zero => intro i k h; simp [plc] at h
    | succ f ih =>
      intro i k h
      unfold plc at h
      by_cases h1 : zs.length ≤ i ∨ gz zs i = 0
      · rw [if_pos h1] at h
        cases h
      · rw [if_neg h1] at h
        by_cases h2 : gz zs i = 1
        · rw [if_pos h2] at h
          exact ih _ _ h
        · rw [if_neg h2] at h
          by_cases h3 : szO zs i = 0
          · rw [if_pos h3] at h
            cases h
          · rw [if_neg h3] at h
            by_cases h4 : gz zs i = 2 ∧ szO zs i = 4
            · rw [if_pos h4] at h
              cases h
              have := szO_le h3
              omega
            · rw [if_neg h4] at h
              exact ih _ _ h
  intro i k _ h
  exact key _ _ _ h
/-- Where a segment's size stands. -/
def mssO (t : Seg) : Option Nat := if t.fl / 2 % 2 = 0 then none else pl t.opts 0
theorem and_two : ∀ x, x < 256 → x &&& 2 = x / 2 % 2 * 2 := by decide +kernel
theorem and_syn (x : Int) (h : 0 ≤ x ∧ x ≤ 255) : bits .and .u8 x 2 = x / 2 % 2 * 2 := by
  obtain ⟨n, rfl⟩ := Int.eq_ofNat_of_zero_le h.1
  rw [show (2 : Int) = ((2 : Nat) : Int) from rfl, u8_and_nat n 2 (by omega) (by omega), and_two n (by omega)]
  omega

end Go.Proofs.Ytodbgomoedhfaaa
