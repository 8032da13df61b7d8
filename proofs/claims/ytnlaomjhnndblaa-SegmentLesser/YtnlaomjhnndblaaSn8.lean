/-
  What becomes of a segment's size by Clamp: the bytes.
-/
import Derived.Test.YtnlaomjhnndblaaSn6
namespace Go.Proofs.Ytnlaomjhnndblaa
open Go Go.RowKit Go.Shelf
set_option linter.unusedVariables false
set_option linter.unusedSimpArgs false

theorem plc_two {zs : List Int} : ∀ f j i, plc zs f j = some i → j + 2 ≤ i := by
  intro f
  induction f with
  | zero => intro j i h; simp [plc] at h
  | succ f ih =>
    intro j i h
    unfold plc at h
    by_cases h1 : zs.length ≤ j ∨ gz zs j = 0
    · rw [if_pos h1] at h
      cases h
    · rw [if_neg h1] at h
      by_cases h2 : gz zs j = 1
      · rw [if_pos h2] at h
        have := ih _ _ h
        omega
      · rw [if_neg h2] at h
        by_cases h3 : szO zs j = 0
        · rw [if_pos h3] at h
          cases h
        · rw [if_neg h3] at h
          by_cases h4 : gz zs j = 2 ∧ szO zs j = 4
          · rw [if_pos h4] at h
            cases h
            omega
          · rw [if_neg h4] at h
            have := ih _ _ h
            omega
theorem plc_agree {zs ys : List Int} (hl : ys.length = zs.length) {i : Nat} (ha : ∀ j, j < i → gz ys j = gz zs j) : ∀ f j, plc zs f j = some i → plc ys f j = some i := by
  intro f
  induction f with
  | zero => intro j h; simp [plc] at h
  | succ f ih =>
    intro j h
    have hj := plc_two (f + 1) j i h
    have g0 := ha j (by omega)
    have g1 := ha (j + 1) (by omega)
    have gs : szO ys j = szO zs j := by
      unfold szO
      rw [g1, hl]
    unfold plc at h ⊢
    rw [g0, gs, hl]
    by_cases h1 : zs.length ≤ j ∨ gz zs j = 0
    · rw [if_pos h1] at h
      cases h
    · rw [if_neg h1] at h ⊢
      by_cases h2 : gz zs j = 1
      · rw [if_pos h2] at h ⊢
        exact ih _ h
      · rw [if_neg h2] at h ⊢
        by_cases h3 : szO zs j = 0
        · rw [if_pos h3] at h
          cases h
        · rw [if_neg h3] at h ⊢
          by_cases h4 : gz zs j = 2 ∧ szO zs j = 4
          · rw [if_pos h4] at h ⊢
            exact h
          · rw [if_neg h4] at h ⊢
            exact ih _ h
theorem gz_laid {zs : List Int} {i : Nat} {x : Int} (h : i + 2 ≤ zs.length) (j : Nat) : gz (laid zs i (w2 x)) j = if j = i then x / 256 else if j = i + 1 then x % 256 else gz zs j := by
  rw [← laid_set2 h]
  unfold gz
  by_cases h1 : j = i
  · subst h1
    rw [if_pos rfl, List.getElem?_set_ne (by omega), List.getElem?_set_self (by omega)]
    rfl
  · rw [if_neg h1]
    by_cases h2 : j = i + 1
    · subst h2
      rw [if_pos rfl, List.getElem?_set_self (by simp; omega)]
      rfl
    · rw [if_neg h2, List.getElem?_set_ne (by omega), List.getElem?_set_ne (by omega)]
/-- How many of the first bytes are unlike. -/
def df (ys zs : List Int) : Nat → Nat
  | 0 => 0
  | k + 1 => df ys zs k + (if gz ys k = gz zs k then 0 else 1)
theorem df_self (zs : List Int) : ∀ k, df zs zs k = 0
  | 0 => rfl
  | k + 1 => by simp [df, df_self zs k]
theorem df_bound (ys zs : List Int) : ∀ k, df ys zs k ≤ k
  | 0 => Nat.le_refl _
  | k + 1 => by
    have := df_bound ys zs k
    unfold df
    split <;> omega
theorem df_le {ys zs : List Int} {i : Nat} (h : ∀ j, j ≠ i → j ≠ i + 1 → gz ys j = gz zs j) : ∀ k, df ys zs k ≤ (if i < k then 1 else 0) + (if i + 1 < k then 1 else 0)
  | 0 => by simp [df]
  | k + 1 => by
    have ih := df_le h k
    unfold df
    have hd : (if gz ys k = gz zs k then 0 else 1) ≤ 1 := by split <;> decide
    have h0 : k ≠ i → k ≠ i + 1 → (if gz ys k = gz zs k then 0 else 1) = 0 := fun h1 h2 => if_pos (h k h1 h2)
    generalize (if gz ys k = gz zs k then 0 else 1) = δ at *
    generalize df ys zs k = n at *
    have hc : δ = 0 ∨ k = i ∨ k = i + 1 := by
      by_cases h1 : k = i
      · exact .inr (.inl h1)
      · by_cases h2 : k = i + 1
        · exact .inr (.inr h2)
        · exact .inl (h0 h1 h2)
    clear h0
    split at ih <;> split at ih <;> split <;> split <;> omega
structure Less (t : Seg) (most : Int) : Prop where
  same : mssB (clT t most) = mssB t
  turned : clB t most = (mssB t && decide (most < mssN t))
  size : mssB t = true → mssN (clT t most) = min (mssN t) (max most 0)
  len : (clT t most).opts.length = t.opts.length
  few : df (clT t most).opts t.opts t.opts.length ≤ 2
  none : clB t most = false → df (clT t most).opts t.opts t.opts.length = 0
  rest : clT t most = ⟨t.src, t.dst, t.seq, t.ack, t.fl, t.win, t.urg, (clT t most).opts, t.data⟩
theorem less {t : Seg} (most : Int) (hf : Fit t.opts) : Less t most := by
  cases ho : mssO t with
  | none =>
    have e : clT t most = t := by simp [clT, clO, ho]
    have eb : clB t most = false := by simp [clB, clO, ho]
    have em : mssB t = false := by simp [mssB, ho]
    refine ⟨by rw [e], by rw [eb, em]; rfl, fun h => (by rw [em] at h; cases h), by rw [e], by rw [e, df_self]; decide, fun _ => by rw [e, df_self], by rw [e]⟩
  | some i =>
    have hi : i + 2 ≤ t.opts.length := by
      have hi := ho
      unfold mssO at hi
      split at hi
      · cases hi
      · exact pl_bound 0 i (Nat.zero_le _) hi
    have hw := wd2_range hf i
    have en : mssN t = wd2 t.opts i := by simp [mssN, ho]
    have em : mssB t = true := by simp [mssB, ho]
    by_cases hmo : wd2 t.opts i ≤ most
    · have e : clT t most = t := by simp [clT, clO, ho, hmo]
      have eb : clB t most = false := by simp [clB, clO, ho, hmo]
      refine ⟨by rw [e], by rw [eb, em, en, decide_eq_false (by omega)]; rfl, fun _ => by rw [e, en]; omega, by rw [e], by rw [e, df_self]; decide, fun _ => by rw [e, df_self], by rw [e]⟩
    · have e : clT t most = ⟨t.src, t.dst, t.seq, t.ack, t.fl, t.win, t.urg, laid t.opts i (w2 (max most 0)), t.data⟩ := by simp [clT, clO, ho, hmo]
      have eb : clB t most = true := by simp [clB, clO, ho, hmo]
      have hx : 0 ≤ max most 0 ∧ max most 0 ≤ 65535 := by omega
      have hll : (laid t.opts i (w2 (max most 0))).length = t.opts.length := laid_length i (by simpa [w2] using hi)
      have hg := gz_laid (x := max most 0) hi
      have eo : mssO (clT t most) = some i := by
        rw [e]
        unfold mssO at ho ⊢
        dsimp only
        split at ho
        · cases ho
        · next hfl =>
          rw [if_neg hfl]
          unfold pl at ho ⊢
          rw [hll]
          exact plc_agree hll (fun j hj => by rw [hg, if_neg (by omega), if_neg (by omega)]) _ _ ho
      have en2 : mssN (clT t most) = max most 0 := by
        unfold mssN
        rw [eo]
        show wd2 (clT t most).opts i = _
        rw [e]
        unfold wd2
        dsimp only
        rw [hg, hg, if_pos rfl, if_neg (by omega), if_pos rfl]
        omega
      have hd : df (clT t most).opts t.opts t.opts.length ≤ 2 := by
        have h1 := df_le (ys := (clT t most).opts) (zs := t.opts) (i := i) (fun j h1 h2 => by rw [e]; dsimp only; rw [hg, if_neg h1, if_neg h2]) t.opts.length
        split at h1 <;> split at h1 <;> omega
      refine ⟨by rw [em]; simp [mssB, eo], by rw [eb, em, en, decide_eq_true (by omega)]; rfl, fun _ => by rw [en2, en]; omega, by rw [e]; exact hll, hd, fun h => (by rw [eb] at h; cases h), by rw [e]⟩

end Go.Proofs.Ytnlaomjhnndblaa
