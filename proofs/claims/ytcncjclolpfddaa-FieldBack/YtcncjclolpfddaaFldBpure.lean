/-
  There and back, as plain facts: what is put is got, what was there comes back, and letters are read as the bits that they are of.
-/
import Derived.Test.YtcncjclolpfddaaFldRead
namespace Go.Proofs.Ytcncjclolpfddaa
set_option linter.unusedVariables false
set_option linter.unusedSimpArgs false
open Go Go.RowKit

theorem bk_acc (zs : List Int) (p n : Nat) : ∀ j, j < n → bk (accN zs p n) (n - 1 - j) = bitN zs (p + j) := by
  induction n with
  | zero => intro j hj; omega
  | succ n ih =>
    intro j hj
    by_cases c : j = n
    · subst c
      have := bitN_lt zs (p + j)
      rw [show j + 1 - 1 - j = 0 by omega]
      simp only [bk, accN, Nat.pow_zero, Nat.div_one]
      omega
    · have h := ih j (by omega)
      rw [← h]
      have hb := bitN_lt zs (p + n)
      unfold bk
      rw [show n + 1 - 1 - j = (n - 1 - j) + 1 by omega, Nat.pow_succ, Nat.mul_comm, ← Nat.div_div_eq_div_mul]
      have : accN zs p (n + 1) / 2 = accN zs p n := by simp only [accN]; omega
      rw [this]

theorem back_get {zs : List Int} (hf : FitB zs) (p m v : Nat) (h : p + m ≤ 8 * zs.length) (hv : v < 2 ^ m) : accN (writeL zs p m v m) p m = v := by
  refine accN_of (fun j hj => ?_) hv
  rw [bitN_writeL hf _ _ _ _ _ h, if_pos (by omega), show p + j - p = j by omega]
theorem back_put {zs : List Int} (hf : FitB zs) (p m v : Nat) (h : p + m ≤ 8 * zs.length) : writeL (writeL zs p m v m) p m (accN zs p m) m = zs := by
  refine row_ext (by simp) (writeL_fit (writeL_fit hf _ _ _ _) _ _ _ _) hf fun q hq => ?_
  simp only [writeL_length] at hq
  rw [bitN_writeL (writeL_fit hf _ _ _ _) _ _ _ _ _ (by simpa using h), bitN_writeL hf _ _ _ _ _ h]
  by_cases c : p ≤ q ∧ q < p + m
  · rw [if_pos c, bk_acc zs p m _ (by omega), show p + (q - p) = q by omega]
  · rw [if_neg c, if_neg c]
theorem back_other {zs : List Int} (hf : FitB zs) (p m v o : Nat) (h : p + m ≤ 8 * zs.length) (ho : ¬ (p ≤ o ∧ o < p + m)) : bitN (writeL zs p m v m) o = bitN zs o := by
  rw [bitN_writeL hf _ _ _ _ _ h, if_neg ho]

theorem strOf_size (l : List Int) : (strOfNums l).size = l.length := by
  simp [strOfNums, ByteArray.size]
theorem strOf_byte (l : List Int) (hf : FitB l) (j : Nat) (h : j < l.length) : byteAt (strOfNums l) j = (l[j]?.getD 0).toNat := by
  have hz := hf _ (List.getElem_mem h)
  simp [byteAt, strOfNums, h]
  omega

theorem text_byte (zs : List Int) (n j : Nat) (hj : j < n) : byteAt (strOfNums (textOf zs 0 n)) j = 48 + bitN zs j := by
  have h := strOf_byte (textOf zs 0 n) (textR_fit _ _ _ _) j (by simpa [textOf] using hj)
  rw [h, textOf, textR_get _ _ _ _ _ hj, if_pos hj]
  simp only [Option.getD_some, Nat.zero_add]
  omega
theorem text_size (zs : List Int) (n : Nat) : (strOfNums (textOf zs 0 n)).size = n := by rw [strOf_size]; simp [textOf]
theorem text_good (zs : List Int) : goodTo (strOfNums (textOf zs 0 (8 * zs.length))) (8 * zs.length) := by
  intro j hj
  unfold isLet
  rw [text_byte zs _ j hj]
  have := bitN_lt zs j
  omega
theorem text_read {zs : List Int} (hf : FitB zs) : packL (numsOf (strOfNums (textOf zs 0 (8 * zs.length)))) (strOfNums (textOf zs 0 (8 * zs.length))).size = zs := by
  have hsz := text_size zs (8 * zs.length)
  refine row_ext (by rw [packL_length, numsOf_length, hsz]; omega) (packL_fit _ _) hf fun q hq => ?_
  rw [packL_length, numsOf_length, hsz] at hq
  have hq8 : q < 8 * zs.length := by omega
  rw [bitN_packL _ _ _ (by simp), numsOf_get _ _ (by rw [hsz]; exact hq8), text_byte zs _ q hq8, hsz]
  have hb := bitN_lt zs q
  have := bit01 (bitN zs q) hb
  simp only [Option.getD_some, Nat.add_sub_cancel_left]
  simpa [hq8] using this

theorem read_text {zs : List Int} (hf : FitB zs) (hl : zs.length ≤ 200) {bs : List Int} {n i er : Int} (h : ReadIs (strOfNums (textOf zs 0 (8 * zs.length))) bs n i er) : bs = zs ∧ n = ((8 * zs.length : Nat) : Int) ∧ i = 0 ∧ er = 0 := by
  have hsz : (strOfNums (textOf zs 0 (8 * zs.length))).size = 8 * zs.length := by rw [strOf_size]; simp [textOf]
  have hg : goodTo (strOfNums (textOf zs 0 (8 * zs.length))) (strOfNums (textOf zs 0 (8 * zs.length))).size := fun j hj => text_good zs j (by rw [hsz] at hj; exact hj)
  have hr := runes_all _ hg
  obtain ⟨rfl, rfl, rfl, rfl⟩ := h.uniq (.inr (.inr ⟨by rw [hr, hsz]; omega, hg, rfl, rfl, rfl, rfl⟩))
  exact ⟨text_read hf, by rw [hsz], rfl, rfl⟩

end Go.Proofs.Ytcncjclolpfddaa
