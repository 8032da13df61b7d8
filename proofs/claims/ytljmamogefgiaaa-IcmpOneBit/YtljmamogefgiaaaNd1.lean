/-
  One bit of a message's bytes is turned: the bytes, and the operations that turn it.
-/
import Derived.Test.YtljmamogefgiaaaNc2
namespace Go.Proofs.Ytljmamogefgiaaa
open Go Go.RowKit Go.Shelf
set_option linter.unusedVariables false
set_option linter.unusedSimpArgs false

theorem ex_quo8 {o : Oper} {a : Act} {W : World} (k : Nat) {t : TypeId} {N : Nat} (hop : o.op = Op.binOp .quo 3 (.tmp k) (.const (.int .i64 8)) t) (hk : a.eval (.tmp k) = .int .i64 (N : Int)) (hN : N ≤ 1000000) :
    (execOp a.eval o).run Try.prog W = .ok (.value (.int .i64 ((N / 8 : Nat) : Int))) W := by
  have hc : a.eval (.const (.int .i64 8)) = .int .i64 8 := rfl
  have e : IntKind.i64.wrap ((N : Int) / 8) = (N : Int) / 8 := by rw [IntKind.wrap_i64]; omega
  generalize a.eval = ev at *
  simp [execOp, hop, hk, hc, go_sem, e]
theorem ex_rem8 {o : Oper} {a : Act} {W : World} (k : Nat) {t : TypeId} {N : Nat} (hop : o.op = Op.binOp .rem 3 (.tmp k) (.const (.int .i64 8)) t) (hk : a.eval (.tmp k) = .int .i64 (N : Int)) (hN : N ≤ 1000000) :
    (execOp a.eval o).run Try.prog W = .ok (.value (.int .i64 ((N % 8 : Nat) : Int))) W := by
  have hc : a.eval (.const (.int .i64 8)) = .int .i64 8 := rfl
  have e : (N : Int).tmod 8 = (N : Int) % 8 := Int.tmod_eq_emod_of_nonneg (by omega)
  generalize a.eval = ev at *
  simp [execOp, hop, hk, hc, go_sem, e]
theorem ex_shl1 {o : Oper} {a : Act} {W : World} (k : Nat) {t : TypeId} {j : Nat} (hop : o.op = Op.binOp .shl 5 (.const (.int .u8 1)) (.tmp k) 3) (hk : a.eval (.tmp k) = .int .i64 (j : Int)) (hj : j < 8) :
    (execOp a.eval o).run Try.prog W = .ok (.value (.int .u8 ((2 : Int) ^ j % 256))) W := by
  have hc : a.eval (.const (.int .u8 1)) = .int .u8 1 := rfl
  generalize a.eval = ev at *
  simp [execOp, hop, hk, hc, go_sem, IntKind.wrap_u8]
theorem ex_xor8 {o : Oper} {a : Act} {W : World} (k j : Nat) {t : TypeId} {x y : Int} (hop : o.op = Op.binOp .xor 5 (.tmp k) (.tmp j) t) (hk : a.eval (.tmp k) = .int .u8 x) (hj : a.eval (.tmp j) = .int .u8 y) :
    (execOp a.eval o).run Try.prog W = .ok (.value (.int .u8 (bits .xor .u8 x y))) W := by
  generalize a.eval = ev at *
  simp [execOp, hop, hk, hj, go_sem]
theorem ex_indexV {o : Oper} {a : Act} {W : World} (k j : Nat) {b off len cap i : Nat} (hop : o.op = Op.indexAddr 24 (.tmp k) (.tmp j)) (hk : a.eval (.tmp k) = .slice (some ⟨b, off, none⟩) len cap) (hj : a.eval (.tmp j) = .int .i64 (i : Int)) (hi : i < len) :
    (execOp a.eval o).run Try.prog W = .ok (.value (.pointer (some ⟨b, off + i, none⟩))) W := by
  have h1 : (i : Int) < (len : Int) := by omega
  generalize a.eval = ev at *
  simp [execOp, hop, hk, hj, go_sem, h1]

theorem xor_cases : ∀ x, x < 256 → ∀ k, k < 8 → ((x ^^^ 2 ^ k) < 256 ∧ ((x ^^^ 2 ^ k) = x + 2 ^ k ∨ (x ^^^ 2 ^ k) + 2 ^ k = x)) := by decide +kernel
theorem turned_bit (z : Int) (k : Nat) (hz : 0 ≤ z ∧ z < 256) (hk : k < 8) : (0 ≤ bits .xor .u8 z ((2 : Int) ^ k % 256) ∧ bits .xor .u8 z ((2 : Int) ^ k % 256) < 256) ∧ (bits .xor .u8 z ((2 : Int) ^ k % 256) = z + ((2 ^ k : Nat) : Int) ∨ bits .xor .u8 z ((2 : Int) ^ k % 256) = z - ((2 ^ k : Nat) : Int)) := by
  obtain ⟨x, rfl⟩ := Int.eq_ofNat_of_zero_le hz.1
  have h2 : 2 ^ k < 256 := by
    have : 2 ^ k ≤ 2 ^ 7 := Nat.pow_le_pow_right (by decide) (by omega)
    omega
  have e : ((2 : Int) ^ k % 256) = ((2 ^ k : Nat) : Int) := by
    have e1 : ((2 ^ k : Nat) : Int) = (2 : Int) ^ k := by simp
    rw [← e1]
    generalize 2 ^ k = m at h2 ⊢
    omega
  rw [e, u8_xor_nat x (2 ^ k) (by omega) h2]
  have := xor_cases x (by omega) k hk
  generalize 2 ^ k = m at this ⊢
  generalize x ^^^ m = q at this ⊢
  omega
theorem wordsL_one (a : Int) : wordsL [a] = [a * 256] := by simp [wordsL, wd]
theorem words_set : ∀ (l : List Int) (i : Nat) (v : Int), i < l.length → (wordsL (l.set i v)).sum = (wordsL l).sum + (v - l[i]?.getD 0) * (if i % 2 = 0 then 256 else 1)
  | [], i, v, h => by simp at h
  | [a], i, v, h => by
    obtain rfl : i = 0 := by simp at h; exact h
    show (wordsL [v]).sum = (wordsL [a]).sum + (v - a) * 256
    rw [wordsL_one, wordsL_one]
    simp
    omega
  | a :: b :: t, 0, v, h => by
    show (wordsL (v :: b :: t)).sum = (wordsL (a :: b :: t)).sum + (v - a) * 256
    rw [wordsL_two, wordsL_two]
    simp
    omega
  | a :: b :: t, 1, v, h => by
    show (wordsL (a :: v :: t)).sum = (wordsL (a :: b :: t)).sum + (v - b) * 1
    rw [wordsL_two, wordsL_two]
    simp
    omega
  | a :: b :: t, i + 2, v, h => by
    have ih := words_set t i v (by simp at h; omega)
    show (wordsL (a :: b :: t.set i v)).sum = (wordsL (a :: b :: t)).sum + (v - t[i]?.getD 0) * (if (i + 2) % 2 = 0 then 256 else 1)
    rw [wordsL_two, wordsL_two, show (i + 2) % 2 = i % 2 by omega]
    simp only [List.sum_cons]
    rw [ih]
    omega
theorem pow_cases (k : Nat) (hk : k < 8) : 2 ^ k = 1 ∨ 2 ^ k = 2 ∨ 2 ^ k = 4 ∨ 2 ^ k = 8 ∨ 2 ^ k = 16 ∨ 2 ^ k = 32 ∨ 2 ^ k = 64 ∨ 2 ^ k = 128 := by
  match k, hk with
  | 0, _ => decide
  | 1, _ => decide
  | 2, _ => decide
  | 3, _ => decide
  | 4, _ => decide
  | 5, _ => decide
  | 6, _ => decide
  | 7, _ => decide
theorem bit_none {ph : Int → List Int} (h : PhI ph) {zs : List Int} (hf : Fit zs) (h8 : 8 ≤ zs.length) (hl : zs.length ≤ 65535) (hs : sumW 0 (wordsL (ph zs.length ++ zs)) = 65535) (i k : Nat) (hi : i < zs.length) (hk : k < 8) :
    pE ph (zs.set i (bits .xor .u8 (gz zs i) ((2 : Int) ^ k % 256))) = 71 ∧ Fit (zs.set i (bits .xor .u8 (gz zs i) ((2 : Int) ^ k % 256))) := by
  obtain ⟨hy, hy'⟩ := turned_bit (gz zs i) k (hf.gz i) hk
  generalize bits .xor .u8 (gz zs i) ((2 : Int) ^ k % 256) = y at *
  refine ⟨?_, fun z hz => ?_⟩
  · rw [pE_more (by simp; omega) (by simp; omega), if_neg, ]
    intro hq
    rw [List.length_set] at hq
    have e : ph zs.length ++ zs.set i y = (ph zs.length ++ zs).set ((ph zs.length).length + i) y := by
      rw [List.set_append_right _ _ (by omega)]
      simp
    rw [e] at hq
    have h1 := sumW_mod (wordsL ((ph zs.length ++ zs).set ((ph zs.length).length + i) y)) 0
    have h2 := sumW_mod (wordsL (ph zs.length ++ zs)) 0
    rw [hq, words_set _ _ _ (by rw [List.length_append]; omega)] at h1
    rw [hs] at h2
    have e2 : (ph zs.length ++ zs)[(ph zs.length).length + i]?.getD 0 = gz zs i := by
      rw [List.getElem?_append_right (by omega)]
      simp [gz]
    rw [e2] at h1
    have hpw := pow_cases k hk
    generalize gz zs i = z at *
    generalize (wordsL (ph zs.length ++ zs)).sum = S at *
    clear hq hs e e2
    split at h1 <;> omega
  · rcases List.mem_or_eq_of_mem_set hz with hz | rfl
    · exact hf z hz
    · exact hy

end Go.Proofs.Ytljmamogefgiaaa
