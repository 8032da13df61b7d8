/-
  Options, plainly: the first one, what is copied; first of the program.
-/
import Derived.Test.YtbaeogoojpngbaaRg
namespace Go.Proofs.Ytbaeogoojpngbaa
open Go Go.RowKit
set_option linter.unusedVariables false
set_option linter.unusedSimpArgs false

def firstN : List Int → Nat
  | [] => 0
  | x :: r => if x = 0 then 0 else if x = 1 then 1 else match r with
    | [] => 0
    | y :: _ => if y < 2 ∨ ((r.length : Nat) : Int) + 1 < y then 0 else y.toNat
theorem firstN_le (l : List Int) : firstN l ≤ l.length := by
  cases l with
  | nil => simp [firstN]
  | cons x r =>
    simp only [firstN]
    split
    · simp
    · split
      · simp
      · cases r with
        | nil => simp
        | cons y r =>
          simp only
          split
          · simp
          · next h => simp only [List.length_cons] at *; omega
theorem firstN_byte (l : List Int) (h : Fit l) : firstN l ≤ 255 := by
  cases l with
  | nil => simp [firstN]
  | cons x r =>
    simp only [firstN]
    split
    · simp
    · split
      · simp
      · cases r with
        | nil => simp
        | cons y r =>
          simp only
          split
          · simp
          · have := h y (by simp); omega
def optsN : Nat → List Int → List Int
  | 0, _ => []
  | n + 1, l => if firstN l = 0 then [] else (if 128 ≤ gz l 0 then l.take (firstN l) else []) ++ optsN n (l.drop (firstN l))
theorem optsN_fuel : ∀ (n m : Nat) (l : List Int), l.length ≤ n → l.length ≤ m → optsN n l = optsN m l
  | 0, 0, l, _, _ => rfl
  | 0, m + 1, l, h, _ => by
    obtain rfl : l = [] := List.length_eq_zero_iff.1 (by omega)
    simp [optsN, firstN]
  | n + 1, 0, l, _, h => by
    obtain rfl : l = [] := List.length_eq_zero_iff.1 (by omega)
    simp [optsN, firstN]
  | n + 1, m + 1, l, hn, hm => by
    unfold optsN
    by_cases h : firstN l = 0
    · rw [if_pos h, if_pos h]
    · rw [if_neg h, if_neg h, optsN_fuel n m (l.drop (firstN l)) (by simp; omega) (by simp; omega)]
def optsC (l : List Int) : List Int := optsN l.length l
theorem optsC_end (l : List Int) (h : firstN l = 0) : optsC l = [] := by
  unfold optsC
  cases hl : l.length with
  | zero => rfl
  | succ n => unfold optsN; rw [if_pos h]
theorem optsC_step (l : List Int) (h : firstN l ≠ 0) : optsC l = (if 128 ≤ gz l 0 then l.take (firstN l) else []) ++ optsC (l.drop (firstN l)) := by
  unfold optsC
  cases hl : l.length with
  | zero => have := firstN_le l; omega
  | succ n =>
    rw [optsN, if_neg h]
    rw [optsN_fuel n (l.drop (firstN l)).length _ (by simp; omega) (Nat.le_refl _)]
theorem optsN_length : ∀ (n : Nat) (l : List Int), (optsN n l).length ≤ l.length
  | 0, l => by simp [optsN]
  | n + 1, l => by
    unfold optsN
    split
    · simp
    · have := optsN_length n (l.drop (firstN l))
      have h2 := firstN_le l
      simp only [List.length_append, List.length_drop] at *
      split
      · simp only [List.length_take]; omega
      · simp only [List.length_nil]; omega
theorem optsC_length (l : List Int) : (optsC l).length ≤ l.length := optsN_length _ _
theorem optsN_fit : ∀ (n : Nat) (l : List Int), Fit l → Fit (optsN n l)
  | 0, l, _ => by intro z hz; simp [optsN] at hz
  | n + 1, l, h => by
    unfold optsN
    split
    · intro z hz; simp at hz
    · intro z hz
      rcases List.mem_append.1 hz with hz | hz
      · split at hz
        · exact h z (List.mem_of_mem_take hz)
        · simp at hz
      · exact optsN_fit n _ (fun z hz => h z (List.mem_of_mem_drop hz)) z hz
/-- Bytes 0 up to a multiple of 4. -/
def pad4 (l : List Int) : List Int := l ++ List.replicate ((4 - l.length % 4) % 4) 0
theorem pad4_done (l : List Int) (h : l.length % 4 = 0) : pad4 l = l := by simp [pad4, h]
theorem pad4_step (l : List Int) (h : l.length % 4 ≠ 0) : pad4 (l ++ [0]) = pad4 l := by
  unfold pad4
  rw [List.append_assoc]
  congr 1
  have : (4 - l.length % 4) % 4 = (4 - (l ++ [0]).length % 4) % 4 + 1 := by simp only [List.length_append, List.length_cons, List.length_nil]; omega
  rw [this, List.replicate_succ]
  rfl
theorem pad4_length (l : List Int) : (pad4 l).length % 4 = 0 ∧ (pad4 l).length < l.length + 4 := by
  unfold pad4
  simp only [List.length_append, List.length_replicate]
  omega
def copiedL (l : List Int) : List Int := pad4 (optsC l)
theorem copiedL_length (l : List Int) (h : l.length ≤ 40) : (copiedL l).length ≤ 40 ∧ (copiedL l).length % 4 = 0 := by
  have h1 := optsC_length l
  have h2 := pad4_length (optsC l)
  unfold copiedL
  omega
theorem copiedL_fit (l : List Int) (h : Fit l) : Fit (copiedL l) := by
  intro z hz
  unfold copiedL pad4 at hz
  rcases List.mem_append.1 hz with hz | hz
  · exact optsN_fit _ _ h z hz
  · rw [(List.mem_replicate.1 hz).2]; omega

end Go.Proofs.Ytbaeogoojpngbaa
