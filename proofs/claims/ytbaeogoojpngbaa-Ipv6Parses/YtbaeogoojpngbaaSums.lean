/-
  Plain mathematics of sums: the sum of words is their sum modulo 65535; words of rows that are joined.
-/
import Derived.Test.YtbaeogoojpngbaaPlain
namespace Go.Proofs.Ytbaeogoojpngbaa
open Go

theorem addW_mod (a b : Int) : addW a b % 65535 = (a + b) % 65535 := by unfold addW; split <;> omega
theorem sumW_mod : ∀ (xs : List Int) (s : Int), sumW s xs % 65535 = (s + xs.sum) % 65535
  | [], s => by simp [sumW]
  | x :: xs, s => by
    have h1 := sumW_mod xs (addW s x)
    have h2 := addW_mod s x
    have e : sumW s (x :: xs) = sumW (addW s x) xs := rfl
    rw [e, h1, List.sum_cons]
    omega
theorem sumW_append (s : Int) (xs ys : List Int) : sumW s (xs ++ ys) = sumW (sumW s xs) ys := List.foldl_append ..

theorem wordsL_nil : wordsL [] = [] := rfl
theorem wordsL_two (a b : Int) (t : List Int) : wordsL (a :: b :: t) = (a * 256 + b) :: wordsL t := by
  unfold wordsL
  have e : ((a :: b :: t).length + 1) / 2 = (t.length + 1) / 2 + 1 := by simp; omega
  rw [e, List.range_succ_eq_map, List.map_cons, List.map_map]
  congr 1
theorem wordsL_append : ∀ (h t : List Int), h.length % 2 = 0 → wordsL (h ++ t) = wordsL h ++ wordsL t
  | [], t, _ => by simp [wordsL_nil]
  | [x], t, hl => by simp at hl
  | a :: b :: h, t, hl => by
    have hl' : h.length % 2 = 0 := by simp at hl; omega
    rw [List.cons_append, List.cons_append, wordsL_two, wordsL_two, wordsL_append h t hl', List.cons_append]

/-- The checksum of words. -/
def chkW (xs : List Int) : Int := 65535 - sumW 0 xs
theorem chkW_range (xs : List Int) (h : Words xs) : 0 ≤ chkW xs ∧ chkW xs ≤ 65535 := by
  have := sumW_range xs 0 (by decide) h
  unfold chkW; omega
theorem chkW_mod (xs : List Int) : chkW xs % 65535 = (- xs.sum) % 65535 := by
  have := sumW_mod xs 0
  unfold chkW; omega
theorem word_back (a : Int) : a / 256 * 256 + a % 256 = a := by omega

theorem Words.append {xs ys : List Int} (h : Words xs) (k : Words ys) : Words (xs ++ ys) := fun z hz => (List.mem_append.1 hz).elim (h z) (k z)
theorem Words.cons {x : Int} {xs : List Int} (h : 0 ≤ x ∧ x ≤ 65535) (k : Words xs) : Words (x :: xs) := fun z hz => by
  rcases List.mem_cons.1 hz with rfl | hz
  · exact h
  · exact k z hz

theorem turned_sum : ∀ (xs : List Int), (xs.map (fun z => 65535 - z)).sum % 65535 = (- xs.sum) % 65535
  | [] => by simp
  | x :: xs => by
    have h := turned_sum xs
    simp only [List.map_cons, List.sum_cons]
    omega

/-- The checksum behind a change, out of the words that change alone. -/
theorem change_mod (h f t l : List Int) : (65535 - sumW (sumW (65535 - chkW (h ++ (f ++ l))) (f.map (fun z => 65535 - z))) t) % 65535 = chkW (h ++ (t ++ l)) % 65535 := by
  have h1 := sumW_mod t (sumW (65535 - chkW (h ++ (f ++ l))) (f.map (fun z => 65535 - z)))
  have h2 := sumW_mod (f.map (fun z => 65535 - z)) (65535 - chkW (h ++ (f ++ l)))
  have h3 := chkW_mod (h ++ (f ++ l))
  have h4 := chkW_mod (h ++ (t ++ l))
  have h5 := turned_sum f
  simp only [List.sum_append] at h3 h4
  omega

/-- A word makes up for the change of others. -/
theorem neutral_mod (h f t l : List Int) : chkW (h ++ (0 :: (f ++ l))) % 65535 = chkW (h ++ (sumW (sumW 0 f) (t.map (fun z => 65535 - z)) :: (t ++ l))) % 65535 := by
  have h1 := sumW_mod (t.map (fun z => 65535 - z)) (sumW 0 f)
  have h2 := sumW_mod f 0
  have h3 := chkW_mod (h ++ (0 :: (f ++ l)))
  have h4 := chkW_mod (h ++ (sumW (sumW 0 f) (t.map (fun z => 65535 - z)) :: (t ++ l)))
  have h5 := turned_sum t
  simp only [List.sum_append, List.sum_cons] at h3 h4
  omega

end Go.Proofs.Ytbaeogoojpngbaa
