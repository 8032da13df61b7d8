/-
  The document's Whole6, where nothing stands behind the last colon.
-/
import Derived.Test.YtfiiopgdgfbkkaaDoorQa7
import Derived.Laws.OwnMore
namespace Go.Proofs.YtfiiopgdgfbkkaaDoor
set_option linter.unusedVariables false
set_option linter.unusedSimpArgs false
open Go Go.RowKit

/-- The groups behind k rounds. -/
def outK (l : List Int) (g k : Nat) : List Int := if k ≤ g then l.take k else l.take g ++ List.replicate (8 - l.length) 0 ++ (l.drop g).take (k - g)

/-- Behind the inner loop of round k. -/
def midK (l : List Int) (g k : Nat) : List Int := if k = g then l.take g ++ List.replicate (8 - l.length) 0 else outK l g k

theorem midK_next (l : List Int) (g k : Nat) (x : Int) (hg : g ≤ l.length) (h : l[k]? = some x) : midK l g k ++ [x] = outK l g (k + 1) := by
  obtain ⟨hk, rfl⟩ := List.getElem?_eq_some_iff.1 h
  unfold midK outK
  by_cases c : k = g
  · subst c
    rw [if_pos rfl, if_neg (by omega), Nat.add_sub_cancel_left]
    congr 1
    rw [List.drop_eq_getElem_cons hk]
    rfl
  · rw [if_neg c]
    by_cases d : k ≤ g
    · rw [if_pos d, if_pos (by omega), List.take_succ_eq_append_getElem hk]
    · rw [if_neg d, if_neg (by omega), List.append_assoc]
      congr 1
      have e : k + 1 - g = (k - g) + 1 := by omega
      have hl : k - g < (l.drop g).length := by rw [List.length_drop]; omega
      rw [e, List.take_succ_eq_append_getElem hl]
      congr 2
      rw [List.getElem_drop]
      congr 1
      omega
theorem midK_last (l : List Int) (g : Nat) (hg : g ≤ l.length) : midK l g l.length = outK l g (l.length + 1) := by
  unfold midK outK
  by_cases c : l.length = g
  · rw [if_pos c, if_neg (by omega), ← c, List.drop_length]
    simp
  · rw [if_neg c, if_neg (by omega), if_neg (by omega), List.take_of_length_le (l := l.drop g) (i := l.length - g) (by rw [List.length_drop]; omega), List.take_of_length_le (l := l.drop g) (i := l.length + 1 - g) (by rw [List.length_drop]; omega)]
theorem outK_len (l : List Int) (g k : Nat) (h7 : l.length ≤ 7) : (outK l g k).length ≤ 30 ∧ (midK l g k).length ≤ 30 := by
  have h1 : (outK l g k).length ≤ 30 := by
    unfold outK
    split <;> simp <;> omega
  refine ⟨h1, ?_⟩
  unfold midK
  split
  · simp; omega
  · exact h1
theorem outK_all (l : List Int) (g : Nat) (hg : g ≤ l.length) : outK l g (l.length + 1) = l.take g ++ List.replicate (8 - l.length) 0 ++ l.drop g := by
  unfold outK
  rw [if_neg (by omega), List.take_of_length_le (l := l.drop g) (by rw [List.length_drop]; omega)]

/-- One number more. -/
theorem own_num {w : World} {base : Nat} {v : Value} {xs : List Int} (h : w.ownsRow base 3 1 v xs.length (intsL xs)) (hb : base ≤ w.heap.size) (hn : xs.length ≤ 1000) (z : Int) (ty : TypeId) :
    ∃ v' w1, (Builtin.append_ #[74, 74] ty #[v, .slice (some ⟨w.heap.size, 0, none⟩) 1 1]).run Tryd.prog (w.alloc (.cells #[.int .i64 z] 3)) = .ok v' w1 ∧ w1.ownsRow base 3 1 v' (xs ++ [z]).length (intsL (xs ++ [z])) ∧ w.grownBy w1 v.ownBlock := by
  obtain ⟨v', w1, hrun, hown', hgrow, _⟩ := own_lit elem_int h hb (by omega) (by decide) [.int .i64 z] 1 rfl (by decide) (fun u hu => by simp at hu; subst hu; rfl) ty #[.int .i64 z] rfl
  have e : intsL xs ++ [.int .i64 z] = intsL (xs ++ [z]) := by simp [intsL]
  have e2 : xs.length + 1 = (xs ++ [z]).length := by simp
  rw [e, e2] at hown'
  exact ⟨v', w1, hrun, hown', hgrow⟩

theorem below_grown {B : Nat} {u w w1 : World} {v : Value} {n : Nat} {xs : List Value} {e : TypeId} (hB : Below B u w) (hown : w.ownsRow B e 1 v n xs) (hg : w.grownBy w1 v.ownBlock) (hb : B ≤ w.heap.size) : Below B u w1 :=
  hB.grown hg hb (fun j hj => (hown.lt j hj).1)

end Go.Proofs.YtfiiopgdgfbkkaaDoor
