/-
  The walk of the statement SumOneWord: no change of one word is overlooked, but that of 0 and 65535.
-/
import Derived.Test.YthibmoifjgpimabBytes
import Derived.Test.YthibmoifjgpimabSums
namespace Go.Proofs.Ythibmoifjgpimab
open Go Go.RowKit Go.Shelf

theorem word_fit (a : Int) (ha : 0 ≤ a ∧ a ≤ 65535) : Fit [a / 256, a % 256] := by
  intro z hz
  simp at hz
  omega
/-- Of, called at a head, a word and a tail. -/
theorem of_word (u0 u3 : Value) (x0 x3 : List Int) (a : Int) (ha : 0 ≤ a ∧ a ≤ 65535) (w : World) (h0 : BytesAt w.heap.size w u0 x0) (h3 : BytesAt w.heap.size w u3 x3) (hev : x0.length % 2 = 0) :
    Calls Try.prog 7 #[.slice (some ⟨w.heap.size + 1, 0, none⟩) 3 3] ((w.alloc (.cells #[.int .u8 (a / 256), .int .u8 (a % 256)] 5)).alloc (.cells #[u0, .slice (some ⟨w.heap.size, 0, none⟩) 2 2, u3] 22)) fun e w' =>
      e = .returned (.int .u16 (chkW (wordsL x0 ++ a :: wordsL x3))) ∧ Below w.heap.size w w' := by
  have hb : Below w.heap.size w (w.alloc (.cells #[.int .u8 (a / 256), .int .u8 (a % 256)] 5)) := (Below.refl _ w).alloc (Nat.le_refl _) _
  have hn := bytes_new w 5 [a / 256, a % 256] #[.int .u8 (a / 256), .int .u8 (a % 256)] 2 2 (bytes_lit _ _ rfl) rfl (by simp) (word_fit a ha)
  have h := of_three _ _ _ _ _ _ _ (h0.later hb) hn (h3.later hb)
  have e1 : (w.alloc (.cells #[.int .u8 (a / 256), .int .u8 (a % 256)] 5)).heap.size = w.heap.size + 1 := by simp
  have e2 : 65535 - sumW 0 (wordsL [x0, [a / 256, a % 256], x3].flatten) = chkW (wordsL x0 ++ a :: wordsL x3) := by
    have : [x0, [a / 256, a % 256], x3].flatten = x0 ++ (a / 256 :: a % 256 :: x3) := by simp
    rw [this, wordsL_append _ _ hev, wordsL_two, word_back, chkW]
  rw [e2] at h
  have h' := h.mono (R' := fun e w' => e = .returned (.int .u16 (chkW (wordsL x0 ++ a :: wordsL x3))) ∧ Below w.heap.size w w') (fun e w' hr => ⟨hr.1, hb.trans (hr.2.mono hb.size)⟩)
  rw [e1] at h'
  exact h'

theorem alike_lit (x y : Int) (hx : 0 ≤ x ∧ x ≤ 65535) (hy : 0 ≤ y ∧ y ≤ 65535) (r : Bool) (h : alikeB x y = r) (w : World) :
    Calls Try.prog 8 #[.int .u16 x, .int .u16 y] w fun e w' => e = .returned (.bool r) ∧ w' = w :=
  (alike_calls x y hx hy w).mono (fun _ _ hr => ⟨by rw [hr.1, h], hr.2⟩)

theorem oneWord_alike (xs ys : List Int) (a b : Int) : alikeB (chkW (xs ++ a :: ys)) (chkW (xs ++ b :: ys)) = (a % 65535 == b % 65535) := by
  have h1 := chkW_mod (xs ++ a :: ys)
  have h2 := chkW_mod (xs ++ b :: ys)
  simp only [List.sum_append, List.sum_cons] at h1 h2
  unfold alikeB
  rw [Bool.eq_iff_iff]
  simp only [decide_eq_true_eq, beq_iff_eq]
  constructor <;> intro h <;> omega

set_option maxHeartbeats 2000000 in
theorem sumOneWord_walk (a0 : Option Addr) (len0 cap0 : Nat) (z0 : List Int) (a b : Int) (a3 : Option Addr) (len3 cap3 : Nat) (z3 : List Int) (w : World) (w0 : IsRowB w a0 len0 cap0 z0) (w1 : (Lit.int .u16 a).wf = true) (w2 : (Lit.int .u16 b).wf = true) (w3 : IsRowB w a3 len3 cap3 z3) :
    Calls Try.prog 3 #[.slice a0 len0 cap0, .int .u16 a, .int .u16 b, .slice a3 len3 cap3] w fun e w' => e = .returned (.bool true) ∧ Below w.heap.size w w' := by
  obtain ⟨p1, p2, p3⟩ := w0.bounds
  obtain ⟨q1, q2, q3⟩ := w3.bounds
  have ha := bounds_u16 w1
  have hb := bounds_u16 w2
  have hb0 := w0.bytes (min len0 3000) (by omega) (by omega)
  have hb3 := w3.bytes (min len3 3000) (by omega) (by omega)
  have hn0 : min len0 3000 ≤ 3000 := by omega
  have hn3 : min len3 3000 ≤ 3000 := by omega
  clear w1 w2
  generalize z0.take (min len0 3000) = x0 at *
  generalize z3.take (min len3 3000) = x3 at *
  go_enter Try.func3, Try.ntmps3
  go_wp2_with fail
  refine (cut_calls a0 len0 cap0 _ p1 p2 p3).mono ?_
  rintro e w' ⟨rfl, rfl⟩
  go_wp2_with fail
  refine (cut_calls a3 len3 cap3 _ q1 q2 q3).mono ?_
  rintro e w'' ⟨rfl, rfl⟩
  generalize min len0 3000 = n0 at *
  generalize min len3 3000 = n3 at *
  clear w0 w3 p1 p2 p3 q1 q2 q3 z0 z3
  obtain rfl : n0 = x0.length := by obtain ⟨_, _, e, _⟩ := hb0.val; cases e; rfl
  obtain rfl : n3 = x3.length := by obtain ⟨_, _, e, _⟩ := hb3.val; cases e; rfl
  by_cases hev : x0.length % 2 = 0
  · have hm : ((x0.length : Int) % 2 != 0) = false := by rw [bne_eq_false_iff_eq]; omega
    have hw0 := wordsL_words hb0.fit
    have hw3 := wordsL_words hb3.fit
    have hx := chkW_range _ (hw0.append (Words.cons ha hw3))
    have hy := chkW_range _ (hw0.append (Words.cons hb hw3))
    have hal := oneWord_alike (wordsL x0) (wordsL x3) a b
    go_wp2_with fail
    refine (of_word _ _ x0 x3 a ha w'' hb0 hb3 hev).mono ?_
    rintro e W1 ⟨rfl, hB1⟩
    go_wp2_with fail
    refine (of_word _ _ x0 x3 b hb W1 (hb0.later hB1) (hb3.later hB1) hev).mono ?_
    rintro e W2 ⟨rfl, hB2⟩
    have hB := hB1.trans (hB2.mono hB1.size)
    clear hw0 hw3 hB1 hB2 hb0 hb3
    generalize chkW (wordsL x0 ++ a :: wordsL x3) = X at *
    generalize chkW (wordsL x0 ++ b :: wordsL x3) = Y at *
    cases hr : (a % 65535 == b % 65535)
    all_goals
      rw [hr] at hal
      have HA : Hid _ := hal
      clear hal
      go_wp2_with fail
      refine (alike_lit X Y hx hy _ HA.out _).mono ?_
      rintro e W3 ⟨rfl, rfl⟩
      go_wp2_with fail
      refine (alive_calls _).mono ?_
      rintro e W6 ⟨rfl, hB6⟩
      go_wp2
      go_ret
      exact ⟨rfl, hB.trans (hB6.mono hB.size)⟩
  · have hm : ((x0.length : Int) % 2 != 0) = true := by rw [bne_iff_ne]; omega
    go_wp2_with fail
    refine (alive_calls _).mono ?_
    rintro e W6 ⟨rfl, hB6⟩
    go_wp2
    go_ret
    exact ⟨rfl, hB6⟩

end Go.Proofs.Ythibmoifjgpimab
