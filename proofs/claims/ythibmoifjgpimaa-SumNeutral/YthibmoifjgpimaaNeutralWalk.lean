/-
  The walk of the statement SumNeutral: a word makes up for the change of others.
-/
import Derived.Test.YthibmoifjgpimaaChangeWalk
namespace Go.Proofs.Ythibmoifjgpimaa
open Go Go.RowKit Go.Shelf

/-- Of, called at a head, a new word, a row of words and a tail. -/
theorem of_chk4 (u0 u2 u3 : Value) (x0 x2 x3 : List Int) (a : Int) (c1 c2 : Int) (hc1 : c1 = a / 256) (hc2 : c2 = a % 256) (ha : 0 ≤ a ∧ a ≤ 65535) (w : World) (h0 : BytesAt w.heap.size w u0 x0) (h2 : BytesAt w.heap.size w u2 x2) (h3 : BytesAt w.heap.size w u3 x3) (e0 : x0.length % 2 = 0) (e2 : x2.length % 2 = 0) :
    Calls Try.prog 12 #[.slice (some ⟨w.heap.size + 1, 0, none⟩) 4 4] ((w.alloc (.cells #[.int .u8 c1, .int .u8 c2] 5)).alloc (.cells #[u0, .slice (some ⟨w.heap.size, 0, none⟩) 2 2, u2, u3] 32)) fun e w' =>
      e = .returned (.int .u16 (chkW (wordsL x0 ++ (a :: (wordsL x2 ++ wordsL x3))))) ∧ Below w.heap.size w w' := by
  have hf : Fit [c1, c2] := by
    intro z hz
    simp at hz
    omega
  have hb : Below w.heap.size w (w.alloc (.cells #[.int .u8 c1, .int .u8 c2] 5)) := (Below.refl _ w).alloc (Nat.le_refl _) _
  have hn := bytes_new w 5 [c1, c2] #[.int .u8 c1, .int .u8 c2] 2 2 (bytes_lit _ _ rfl) rfl (by simp) hf
  have h := of_four _ _ _ _ _ _ _ _ _ (h0.later hb) hn (h2.later hb) (h3.later hb)
  have e1 : (w.alloc (.cells #[.int .u8 c1, .int .u8 c2] 5)).heap.size = w.heap.size + 1 := by simp
  have e3 : 65535 - sumW 0 (wordsL [x0, [c1, c2], x2, x3].flatten) = chkW (wordsL x0 ++ (a :: (wordsL x2 ++ wordsL x3))) := by
    have : [x0, [c1, c2], x2, x3].flatten = x0 ++ (c1 :: c2 :: (x2 ++ x3)) := by simp
    rw [this, wordsL_append _ _ e0, wordsL_two, hc1, hc2, word_back, wordsL_append _ _ e2, chkW]
  rw [e3] at h
  have h' := h.mono (R' := fun e w' => e = .returned (.int .u16 (chkW (wordsL x0 ++ (a :: (wordsL x2 ++ wordsL x3))))) ∧ Below w.heap.size w w') (fun e w' hr => ⟨hr.1, hb.trans (hr.2.mono hb.size)⟩)
  rw [e1] at h'
  exact h'

set_option maxHeartbeats 2000000 in
theorem sumNeutral_walk (a0 : Option Addr) (len0 cap0 : Nat) (z0 : List Int) (a1 : Option Addr) (len1 cap1 : Nat) (z1 : List Int) (a2 : Option Addr) (len2 cap2 : Nat) (z2 : List Int) (a3 : Option Addr) (len3 cap3 : Nat) (z3 : List Int) (w : World) (w0 : IsRowB w a0 len0 cap0 z0) (w1 : IsRowB w a1 len1 cap1 z1) (w2 : IsRowB w a2 len2 cap2 z2) (w3 : IsRowB w a3 len3 cap3 z3) :
    Calls Try.prog 7 #[.slice a0 len0 cap0, .slice a1 len1 cap1, .slice a2 len2 cap2, .slice a3 len3 cap3] w fun e w' => e = .returned (.bool true) ∧ Below w.heap.size w w' := by
  obtain ⟨p1, p2, p3⟩ := w0.bounds
  obtain ⟨q1, q2, q3⟩ := w1.bounds
  obtain ⟨r1, r2, r3⟩ := w2.bounds
  obtain ⟨s1, s2, s3⟩ := w3.bounds
  have hb0 := w0.bytes (min len0 3000) (by omega) (by omega)
  have hb1 := w1.bytes (min len1 3000) (by omega) (by omega)
  have hb2 := w2.bytes (min len2 3000) (by omega) (by omega)
  have hb3 := w3.bytes (min len3 3000) (by omega) (by omega)
  have hn0 : min len0 3000 ≤ 3000 := by omega
  have hn1 : min len1 3000 ≤ 3000 := by omega
  have hn2 : min len2 3000 ≤ 3000 := by omega
  have hn3 : min len3 3000 ≤ 3000 := by omega
  generalize z0.take (min len0 3000) = x0 at *
  generalize z1.take (min len1 3000) = x1 at *
  generalize z2.take (min len2 3000) = x2 at *
  generalize z3.take (min len3 3000) = x3 at *
  go_enter Try.func7, Try.ntmps7
  go_wp2_with fail
  refine (cut_calls a0 len0 cap0 _ p1 p2 p3).mono ?_
  rintro e w' ⟨rfl, rfl⟩
  go_wp2_with fail
  refine (cut_calls a1 len1 cap1 _ q1 q2 q3).mono ?_
  rintro e w'' ⟨rfl, rfl⟩
  go_wp2_with fail
  refine (cut_calls a2 len2 cap2 _ r1 r2 r3).mono ?_
  rintro e w' ⟨rfl, rfl⟩
  go_wp2_with fail
  refine (cut_calls a3 len3 cap3 _ s1 s2 s3).mono ?_
  rintro e w ⟨rfl, rfl⟩
  generalize min len0 3000 = n0 at *
  generalize min len1 3000 = n1 at *
  generalize min len2 3000 = n2 at *
  generalize min len3 3000 = n3 at *
  clear w0 w1 w2 w3 p1 p2 p3 q1 q2 q3 r1 r2 r3 s1 s2 s3 z0 z1 z2 z3
  obtain rfl : n0 = x0.length := by obtain ⟨_, _, e, _⟩ := hb0.val; cases e; rfl
  obtain rfl : n1 = x1.length := by obtain ⟨_, _, e, _⟩ := hb1.val; cases e; rfl
  obtain rfl : n2 = x2.length := by obtain ⟨_, _, e, _⟩ := hb2.val; cases e; rfl
  obtain rfl : n3 = x3.length := by obtain ⟨_, _, e, _⟩ := hb3.val; cases e; rfl
  by_cases hev : x0.length % 2 = 0
  rotate_left
  · have hm : ((x0.length : Int) % 2 != 0) = true := by rw [bne_iff_ne]; omega
    go_wp2_with fail
    refine (alive_calls _).mono ?_
    rintro e W6 ⟨rfl, hB6⟩
    go_wp2
    go_ret
    exact ⟨rfl, hB6⟩
  have hm0 : ((x0.length : Int) % 2 != 0) = false := by rw [bne_eq_false_iff_eq]; omega
  by_cases hlen : x1.length = x2.length
  rotate_left
  · have hm : ((x1.length : Int) != (x2.length : Int)) = true := by rw [bne_iff_ne]; omega
    clear hlen
    go_wp2_with fail
    refine (alive_calls _).mono ?_
    rintro e W6 ⟨rfl, hB6⟩
    go_wp2
    go_ret
    exact ⟨rfl, hB6⟩
  by_cases hev1 : x1.length % 2 = 0
  rotate_left
  · have hm : ((x1.length : Int) % 2 != 0) = true := by rw [bne_iff_ne]; omega
    have hm1 : ((x1.length : Int) != (x2.length : Int)) = false := by rw [bne_eq_false_iff_eq]; omega
    clear hlen
    go_wp2_with fail
    refine (alive_calls _).mono ?_
    rintro e W6 ⟨rfl, hB6⟩
    go_wp2
    go_ret
    exact ⟨rfl, hB6⟩
  have hm2 : ((x1.length : Int) % 2 != 0) = false := by rw [bne_eq_false_iff_eq]; omega
  have hw0 := wordsL_words hb0.fit
  have hw1 := wordsL_words hb1.fit
  have hw2 := wordsL_words hb2.fit
  have hw3 := wordsL_words hb3.fit
  have hev2 : x2.length % 2 = 0 := by omega
  rw [← hlen] at hb2
  rw [← hlen]
  clear hlen
  have hr1 := sumW_range _ 0 (by decide) hw1
  have hr2 := sumW_range _ _ hr1 (turn_words hw2)
  have hmod := neutral_mod (wordsL x0) (wordsL x1) (wordsL x2) (wordsL x3)
  have hc1 := chkW_range _ (hw0.append (Words.cons (x := 0) (by decide) (hw1.append hw3)))
  have hc2 := chkW_range _ (hw0.append (Words.cons hr2 (hw2.append hw3)))
  go_wp2_with fail
  refine (neutral_some _ _ _ _ _ x1 x2 w hb1 hb2 hev1).mono ?_
  rintro e W1 ⟨rfl, hB1⟩
  clear hr1
  generalize sumW (sumW 0 (wordsL x1)) ((wordsL x2).map (fun z => 65535 - z)) = N at *
  have HM : Hid (chkW (wordsL x0 ++ (0 :: (wordsL x1 ++ wordsL x3))) % 65535 = chkW (wordsL x0 ++ (N :: (wordsL x2 ++ wordsL x3))) % 65535) := hmod
  clear hmod
  go_wp2_with fail
  refine (of_chk4 _ _ _ x0 x1 x3 0 0 0 (by decide) (by decide) (by decide) W1 (hb0.later hB1) (hb1.later hB1) (hb3.later hB1) hev hev1).mono ?_
  rintro e W2 ⟨rfl, hB2⟩
  have hB := hB1.trans (hB2.mono hB1.size)
  go_wp2_with fail
  refine (of_chk4 _ _ _ x0 x2 x3 N _ _ rfl rfl hr2 W2 (hb0.later hB) (hb2.later hB) (hb3.later hB) hev hev2).mono ?_
  rintro e W3 ⟨rfl, hB3⟩
  go_wp2_with fail
  refine (alike_yes _ _ hc1 hc2 HM.out _).mono ?_
  rintro e W4 ⟨rfl, rfl⟩
  go_wp2_with fail
  refine (alive_calls _).mono ?_
  rintro e W6 ⟨rfl, hB6⟩
  have hB7 := hB.trans (hB3.mono hB.size)
  go_wp2
  go_ret
  exact ⟨rfl, hB7.trans (hB6.mono hB7.size)⟩

end Go.Proofs.Ythibmoifjgpimaa
