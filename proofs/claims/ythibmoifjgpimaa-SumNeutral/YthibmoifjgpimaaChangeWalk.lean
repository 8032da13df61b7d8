/-
  The walk of the statement SumChanges: the checksum behind a change of some words is told without what did not change.
-/
import Derived.Test.YthibmoifjgpimaaBytes
import Derived.Test.YthibmoifjgpimaaSums
namespace Go.Proofs.Ythibmoifjgpimaa
open Go Go.RowKit Go.Shelf

theorem alikeB_mod {x y : Int} (h : x % 65535 = y % 65535) : alikeB x y = true := decide_eq_true h
theorem alike_yes (x y : Int) (hx : 0 ≤ x ∧ x ≤ 65535) (hy : 0 ≤ y ∧ y ≤ 65535) (h : x % 65535 = y % 65535) (w : World) :
    Calls Try.prog 24 #[.int .u16 x, .int .u16 y] w fun e w' => e = .returned (.bool true) ∧ w' = w :=
  (alike_calls x y hx hy w).mono (fun _ _ hr => ⟨by rw [hr.1, alikeB_mod h], hr.2⟩)

/-- Of, called at three parts, the first two of them whole words. -/
theorem of_chk3 (u0 u1 u2 : Value) (x0 x1 x2 : List Int) (w : World) (h0 : BytesAt w.heap.size w u0 x0) (h1 : BytesAt w.heap.size w u1 x1) (h2 : BytesAt w.heap.size w u2 x2) (e0 : x0.length % 2 = 0) (e1 : x1.length % 2 = 0) :
    Calls Try.prog 12 #[.slice (some ⟨w.heap.size, 0, none⟩) 3 3] (w.alloc (.cells #[u0, u1, u2] 32)) fun e w' => e = .returned (.int .u16 (chkW (wordsL x0 ++ (wordsL x1 ++ wordsL x2)))) ∧ Below w.heap.size w w' := by
  refine (of_three u0 u1 u2 x0 x1 x2 w h0 h1 h2).mono (fun e w' hr => ⟨?_, hr.2⟩)
  have : [x0, x1, x2].flatten = x0 ++ (x1 ++ x2) := by simp
  rw [hr.1, this, wordsL_append _ _ e0, wordsL_append _ _ e1, chkW]

set_option maxHeartbeats 2000000 in
theorem sumChanges_walk (a0 : Option Addr) (len0 cap0 : Nat) (z0 : List Int) (a1 : Option Addr) (len1 cap1 : Nat) (z1 : List Int) (a2 : Option Addr) (len2 cap2 : Nat) (z2 : List Int) (a3 : Option Addr) (len3 cap3 : Nat) (z3 : List Int) (w : World) (w0 : IsRowB w a0 len0 cap0 z0) (w1 : IsRowB w a1 len1 cap1 z1) (w2 : IsRowB w a2 len2 cap2 z2) (w3 : IsRowB w a3 len3 cap3 z3) :
    Calls Try.prog 6 #[.slice a0 len0 cap0, .slice a1 len1 cap1, .slice a2 len2 cap2, .slice a3 len3 cap3] w fun e w' => e = .returned (.bool true) ∧ Below w.heap.size w w' := by
  obtain ⟨p1, p2, p3⟩ := w0.bounds
  obtain ⟨q1, q2, q3⟩ := w1.bounds
  obtain ⟨r1, r2, r3⟩ := w2.bounds
  obtain ⟨s1, s2, s3⟩ := w3.bounds
  have hb0 := w0.bytes (min len0 3000) (by omega) (by omega)
  have hb1 := w1.bytes (min len1 3000) (by omega) (by omega)
  have hb2 := w2.bytes (min len2 3000) (by omega) (by omega)
  have hb3 := w3.bytes (min len3 3000) (by omega) (by omega)
  have hn0 : min len0 3000 ≤ 3000 := by omega
  have hn1 : min len1 3000 ≤ 3000 := by omega
  have hn2 : min len2 3000 ≤ 3000 := by omega
  have hn3 : min len3 3000 ≤ 3000 := by omega
  generalize z0.take (min len0 3000) = x0 at *
  generalize z1.take (min len1 3000) = x1 at *
  generalize z2.take (min len2 3000) = x2 at *
  generalize z3.take (min len3 3000) = x3 at *
  go_enter Try.func6, Try.ntmps6
  go_wp2_with fail
  refine (cut_calls a0 len0 cap0 _ p1 p2 p3).mono ?_
  rintro e w' ⟨rfl, rfl⟩
  go_wp2_with fail
  refine (cut_calls a1 len1 cap1 _ q1 q2 q3).mono ?_
  rintro e w'' ⟨rfl, rfl⟩
  go_wp2_with fail
  refine (cut_calls a2 len2 cap2 _ r1 r2 r3).mono ?_
  rintro e w' ⟨rfl, rfl⟩
  go_wp2_with fail
  refine (cut_calls a3 len3 cap3 _ s1 s2 s3).mono ?_
  rintro e w ⟨rfl, rfl⟩
  generalize min len0 3000 = n0 at *
  generalize min len1 3000 = n1 at *
  generalize min len2 3000 = n2 at *
  generalize min len3 3000 = n3 at *
  clear w0 w1 w2 w3 p1 p2 p3 q1 q2 q3 r1 r2 r3 s1 s2 s3 z0 z1 z2 z3
  obtain rfl : n0 = x0.length := by obtain ⟨_, _, e, _⟩ := hb0.val; cases e; rfl
  obtain rfl : n1 = x1.length := by obtain ⟨_, _, e, _⟩ := hb1.val; cases e; rfl
  obtain rfl : n2 = x2.length := by obtain ⟨_, _, e, _⟩ := hb2.val; cases e; rfl
  obtain rfl : n3 = x3.length := by obtain ⟨_, _, e, _⟩ := hb3.val; cases e; rfl
  by_cases hev : x0.length % 2 = 0
  rotate_left
  · have hm : ((x0.length : Int) % 2 != 0) = true := by rw [bne_iff_ne]; omega
    go_wp2_with fail
    refine (alive_calls _).mono ?_
    rintro e W6 ⟨rfl, hB6⟩
    go_wp2
    go_ret
    exact ⟨rfl, hB6⟩
  have hm0 : ((x0.length : Int) % 2 != 0) = false := by rw [bne_eq_false_iff_eq]; omega
  by_cases hlen : x1.length = x2.length
  rotate_left
  · have hm : ((x1.length : Int) != (x2.length : Int)) = true := by rw [bne_iff_ne]; omega
    clear hlen
    go_wp2_with fail
    refine (alive_calls _).mono ?_
    rintro e W6 ⟨rfl, hB6⟩
    go_wp2
    go_ret
    exact ⟨rfl, hB6⟩
  by_cases hev1 : x1.length % 2 = 0
  rotate_left
  · have hm : ((x1.length : Int) % 2 != 0) = true := by rw [bne_iff_ne]; omega
    have hm1 : ((x1.length : Int) != (x2.length : Int)) = false := by rw [bne_eq_false_iff_eq]; omega
    clear hlen
    go_wp2_with fail
    refine (alive_calls _).mono ?_
    rintro e W6 ⟨rfl, hB6⟩
    go_wp2
    go_ret
    exact ⟨rfl, hB6⟩
  have hm2 : ((x1.length : Int) % 2 != 0) = false := by rw [bne_eq_false_iff_eq]; omega
  have hw0 := wordsL_words hb0.fit
  have hw1 := wordsL_words hb1.fit
  have hw2 := wordsL_words hb2.fit
  have hw3 := wordsL_words hb3.fit
  have hev2 : x2.length % 2 = 0 := by omega
  rw [← hlen] at hb2
  rw [← hlen]
  clear hlen
  go_wp2_with fail
  refine (of_chk3 _ _ _ x0 x1 x3 w hb0 hb1 hb3 hev hev1).mono ?_
  rintro e W1 ⟨rfl, hB1⟩
  have hc := chkW_range _ (hw0.append (hw1.append hw3))
  have hc2 := chkW_range _ (hw0.append (hw2.append hw3))
  have hmod := change_mod (wordsL x0) (wordsL x1) (wordsL x2) (wordsL x3)
  have hr1 := sumW_range _ (65535 - chkW (wordsL x0 ++ (wordsL x1 ++ wordsL x3))) (by omega) (turn_words hw1)
  have hr2 := sumW_range _ _ hr1 hw2
  go_wp2_with fail
  refine (update_some _ hc _ _ _ _ _ x1 x2 W1 (hb1.later hB1) (hb2.later hB1) hev1).mono ?_
  rintro e W2 ⟨rfl, hB2⟩
  have hB := hB1.trans (hB2.mono hB1.size)
  have hU : 0 ≤ 65535 - sumW (sumW (65535 - chkW (wordsL x0 ++ (wordsL x1 ++ wordsL x3))) ((wordsL x1).map (fun z => 65535 - z))) (wordsL x2) ∧ 65535 - sumW (sumW (65535 - chkW (wordsL x0 ++ (wordsL x1 ++ wordsL x3))) ((wordsL x1).map (fun z => 65535 - z))) (wordsL x2) ≤ 65535 := by omega
  clear hr1 hr2
  generalize 65535 - sumW (sumW (65535 - chkW (wordsL x0 ++ (wordsL x1 ++ wordsL x3))) ((wordsL x1).map (fun z => 65535 - z))) (wordsL x2) = U at *
  have HM : Hid (U % 65535 = chkW (wordsL x0 ++ (wordsL x2 ++ wordsL x3)) % 65535) := hmod
  clear hmod
  go_wp2_with fail
  refine (of_chk3 _ _ _ x0 x2 x3 W2 (hb0.later hB) (hb2.later hB) (hb3.later hB) hev hev2).mono ?_
  rintro e W3 ⟨rfl, hB3⟩
  go_wp2_with fail
  refine (alike_yes _ _ hU hc2 HM.out _).mono ?_
  rintro e W4 ⟨rfl, rfl⟩
  go_wp2_with fail
  refine (alive_calls _).mono ?_
  rintro e W6 ⟨rfl, hB6⟩
  have hB7 := hB.trans (hB3.mono hB.size)
  go_wp2
  go_ret
  exact ⟨rfl, hB7.trans (hB6.mono hB7.size)⟩

end Go.Proofs.Ythibmoifjgpimaa
