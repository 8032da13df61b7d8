/-
  The sum of what is written is 65535.
-/
import Derived.Test.YtnlaomjhnndblaaSj2
namespace Go.Proofs.Ytnlaomjhnndblaa
open Go Go.RowKit Go.Shelf
set_option linter.unusedVariables false
set_option linter.unusedSimpArgs false

theorem sumW_mem_pos : ∀ (xs : List Int) (s : Int), 0 ≤ s → Words xs → (∃ x ∈ xs, 0 < x) → 0 < sumW s xs
  | [], s, _, _, h => by obtain ⟨x, hx, _⟩ := h; simp at hx
  | y :: ys, s, hs, hw, h => by
    have hy := hw y (by simp)
    have hws : Words ys := fun z hz => hw z (by simp [hz])
    have ha : 0 ≤ addW s y := by unfold addW; split <;> omega
    show 0 < sumW (addW s y) ys
    by_cases h0 : 0 < y
    · refine sumW_pos ys (addW s y) hws ?_
      unfold addW
      split <;> omega
    · obtain ⟨x, hx, hx0⟩ := h
      simp at hx
      rcases hx with rfl | hx
      · omega
      · exact sumW_mem_pos ys _ ha hws ⟨x, hx, hx0⟩
/-- A pseudo header as it must be. -/
structure PhOK (ph : Int → Int → List Int) : Prop where
  fit : ∀ p n : Int, 0 ≤ p ∧ p < 256 → 0 ≤ n ∧ n ≤ 65535 → Fit (ph p n)
  even : ∀ p n, (ph p n).length % 2 = 0
  few : ∀ p n, (ph p n).length ≤ 40
  pos : ∀ p n : Int, 0 < p ∧ p < 256 → 0 ≤ n ∧ n ≤ 65535 → 0 < sumW 0 (wordsL (ph p n))
theorem ph4_ok {A B : List Int} (la : A.length = 4) (lb : B.length = 4) (fa : Fit A) (fb : Fit B) : PhOK (ph4 A B) := by
  refine ⟨fun p n hp hn => ph4_fit fa fb hp hn, fun p n => by simp [ph4, la, lb], fun p n => by simp [ph4, la, lb], fun p n hp hn => ?_⟩
  refine sumW_mem_pos _ 0 (by decide) (wordsL_words (ph4_fit fa fb (by omega) hn)) ⟨p, ?_, hp.1⟩
  unfold ph4
  rw [wordsL_append _ _ (by omega), wordsL_append _ _ (by omega), wordsL_two]
  simp
theorem ph6_ok {A B : List Int} (la : A.length = 16) (lb : B.length = 16) (fa : Fit A) (fb : Fit B) : PhOK (ph6 A B) := by
  refine ⟨fun p n hp hn => ph6_fit fa fb hp hn, fun p n => by simp [ph6, la, lb], fun p n => by simp [ph6, la, lb], fun p n hp hn => ?_⟩
  refine sumW_mem_pos _ 0 (by decide) (wordsL_words (ph6_fit fa fb (by omega) hn)) ⟨p, ?_, hp.1⟩
  unfold ph6
  rw [wordsL_append _ _ (by omega), wordsL_append _ _ (by omega), wordsL_two, wordsL_two, wordsL_two, wordsL_two]
  simp
theorem words_mid (P R : List Int) (x : Int) (hP : P.length % 2 = 0) : wordsL (P ++ (w2 x ++ R)) = wordsL P ++ (x :: wordsL R) := by
  rw [wordsL_append _ _ hP]
  show wordsL P ++ wordsL (x / 256 :: x % 256 :: R) = _
  rw [wordsL_two, word_back]
theorem fill_sum (P R : List Int) (hP : P.length % 2 = 0) (fP : Fit P) (fR : Fit R) (hpos : 0 < sumW 0 (wordsL P)) (ck x : Int) (hk : ck = 65535 - sumW 0 (wordsL (P ++ (w2 0 ++ R)))) (hx : x = ck ∨ (x = 65535 ∧ ck = 0)) : sumW 0 (wordsL (P ++ (w2 x ++ R))) = 65535 := by
  have w0 : Words (wordsL (P ++ (w2 0 ++ R))) := wordsL_words (fP.append ((w2_fit (by decide)).append fR))
  have r0 := sumW_range _ 0 (by decide) w0
  have hx0 : 0 ≤ x ∧ x ≤ 65535 := by omega
  have wx : Words (wordsL (P ++ (w2 x ++ R))) := wordsL_words (fP.append ((w2_fit hx0).append fR))
  have rx := sumW_range _ 0 (by decide) wx
  have m0 := sumW_mod (wordsL (P ++ (w2 0 ++ R))) 0
  have mx := sumW_mod (wordsL (P ++ (w2 x ++ R))) 0
  have px : 0 < sumW 0 (wordsL (P ++ (w2 x ++ R))) := by
    rw [words_mid P R x hP, sumW_append]
    refine sumW_pos _ _ ?_ hpos
    exact Words.cons hx0 (wordsL_words fR)
  rw [words_mid P R 0 hP] at m0
  rw [words_mid P R x hP] at mx
  simp only [List.sum_append, List.sum_cons] at m0 mx
  rw [words_mid P R 0 hP] at r0 hk
  rw [words_mid P R x hP] at rx px ⊢
  generalize sumW 0 (wordsL P ++ 0 :: wordsL R) = a at *
  generalize sumW 0 (wordsL P ++ x :: wordsL R) = b at *
  generalize (wordsL P).sum = u at *
  generalize (wordsL R).sum = v at *
  omega
theorem udpL_length (ph : Int → Int → List Int) (s d : Int) (x : List Int) : (udpL ph s d x).length = 8 + x.length := by unfold udpL; rw [List.length_append, wbL_length]; rfl
theorem tcpL_length (ph : Int → Int → List Int) (t : Seg) : (tcpL ph t).length = tcpAll t := by
  unfold tcpL tcpAll
  rw [List.length_append, wbL_length, List.length_append]
  simp [tcpW]
  omega
theorem udp_sum {ph : Int → Int → List Int} (h : PhOK ph) {s d : Int} {x : List Int} (hs : 0 ≤ s ∧ s ≤ 65535) (hd : 0 ≤ d ∧ d ≤ 65535) (hf : Fit x) (hn : 8 + x.length ≤ 65535) :
    sumW 0 (wordsL (ph 17 (udpL ph s d x).length ++ udpL ph s d x)) = 65535 := by
  have hl : ((udpL ph s d x).length : Int) = 8 + (x.length : Int) := by rw [udpL_length]; omega
  have hl0 : ((wbL [s, d, 8 + (x.length : Int), 0] ++ x).length : Int) = 8 + (x.length : Int) := by simp [wbL, w2]; omega
  rw [hl]
  have e : ∀ k, ph 17 (8 + (x.length : Int)) ++ (wbL [s, d, 8 + (x.length : Int), k] ++ x) = (ph 17 (8 + (x.length : Int)) ++ wbL [s, d, 8 + (x.length : Int)]) ++ (w2 k ++ x) := fun k => by simp [wbL]
  unfold udpL
  rw [e]
  have hfp := h.fit 17 (8 + (x.length : Int)) (by decide) (by omega)
  have hev := h.even 17 (8 + (x.length : Int))
  have hw3 : Words [s, d, 8 + (x.length : Int)] := fun z hz => by simp at hz; rcases hz with rfl | rfl | rfl <;> omega
  refine fill_sum _ _ (by rw [List.length_append, wbL_length]; simp; omega) (hfp.append (wbL_fit hw3)) hf ?_ (ckS ph 17 (wbL [s, d, 8 + (x.length : Int), 0] ++ x)) _ ?_ ?_
  · rw [wordsL_append _ _ hev, sumW_append]
    exact sumW_pos _ _ (wordsL_words (wbL_fit hw3)) (h.pos 17 _ (by decide) (by omega))
  · unfold ckS
    rw [hl0, e]
  · unfold nz
    split
    · exact .inr ⟨rfl, by assumption⟩
    · exact .inl rfl
theorem tcp_sum {ph : Int → Int → List Int} (h : PhOK ph) {w : World} {c : List Value} {t : Seg} (ht : TcpC w c t) (hn : tcpE t = 0) :
    sumW 0 (wordsL (ph 6 (tcpL ph t).length ++ tcpL ph t)) = 65535 := by
  obtain ⟨hb, ha⟩ := tcpE_zero hn
  have hl := tcpL_length ph t
  have hl0 : (wbL (tcpW t 0) ++ (t.opts ++ t.data)).length = tcpAll t := by
    unfold tcpAll
    rw [List.length_append, wbL_length, List.length_append]
    simp [tcpW]
    omega
  rw [hl]
  obtain ⟨vo, vd, _, ho, hd⟩ := ht.val
  have e : ∀ k, ph 6 (tcpAll t) ++ (wbL (tcpW t k) ++ (t.opts ++ t.data)) = (ph 6 (tcpAll t) ++ wbL [t.src, t.dst, t.seq / 65536, t.seq % 65536, t.ack / 65536, t.ack % 65536, (20 + (t.opts.length : Int)) / 4 * 4096 + t.fl, t.win]) ++ (w2 k ++ (w2 t.urg ++ (t.opts ++ t.data))) := fun k => by simp [wbL, tcpW]
  unfold tcpL
  rw [e]
  have hfp := h.fit 6 (tcpAll t) (by decide) (by omega)
  have hev := h.even 6 (tcpAll t)
  have hww := tcpW_words ht hb (ck := 0) (by decide)
  have hw3 : Words [t.src, t.dst, t.seq / 65536, t.seq % 65536, t.ack / 65536, t.ack % 65536, (20 + (t.opts.length : Int)) / 4 * 4096 + t.fl, t.win] := fun z hz => hww z (by simp [tcpW] at hz ⊢; rcases hz with h | h | h | h | h | h | h | h <;> simp [h])
  refine fill_sum _ _ (by rw [List.length_append, wbL_length]; simp; omega) (hfp.append (wbL_fit hw3)) ((w2_fit ht.fu).append (ho.fit.append hd.fit)) ?_ (ckS ph 6 (wbL (tcpW t 0) ++ (t.opts ++ t.data))) _ ?_ (.inl rfl)
  · rw [wordsL_append _ _ hev, sumW_append]
    exact sumW_pos _ _ (wordsL_words (wbL_fit hw3)) (h.pos 6 _ (by decide) (by omega))
  · unfold ckS
    rw [hl0, e]

end Go.Proofs.Ytnlaomjhnndblaa
