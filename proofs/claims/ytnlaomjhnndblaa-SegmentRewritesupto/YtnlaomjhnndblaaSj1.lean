/-
  What both sides write is the same.
-/
import Derived.Test.YtnlaomjhnndblaaSi7
import Derived.Test.YtnlaomjhnndblaaSg9
namespace Go.Proofs.Ytnlaomjhnndblaa
open Go Go.RowKit Go.Shelf
set_option linter.unusedVariables false
set_option linter.unusedSimpArgs false

theorem wordsL_zero2 (xs ys : List Int) (h : xs.length % 2 = 0) : True := trivial
theorem udp_same (ph : Int → Int → List Int) (src dst : Int) (data : List Int) : rudpL ph src dst data = udpL ph src dst data := by
  have e : wbL [src, dst, 8 + (data.length : Int), 0] ++ data = w2 src ++ w2 dst ++ w2 (8 + (data.length : Int)) ++ ([0, 0] ++ data) := by simp [wbL, w2]
  have el : ((wbL [src, dst, 8 + (data.length : Int), 0] ++ data).length : Int) = 8 + (data.length : Int) := by simp [wbL, w2]; omega
  unfold rudpL udpL ckS
  rw [el, e]
  simp [wbL]
theorem w2_flags (n : Nat) (f : Int) (hn : n ≤ 40) (h4 : n % 4 = 0) (hf : 0 ≤ f ∧ f ≤ 63) : w2 ((20 + (n : Int)) / 4 * 4096 + f) = [(20 + (n : Int)) * 4, f] := by
  simp [w2]
  omega
theorem putB_four {x : Int} (h : 0 ≤ x ∧ x ≤ 4294967295) : putB x 4 = w2 (x / 65536) ++ w2 (x % 65536) := by
  simp [putB, w2]
  omega
theorem tcp_same (ph : Int → Int → List Int) (t : Seg) (hb : tcpBad t = false) (hf : 0 ≤ t.fl) (hs : 0 ≤ t.seq ∧ t.seq ≤ 4294967295) (ha : 0 ≤ t.ack ∧ t.ack ≤ 4294967295) : rtcpL ph t = tcpL ph t := by
  simp [tcpBad] at hb
  have ew := w2_flags t.opts.length t.fl (by omega) (by omega) (by omega)
  have e : wbL (tcpW t 0) ++ (t.opts ++ t.data) = rtcpH t ++ ([0, 0] ++ rtcpT t) := by
    simp only [wbL, tcpW, rtcpH, rtcpT, ew, putB_four hs, putB_four ha]
    simp [w2]
  have el : ((wbL (tcpW t 0) ++ (t.opts ++ t.data)).length : Int) = 20 + (t.opts.length : Int) + (t.data.length : Int) := by
    rw [List.length_append, wbL_length, List.length_append]
    simp [tcpW]
    omega
  unfold rtcpL tcpL ckS rtcpS
  rw [el, e]
  generalize 65535 - sumW 0 _ = k
  simp only [wbL, tcpW, rtcpH, rtcpT, ew, putB_four hs, putB_four ha]
  simp
theorem RWriteUDP_any (sv dv : Value) (N : Nat) (ph : Int → Int → List Int) (c : List Value) (src dst : Int) (data : List Int) (w : World) (he : EndV w sv dv N ph) (hph : ∀ p n : Int, 0 ≤ p ∧ p < 256 → 0 ≤ n ∧ n ≤ 65535 → Fit (ph p n)) (hu : UdpC w c src dst data) :
    Calls Try.prog 14 #[sv, dv, .agg c.toArray] w (Wrote2 w (udpB ph src dst data) (udpE data)) := by
  unfold udpB udpE
  by_cases hn : 8 + data.length ≤ 65535
  · rw [if_pos hn, if_pos hn, ← udp_same]
    exact RWriteUDP_ok sv dv N ph c src dst data w he hph hu hn
  · rw [if_neg hn, if_neg hn]
    exact (RWriteUDP_long sv dv N ph c src dst data w he hu (by omega)).mono (fun e w' h => ⟨_, h.1, OB.none w w' h.2⟩)
theorem RWriteTCP_any (sv dv : Value) (N : Nat) (ph : Int → Int → List Int) (c : List Value) (t : Seg) (w : World) (he : EndV w sv dv N ph) (hph : ∀ p n : Int, 0 ≤ p ∧ p < 256 → 0 ≤ n ∧ n ≤ 65535 → Fit (ph p n)) (ht : TcpC w c t) :
    Calls Try.prog 17 #[sv, dv, .agg c.toArray] w (Wrote2 w (tcpB ph t) (tcpE t)) := by
  unfold tcpB
  by_cases hn : tcpE t = 0
  · rw [if_pos hn, ← tcp_same ph t (tcpE_zero hn).1 ht.ff.1 ht.fq ht.fa, hn]
    exact RWriteTCP_ok sv dv N ph c t w he hph ht hn
  · rw [if_neg hn]
    exact (RWriteTCP_no sv dv N ph c t w he ht hn).mono (fun e w' h => ⟨_, h.1, OB.none w w' h.2⟩)
theorem udpL_fit {ph : Int → Int → List Int} {src dst : Int} {data : List Int} (hs : 0 ≤ src ∧ src ≤ 65535) (hd : 0 ≤ dst ∧ dst ≤ 65535) (hf : Fit data) (hn : 8 + data.length ≤ 65535) (hph : ∀ p n : Int, 0 ≤ p ∧ p < 256 → 0 ≤ n ∧ n ≤ 65535 → Fit (ph p n)) : Fit (udpL ph src dst data) := by
  have hl : ((wbL [src, dst, 8 + (data.length : Int), 0] ++ data).length : Int) = 8 + (data.length : Int) := by simp [wbL, w2]; omega
  have hk := ckS_range (ph := ph) (p := 17) (zs := wbL [src, dst, 8 + (data.length : Int), 0] ++ data) (hph 17 _ (by decide) (by rw [hl]; omega)) ((wbL_fit (words4 hs hd (by omega) (by omega))).append hf)
  exact (wbL_fit (words4 hs hd (by omega) (nz_range hk))).append hf
theorem udpB_fit {ph : Int → Int → List Int} {src dst : Int} {data : List Int} (hs : 0 ≤ src ∧ src ≤ 65535) (hd : 0 ≤ dst ∧ dst ≤ 65535) (hf : Fit data) (hph : ∀ p n : Int, 0 ≤ p ∧ p < 256 → 0 ≤ n ∧ n ≤ 65535 → Fit (ph p n)) : Fit (udpB ph src dst data) ∧ (udpB ph src dst data).length ≤ 65535 := by
  unfold udpB
  by_cases hn : 8 + data.length ≤ 65535
  · rw [if_pos hn]
    exact ⟨udpL_fit hs hd hf hn hph, by unfold udpL; simp [wbL, w2]; omega⟩
  · rw [if_neg hn]
    exact ⟨fun z hz => by simp at hz, by simp⟩
theorem tcpL_fit {ph : Int → Int → List Int} {w : World} {c : List Value} {t : Seg} (h : TcpC w c t) (hn : tcpE t = 0) (hph : ∀ p n : Int, 0 ≤ p ∧ p < 256 → 0 ≤ n ∧ n ≤ 65535 → Fit (ph p n)) : Fit (tcpL ph t) := by
  obtain ⟨hb, ha⟩ := tcpE_zero hn
  obtain ⟨vo, vd, _, ho, hd⟩ := h.val
  have hl : ((wbL (tcpW t 0) ++ (t.opts ++ t.data)).length : Int) = 20 + (t.opts.length : Int) + (t.data.length : Int) := by
    rw [List.length_append, wbL_length, List.length_append]
    simp [tcpW]
    omega
  unfold tcpAll at ha
  have hk := ckS_range (ph := ph) (p := 6) (zs := wbL (tcpW t 0) ++ (t.opts ++ t.data)) (hph 6 _ (by decide) (by rw [hl]; omega)) ((wbL_fit (tcpW_words h hb (by decide))).append (ho.fit.append hd.fit))
  exact (wbL_fit (tcpW_words h hb hk)).append (ho.fit.append hd.fit)
theorem tcpB_fit {ph : Int → Int → List Int} {w : World} {c : List Value} {t : Seg} (h : TcpC w c t) (hph : ∀ p n : Int, 0 ≤ p ∧ p < 256 → 0 ≤ n ∧ n ≤ 65535 → Fit (ph p n)) : Fit (tcpB ph t) ∧ (tcpB ph t).length ≤ 65535 := by
  unfold tcpB
  by_cases hn : tcpE t = 0
  · rw [if_pos hn]
    refine ⟨tcpL_fit h hn hph, ?_⟩
    have := (tcpE_zero hn).2
    unfold tcpAll at this
    unfold tcpL
    rw [List.length_append, wbL_length, List.length_append]
    simp [tcpW]
    omega
  · rw [if_neg hn]
    exact ⟨fun z hz => by simp at hz, by simp⟩

end Go.Proofs.Ytnlaomjhnndblaa
