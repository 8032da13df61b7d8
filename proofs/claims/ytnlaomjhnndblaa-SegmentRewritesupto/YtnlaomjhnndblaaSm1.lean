/-
  What is written is read: the fields of what WriteUDP and WriteTCP tell.
-/
import Derived.Test.YtnlaomjhnndblaaSj4
import Derived.Test.YtnlaomjhnndblaaSk7
import Derived.Test.YtnlaomjhnndblaaSl4
namespace Go.Proofs.Ytnlaomjhnndblaa
open Go Go.RowKit Go.Shelf
set_option linter.unusedVariables false
set_option linter.unusedSimpArgs false

theorem wd2_wb : ∀ (ws xs : List Int) (k : Nat), k < ws.length → wd2 (wbL ws ++ xs) (2 * k) = ws[k]?.getD 0
  | [], xs, k, h => by simp at h
  | y :: ys, xs, 0, h => by
    show gz (y / 256 :: y % 256 :: (wbL ys ++ xs)) 0 * 256 + gz (y / 256 :: y % 256 :: (wbL ys ++ xs)) 1 = _
    simp [gz]
    omega
  | y :: ys, xs, k + 1, h => by
    have h1 := wd2_wb ys xs k (by simpa using h)
    have e : wd2 (wbL (y :: ys) ++ xs) (2 * (k + 1)) = wd2 (wbL ys ++ xs) (2 * k) := by
      have := wd2_drop (wbL (y :: ys) ++ xs) 2 (2 * k)
      rw [show 2 * (k + 1) = 2 + 2 * k by omega, ← this]
      rfl
    rw [e, h1]
    simp
theorem udpL_fields {ph : Int → Int → List Int} {s d : Int} {x : List Int} : wd2 (udpL ph s d x) 0 = s ∧ wd2 (udpL ph s d x) 2 = d ∧ wd2 (udpL ph s d x) 4 = 8 + (x.length : Int) ∧ (udpL ph s d x).drop 8 = x ∧ wd2 (udpL ph s d x) 6 ≠ 0 := by
  unfold udpL
  generalize hk : ckS ph 17 (wbL [s, d, 8 + (x.length : Int), 0] ++ x) = k
  refine ⟨wd2_wb _ _ 0 (by simp), wd2_wb _ _ 1 (by simp), wd2_wb _ _ 2 (by simp), rfl, ?_⟩
  rw [show (6 : Nat) = 2 * 3 from rfl, wd2_wb _ _ 3 (by simp)]
  show nz k ≠ 0
  unfold nz
  split
  · decide
  · assumption
theorem udp_back {ph : Int → Int → List Int} (N : Nat) (h : PhOK ph) {s d : Int} {x : List Int} (hs : 0 ≤ s ∧ s ≤ 65535) (hd : 0 ≤ d ∧ d ≤ 65535) (hf : Fit x) (hn : 8 + x.length ≤ 65535) :
    uE N ph (udpL ph s d x) = 0 ∧ uS N ph (udpL ph s d x) = s ∧ uD N ph (udpL ph s d x) = d ∧ uX N ph (udpL ph s d x) = x ∧ uB N ph (udpL ph s d x) = false := by
  obtain ⟨h0, h2, h4, h8, h6⟩ := udpL_fields (ph := ph) (s := s) (d := d) (x := x)
  have hl := udpL_length ph s d x
  have hsum := udp_sum h hs hd hf hn
  have hE : uE N ph (udpL ph s d x) = 0 := by
    rw [uE_more (by omega) (by rw [h4, hl]; omega), if_neg]
    rintro (⟨k, _⟩ | ⟨_, k⟩)
    · exact h6 k
    · exact k hsum
  refine ⟨hE, ?_, ?_, ?_, ?_⟩
  · unfold uS; rw [if_pos hE, h0]
  · unfold uD; rw [if_pos hE, h2]
  · unfold uX; rw [if_pos hE, h8]
  · unfold uB; rw [if_pos hE]; simp [h6]
theorem gz_of_wd2 {zs : List Int} (hf : Fit zs) (k : Nat) (v : Int) (h : wd2 zs k = v) : gz zs k = v / 256 ∧ gz zs (k + 1) = v % 256 := by
  have h1 := hf.gz k
  have h2 := hf.gz (k + 1)
  unfold wd2 at h
  omega
theorem tcp_back {ph : Int → Int → List Int} (h : PhOK ph) {w : World} {c : List Value} {t : Seg} (ht : TcpC w c t) (hn : tcpE t = 0) (hfl : Fit (tcpL ph t)) :
    tE ph (tcpL ph t) = 0 ∧ tT ph (tcpL ph t) = t := by
  obtain ⟨hb, ha⟩ := tcpE_zero hn
  have hsum := tcp_sum h ht hn
  have hl := tcpL_length ph t
  have hA : tcpAll t = 20 + t.opts.length + t.data.length := rfl
  have hb' : t.fl ≤ 63 ∧ t.opts.length ≤ 40 ∧ t.opts.length % 4 = 0 := by
    unfold tcpBad at hb
    simp at hb
    omega
  have ff := ht.ff
  have fd := fun k (hk : k < 10) => wd2_wb (tcpW t (ckS ph 6 (wbL (tcpW t 0) ++ (t.opts ++ t.data)))) (t.opts ++ t.data) k (by simpa [tcpW] using hk)
  have q0 : wd2 (tcpL ph t) 0 = t.src := fd 0 (by decide)
  have q1 : wd2 (tcpL ph t) 2 = t.dst := fd 1 (by decide)
  have q2 : wd2 (tcpL ph t) 4 = t.seq / 65536 := fd 2 (by decide)
  have q3 : wd2 (tcpL ph t) 6 = t.seq % 65536 := fd 3 (by decide)
  have q4 : wd2 (tcpL ph t) 8 = t.ack / 65536 := fd 4 (by decide)
  have q5 : wd2 (tcpL ph t) 10 = t.ack % 65536 := fd 5 (by decide)
  have q6 : wd2 (tcpL ph t) 12 = (20 + (t.opts.length : Int)) / 4 * 4096 + t.fl := fd 6 (by decide)
  have q7 : wd2 (tcpL ph t) 14 = t.win := fd 7 (by decide)
  have q9 : wd2 (tcpL ph t) 18 = t.urg := fd 9 (by decide)
  obtain ⟨g0, g1⟩ := gz_of_wd2 hfl 12 _ q6
  have hH : hdL (tcpL ph t) = 20 + (t.opts.length : Int) := by
    unfold hdL
    rw [g0]
    omega
  have hF : flg (tcpL ph t) = t.fl := by
    unfold flg
    rw [g1]
    omega
  have hE : tE ph (tcpL ph t) = 0 := by
    rw [tE_more (by omega) (by rw [hH, hl]; omega), if_neg (by omega), if_pos hsum]
  refine ⟨hE, ?_⟩
  have hd : (tcpL ph t).drop 20 = t.opts ++ t.data := by
    unfold tcpL
    exact List.drop_left' (by rw [wbL_length]; rfl)
  have hk : (hdL (tcpL ph t) - 20).toNat = t.opts.length := by omega
  unfold tT lg
  rw [if_pos hE, hd, hk, List.take_left, List.drop_left, q0, q1, q2, q3, q4, q5, hF, q7, q9]
  have e1 : t.seq / 65536 * 65536 + t.seq % 65536 = t.seq := by omega
  have e2 : t.ack / 65536 * 65536 + t.ack % 65536 = t.ack := by omega
  rw [e1, e2]

end Go.Proofs.Ytnlaomjhnndblaa
