/-
  The document's CheckTCP and WriteTCP.
  What both sides write is the same.
  A box of ends.
-/
import Derived.Test.YtpgnnplpcalbbaaGreatFold20
import Derived.Test.YtpgnnplpcalbbaaGreatFold28
import Derived.Test.YtpgnnplpcalbbaaGreatFold27
set_option linter.unusedVariables false
set_option linter.unusedSimpArgs false
namespace Go.Proofs.YtpgnnplpcalbbaaGreat
open Go Go.RowKit Go.Shelf
theorem ex_load32 {o : Oper} {a : Act} {W : World} (k : Nat) {p : Addr} {x : Int} (hop : o.op = Op.load 33 (.tmp k)) (hk : a.eval (.tmp k) = .pointer (some p)) (hc : W.cell? p = some (.int .u32 x)) :
    (execOp a.eval o).run Tryz.prog W = .ok (.value (.int .u32 x)) W := by
  generalize a.eval = ev at *
  simp [execOp, hop, hk, hc, go_sem]
def rtcpH (t : Seg) : List Int := w2 t.src ++ w2 t.dst ++ putB t.seq 4 ++ putB t.ack 4 ++ [(20 + (t.opts.length : Int)) * 4, t.fl] ++ w2 t.win
def rtcpT (t : Seg) : List Int := w2 t.urg ++ t.opts ++ t.data
def rtcpS (ph : Int → Int → List Int) (t : Seg) : Int := 65535 - sumW 0 (wordsL (ph 6 (20 + (t.opts.length : Int) + (t.data.length : Int)) ++ (rtcpH t ++ ([0, 0] ++ rtcpT t))))
def rtcpL (ph : Int → Int → List Int) (t : Seg) : List Int := rtcpH t ++ w2 (rtcpS ph t) ++ rtcpT t
theorem tcpE_zero {t : Seg} (h : tcpE t = 0) : tcpBad t = false ∧ tcpAll t ≤ 65535 := by
  unfold tcpE at h
  cases hb : tcpBad t with
  | true => rw [hb] at h; simp at h
  | false =>
    rw [hb] at h
    simp at h
    exact ⟨rfl, by omega⟩
end Go.Proofs.YtpgnnplpcalbbaaGreat
namespace Go.Proofs.YtpgnnplpcalbbaaGreat
open Go Go.RowKit Go.Shelf
theorem wordsL_zero2 (xs ys : List Int) (h : xs.length % 2 = 0) : True := trivial
theorem udp_same (ph : Int → Int → List Int) (src dst : Int) (data : List Int) : rudpL ph src dst data = udpL ph src dst data := by
  have e : wbL [src, dst, 8 + (data.length : Int), 0] ++ data = w2 src ++ w2 dst ++ w2 (8 + (data.length : Int)) ++ ([0, 0] ++ data) := by simp [wbL, w2]
  have el : ((wbL [src, dst, 8 + (data.length : Int), 0] ++ data).length : Int) = 8 + (data.length : Int) := by simp [wbL, w2]; omega
  unfold rudpL udpL ckS
  rw [el, e]
  simp [wbL]
theorem w2_flags (n : Nat) (f : Int) (hn : n ≤ 40) (h4 : n % 4 = 0) (hf : 0 ≤ f ∧ f ≤ 63) : w2 ((20 + (n : Int)) / 4 * 4096 + f) = [(20 + (n : Int)) * 4, f] := by
  simp [w2]
  omega
theorem putB_four {x : Int} (h : 0 ≤ x ∧ x ≤ 4294967295) : putB x 4 = w2 (x / 65536) ++ w2 (x % 65536) := by
  simp [putB, w2]
  omega
theorem tcp_same (ph : Int → Int → List Int) (t : Seg) (hb : tcpBad t = false) (hf : 0 ≤ t.fl) (hs : 0 ≤ t.seq ∧ t.seq ≤ 4294967295) (ha : 0 ≤ t.ack ∧ t.ack ≤ 4294967295) : rtcpL ph t = tcpL ph t := by
  simp [tcpBad] at hb
  have ew := w2_flags t.opts.length t.fl (by omega) (by omega) (by omega)
  have e : wbL (tcpW t 0) ++ (t.opts ++ t.data) = rtcpH t ++ ([0, 0] ++ rtcpT t) := by
    simp only [wbL, tcpW, rtcpH, rtcpT, ew, putB_four hs, putB_four ha]
    simp [w2]
  have el : ((wbL (tcpW t 0) ++ (t.opts ++ t.data)).length : Int) = 20 + (t.opts.length : Int) + (t.data.length : Int) := by
    rw [List.length_append, wbL_length, List.length_append]
    simp [tcpW]
    omega
  unfold rtcpL tcpL ckS rtcpS
  rw [el, e]
  generalize 65535 - sumW 0 _ = k
  simp only [wbL, tcpW, rtcpH, rtcpT, ew, putB_four hs, putB_four ha]
  simp
theorem RWriteUDP_any (sv dv : Value) (N : Nat) (ph : Int → Int → List Int) (c : List Value) (src dst : Int) (data : List Int) (w : World) (he : EndV w sv dv N ph) (hph : ∀ p n : Int, 0 ≤ p ∧ p < 256 → 0 ≤ n ∧ n ≤ 65535 → Fit (ph p n)) (hu : UdpC w c src dst data) :
    Calls Tryz.prog 103 #[sv, dv, .agg c.toArray] w (Wrote2 w (udpB ph src dst data) (udpE data)) := by
  unfold udpB udpE
  by_cases hn : 8 + data.length ≤ 65535
  · rw [if_pos hn, if_pos hn, ← udp_same]
    exact RWriteUDP_ok sv dv N ph c src dst data w he hph hu hn
  · rw [if_neg hn, if_neg hn]
    exact (RWriteUDP_long sv dv N ph c src dst data w he hu (by omega)).mono (fun e w' h => ⟨_, h.1, OB.none w w' h.2⟩)
theorem udpL_fit {ph : Int → Int → List Int} {src dst : Int} {data : List Int} (hs : 0 ≤ src ∧ src ≤ 65535) (hd : 0 ≤ dst ∧ dst ≤ 65535) (hf : Fit data) (hn : 8 + data.length ≤ 65535) (hph : ∀ p n : Int, 0 ≤ p ∧ p < 256 → 0 ≤ n ∧ n ≤ 65535 → Fit (ph p n)) : Fit (udpL ph src dst data) := by
  have hl : ((wbL [src, dst, 8 + (data.length : Int), 0] ++ data).length : Int) = 8 + (data.length : Int) := by simp [wbL, w2]; omega
  have hk := ckS_range (ph := ph) (p := 17) (zs := wbL [src, dst, 8 + (data.length : Int), 0] ++ data) (hph 17 _ (by decide) (by rw [hl]; omega)) ((wbL_fit (words4 hs hd (by omega) (by omega))).append hf)
  exact (wbL_fit (words4 hs hd (by omega) (nz_range hk))).append hf
theorem udpB_fit {ph : Int → Int → List Int} {src dst : Int} {data : List Int} (hs : 0 ≤ src ∧ src ≤ 65535) (hd : 0 ≤ dst ∧ dst ≤ 65535) (hf : Fit data) (hph : ∀ p n : Int, 0 ≤ p ∧ p < 256 → 0 ≤ n ∧ n ≤ 65535 → Fit (ph p n)) : Fit (udpB ph src dst data) ∧ (udpB ph src dst data).length ≤ 65535 := by
  unfold udpB
  by_cases hn : 8 + data.length ≤ 65535
  · rw [if_pos hn]
    exact ⟨udpL_fit hs hd hf hn hph, by unfold udpL; simp [wbL, w2]; omega⟩
  · rw [if_neg hn]
    exact ⟨fun z hz => by simp at hz, by simp⟩
theorem tcpL_fit {ph : Int → Int → List Int} {w : World} {c : List Value} {t : Seg} (h : TcpC w c t) (hn : tcpE t = 0) (hph : ∀ p n : Int, 0 ≤ p ∧ p < 256 → 0 ≤ n ∧ n ≤ 65535 → Fit (ph p n)) : Fit (tcpL ph t) := by
  obtain ⟨hb, ha⟩ := tcpE_zero hn
  obtain ⟨vo, vd, _, ho, hd⟩ := h.val
  have hl : ((wbL (tcpW t 0) ++ (t.opts ++ t.data)).length : Int) = 20 + (t.opts.length : Int) + (t.data.length : Int) := by
    rw [List.length_append, wbL_length, List.length_append]
    simp [tcpW]
    omega
  unfold tcpAll at ha
  have hk := ckS_range (ph := ph) (p := 6) (zs := wbL (tcpW t 0) ++ (t.opts ++ t.data)) (hph 6 _ (by decide) (by rw [hl]; omega)) ((wbL_fit (tcpW_words h hb (by decide))).append (ho.fit.append hd.fit))
  exact (wbL_fit (tcpW_words h hb hk)).append (ho.fit.append hd.fit)
theorem tcpB_fit {ph : Int → Int → List Int} {w : World} {c : List Value} {t : Seg} (h : TcpC w c t) (hph : ∀ p n : Int, 0 ≤ p ∧ p < 256 → 0 ≤ n ∧ n ≤ 65535 → Fit (ph p n)) : Fit (tcpB ph t) ∧ (tcpB ph t).length ≤ 65535 := by
  unfold tcpB
  by_cases hn : tcpE t = 0
  · rw [if_pos hn]
    refine ⟨tcpL_fit h hn hph, ?_⟩
    have := (tcpE_zero hn).2
    unfold tcpAll at this
    unfold tcpL
    rw [List.length_append, wbL_length, List.length_append]
    simp [tcpW]
    omega
  · rw [if_neg hn]
    exact ⟨fun z hz => by simp at hz, by simp⟩
end Go.Proofs.YtpgnnplpcalbbaaGreat
namespace Go.Proofs.YtpgnnplpcalbbaaGreat
open Go Go.RowKit Go.Shelf
def endsC (A B C D : List Int) : List Value := u8L A ++ (u8L B ++ (u8L C ++ u8L D))
section
variable {w W : World} {b : Nat} {A B C D : List Int}
theorem u8L_length (zs : List Int) : (u8L zs).length = zs.length := by simp [u8L]
theorem cells_bytes {w : World} {b o n cap : Nat} {zs : List Int} (h : CellsAt w b o (u8L zs)) (hb : b < w.heap.size) (hf : Fit zs) (hl : zs.length ≤ 1000) (hn : n = zs.length) : BytesAt w.heap.size w (.slice (some ⟨b, o, none⟩) n cap) zs := by
  refine ⟨hf, by omega, _, _, by rw [hn], .inr ⟨b, o, rfl, hb, fun j hj => ?_⟩⟩
  exact h j _ (by simp [u8L, hj])
end
theorem ex_slice4 {o : Oper} {a : Act} {W : World} (k : Nat) {b n : Nat} (hop : o.op = Op.slice 24 (.tmp k) none none none) (hk : a.eval (.tmp k) = .pointer (some ⟨b, n, none⟩)) :
    (execOp a.eval o).run Tryz.prog W = .ok (.value (.slice (some ⟨b, n, none⟩) 4 4)) W := by
  generalize a.eval = ev at *
  simp [execOp, hop, hk, go_sem]
theorem ex_slice6 {o : Oper} {a : Act} {W : World} (k : Nat) {b n : Nat} (hop : o.op = Op.slice 29 (.tmp k) none none none) (hk : a.eval (.tmp k) = .pointer (some ⟨b, n, none⟩)) :
    (execOp a.eval o).run Tryz.prog W = .ok (.value (.slice (some ⟨b, n, none⟩) 16 16)) W := by
  generalize a.eval = ev at *
  simp [execOp, hop, hk, go_sem]
theorem Wrote2.bytes {w w' : World} {zs : List Int} {er : Int} {e : Ending} (h : Wrote2 w zs er e w') (hf : Fit zs) (hl : zs.length ≤ 65535) : ∃ v, e = .returned (.tuple #[v, .int .i64 er]) ∧ BytesAt w'.heap.size w' v zs ∧ Below w.heap.size w w' := by
  obtain ⟨v, he, ho⟩ := h
  exact ⟨v, he, own_bytes ho.own hf (by omega), ho.bel⟩
end Go.Proofs.YtpgnnplpcalbbaaGreat
