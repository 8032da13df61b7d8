/-
  writeTCP of package segment.
-/
import Derived.Test.YtnlaomjhnndblaaSg7
namespace Go.Proofs.Ytnlaomjhnndblaa
open Go Go.RowKit Go.Shelf
set_option linter.unusedVariables false
set_option linter.unusedSimpArgs false

/-- The words of a segment's first 20 bytes, with a checksum. -/
def tcpW (t : Seg) (ck : Int) : List Int := [t.src, t.dst, t.seq / 65536, t.seq % 65536, t.ack / 65536, t.ack % 65536, (20 + (t.opts.length : Int)) / 4 * 4096 + t.fl, t.win, ck, t.urg]
def tcpBad (t : Seg) : Bool := decide (63 < t.fl) || decide (40 < t.opts.length) || decide (t.opts.length % 4 ≠ 0)
def tcpAll (t : Seg) : Nat := 20 + t.opts.length + t.data.length
def tcpL (ph : Int → Int → List Int) (t : Seg) : List Int :=
  wbL (tcpW t (ckS ph 6 (wbL (tcpW t 0) ++ (t.opts ++ t.data)))) ++ (t.opts ++ t.data)
theorem or_flags (L f : Int) (hL : 0 ≤ L ∧ L ≤ 15) (hf : 0 ≤ f ∧ f ≤ 63) : bits .or .u16 (L * 4096) f = L * 4096 + f := by
  obtain ⟨l, rfl⟩ := Int.eq_ofNat_of_zero_le hL.1
  obtain ⟨g, rfl⟩ := Int.eq_ofNat_of_zero_le hf.1
  rw [show ((l : Int) * 4096) = ((l * 4096 : Nat) : Int) by omega, u16_or_nat (l * 4096) g (by omega) (by omega), Nat.or_comm, show l * 4096 = 2 ^ 12 * l by omega, or_hi g l 12 (by omega)]
  omega
theorem tcpW_words {w : World} {c : List Value} {t : Seg} (h : TcpC w c t) (hb : tcpBad t = false) {ck : Int} (hk : 0 ≤ ck ∧ ck ≤ 65535) : Words (tcpW t ck) := by
  simp [tcpBad] at hb
  obtain ⟨_, fs, fd, fq, fa, ff, fw, fu⟩ := h
  intro z hz
  simp [tcpW] at hz
  rcases hz with rfl | rfl | rfl | rfl | rfl | rfl | rfl | rfl | rfl | rfl <;> omega
theorem laid_tcp (t : Seg) (ck x : Int) : laid (wbL (tcpW t ck)) 16 (w2 x) = wbL (tcpW t x) := by simp [laid, wbL, w2, tcpW]

set_option maxHeartbeats 2000000 in
set_option maxRecDepth 100000 in
theorem writeTCP_bad (o : Value) (ph : Int → Int → List Int) (c : List Value) (t : Seg) (w : World) (ho : OverV w o ph) (ht : TcpC w c t) (hb : tcpBad t = true) :
    Calls Try.prog 46 #[o, .agg c.toArray] w fun e w' => e = .returned (.tuple #[.slice none 0 0, .int .i64 63]) ∧ Below w.heap.size w w' := by
  obtain ⟨⟨vo, vd, rfl, hvo, hvd⟩, _, _, _, _, ff, _⟩ := ht
  obtain ⟨g0, lb, rfl⟩ := ho.own
  obtain ⟨src, dst, seq, ack, fl, win, urg, opts, data⟩ := t
  simp only at hvo hvd hb ff ⊢
  have hB0 := (Below.refl w.heap.size w).alloc (Nat.le_refl _) (.cells [.int .u16 src, .int .u16 dst, .int .u32 seq, .int .u32 ack, .int .u8 fl, .int .u16 win, .int .u16 urg, vo, vd].toArray 34)
  have hlo := hvo.len
  obtain ⟨ao, co, rfl, _⟩ := hvo.val
  obtain ⟨ad, cd, rfl, _⟩ := hvd.val
  simp only [tcpBad] at hb
  have e1 : decide ((40 : Int) < (opts.length : Int)) = decide (40 < opts.length) := by rw [decide_eq_decide]; omega
  have e2 : ((opts.length : Int) % 4 != 0) = decide (opts.length % 4 ≠ 0) := by
    by_cases h : opts.length % 4 = 0
    · have : (opts.length : Int) % 4 = 0 := by omega
      simp [h, this]
    · have : (opts.length : Int) % 4 ≠ 0 := by omega
      simp [h, this]
  generalize hx1 : decide (63 < fl) = x1 at *
  generalize hx2 : decide (40 < opts.length) = x2 at *
  generalize hx3 : decide (opts.length % 4 ≠ 0) = x3 at *
  have HX1 : Hid _ := hx1
  have HX2 : Hid _ := hx2
  have HX3 : Hid _ := hx3
  have HB0 : Hid _ := hB0
  clear hx2 hx3 hB0 hvo hvd ho
  go_enter Try.func46, Try.ntmps46
  cases x1
  · cases x2
    · cases x3
      · simp at hb
      · go_wp2
        go_ret2
        exact ⟨rfl, HB0.out⟩
    · go_wp2
      go_ret2
      exact ⟨rfl, HB0.out⟩
  · go_wp2
    go_ret2
    exact ⟨rfl, HB0.out⟩

end Go.Proofs.Ytnlaomjhnndblaa
