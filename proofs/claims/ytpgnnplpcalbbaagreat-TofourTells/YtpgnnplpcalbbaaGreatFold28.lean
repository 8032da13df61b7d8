/-
  writeTCP of package segment.
  writeTCP of package segment: the segment's bytes, and too many of them.
  WriteTCP4, WriteTCP6 of package segment.
-/
import Derived.Test.YtpgnnplpcalbbaaGreatFold27
set_option linter.unusedVariables false
set_option linter.unusedSimpArgs false
namespace Go.Proofs.YtpgnnplpcalbbaaGreat
open Go Go.RowKit Go.Shelf
/-- The words of a segment's first 20 bytes, with a checksum. -/
def tcpW (t : Seg) (ck : Int) : List Int := [t.src, t.dst, t.seq / 65536, t.seq % 65536, t.ack / 65536, t.ack % 65536, (20 + (t.opts.length : Int)) / 4 * 4096 + t.fl, t.win, ck, t.urg]
def tcpBad (t : Seg) : Bool := decide (63 < t.fl) || decide (40 < t.opts.length) || decide (t.opts.length % 4 ≠ 0)
def tcpAll (t : Seg) : Nat := 20 + t.opts.length + t.data.length
def tcpL (ph : Int → Int → List Int) (t : Seg) : List Int :=
  wbL (tcpW t (ckS ph 6 (wbL (tcpW t 0) ++ (t.opts ++ t.data)))) ++ (t.opts ++ t.data)
theorem or_flags (L f : Int) (hL : 0 ≤ L ∧ L ≤ 15) (hf : 0 ≤ f ∧ f ≤ 63) : bits .or .u16 (L * 4096) f = L * 4096 + f := by
  obtain ⟨l, rfl⟩ := Int.eq_ofNat_of_zero_le hL.1
  obtain ⟨g, rfl⟩ := Int.eq_ofNat_of_zero_le hf.1
  rw [show ((l : Int) * 4096) = ((l * 4096 : Nat) : Int) by omega, u16_or_nat (l * 4096) g (by omega) (by omega), Nat.or_comm, show l * 4096 = 2 ^ 12 * l by omega, or_hi g l 12 (by omega)]
  omega
theorem tcpW_words {w : World} {c : List Value} {t : Seg} (h : TcpC w c t) (hb : tcpBad t = false) {ck : Int} (hk : 0 ≤ ck ∧ ck ≤ 65535) : Words (tcpW t ck) := by
  simp [tcpBad] at hb
  obtain ⟨_, fs, fd, fq, fa, ff, fw, fu⟩ := h
  intro z hz
  simp [tcpW] at hz
  rcases hz with rfl | rfl | rfl | rfl | rfl | rfl | rfl | rfl | rfl | rfl <;> omega
theorem laid_tcp (t : Seg) (ck x : Int) : laid (wbL (tcpW t ck)) 16 (w2 x) = wbL (tcpW t x) := by simp [laid, wbL, w2, tcpW]
end Go.Proofs.YtpgnnplpcalbbaaGreat
namespace Go.Proofs.YtpgnnplpcalbbaaGreat
open Go Go.RowKit Go.Shelf
end Go.Proofs.YtpgnnplpcalbbaaGreat
namespace Go.Proofs.YtpgnnplpcalbbaaGreat
open Go Go.RowKit Go.Shelf
def tcpE (t : Seg) : Int := if tcpBad t then 63 else if 65535 < tcpAll t then 2 else 0
def tcpB (ph : Int → Int → List Int) (t : Seg) : List Int := if tcpE t = 0 then tcpL ph t else []
end Go.Proofs.YtpgnnplpcalbbaaGreat
