/-
  putWord and cut of package ipv4.
-/
import Derived.Test.YtmoogfdmlbalbaaIp0
import Derived.Test.YtmoogfdmlbalbaaIp1
import Derived.Laws.BitsAllLaws
namespace Go.Proofs.Ytmoogfdmlbalbaa
open Go Go.RowKit
set_option linter.unusedVariables false
set_option linter.unusedSimpArgs false

/-- A row with a word at a place. -/
def putL (zs : List Int) (o : Nat) (x : Int) : List Int := (zs.set o (x / 256)).set (o + 1) (x % 256)

set_option maxHeartbeats 1000000 in
set_option maxRecDepth 100000 in
theorem putWord_calls (b o n cap : Nat) (zs : List Int) (x : Int) (w : World) (h : OwnG w b zs) (hn : 2 ≤ n) (ho : o + n ≤ zs.length) (hx : 0 ≤ x ∧ x ≤ 65535) (hs : zs.length ≤ 1000000) :
    Calls Try.prog 50 #[.slice (some ⟨b, o, none⟩) n cap, .int .u16 x] w fun e w' => e = .returned (.tuple #[]) ∧ OwnG w' b (putL zs o x) ∧ Only b w w' := by
  have c0 := h.cell o (by omega)
  have c1 := h.cell (o + 1) (by omega)
  have f0 := h.open o
  have f1 := h.open (o + 1)
  have hn0 : (0 : Int) < (n : Int) := by omega
  have hn1 : (1 : Int) < (n : Int) := by omega
  have H : Hid _ := h
  clear h
  go_enter Try.func50, Try.ntmps50
  go_wp2
  go_end0
  exact ⟨rfl, (H.out.set o (by omega) _).set (o + 1) (by simp; omega) _, ((Only.refl _ _).set _ _).set _ _⟩

theorem or_hi (a m k : Nat) (h : a < 2 ^ k) : a ||| (2 ^ k * m) = a + 2 ^ k * m := by
  rw [Nat.or_comm, ← Nat.two_pow_add_eq_or_of_lt h, Nat.add_comm]
theorem orA (off : Int) (h : 0 ≤ off ∧ off ≤ 8191) : bits .or .u16 off 8192 = off + 8192 := by
  obtain ⟨a, rfl⟩ := Int.eq_ofNat_of_zero_le h.1
  rw [show (8192 : Int) = ((8192 : Nat) : Int) from rfl, u16_or_nat a 8192 (by omega) (by omega), show (8192 : Nat) = 2 ^ 13 * 1 from rfl, or_hi a 1 13 (by omega)]
  omega
theorem orB (off : Int) (h : 0 ≤ off ∧ off ≤ 8191) : bits .or .u16 off 16384 = off + 16384 := by
  obtain ⟨a, rfl⟩ := Int.eq_ofNat_of_zero_le h.1
  rw [show (16384 : Int) = ((16384 : Nat) : Int) from rfl, u16_or_nat a 16384 (by omega) (by omega), show (16384 : Nat) = 2 ^ 13 * 2 from rfl, or_hi a 2 13 (by omega)]
  omega
theorem orC (off : Int) (h : 0 ≤ off ∧ off ≤ 8191) : bits .or .u16 (off + 16384) 8192 = off + 16384 + 8192 := by
  obtain ⟨a, rfl⟩ := Int.eq_ofNat_of_zero_le h.1
  rw [show ((a : Int) + 16384) = ((a + 16384 : Nat) : Int) by omega, show (8192 : Int) = ((8192 : Nat) : Int) from rfl, u16_or_nat (a + 16384) 8192 (by omega) (by omega)]
  have e1 : a + 16384 = a ||| (2 ^ 13 * 2) := by rw [or_hi a 2 13 (by omega)]
  have e2 : a ||| (2 ^ 13 * 2) ||| 8192 = a ||| (2 ^ 13 * 3) := by
    rw [Nat.or_assoc]
    rfl
  rw [e1, e2, or_hi a 3 13 (by omega)]
  omega

/-- The word that says how a datagram is split. -/
def cutW (off : Int) (df mf : Bool) : Int := off + (if df then 16384 else 0) + (if mf then 8192 else 0)

set_option maxHeartbeats 1000000 in
set_option maxRecDepth 100000 in
theorem cut_calls4 (c : List Value) (off : Int) (df mf : Bool) (w : World) (h2 : c[2]? = some (.bool df)) (h3 : c[3]? = some (.bool mf)) (h4 : c[4]? = some (.int .i64 off)) (ho : 0 ≤ off ∧ off ≤ 8191) :
    Calls Try.prog 51 #[.agg c.toArray] w fun e w' => e = .returned (.int .u16 (cutW off df mf)) ∧ Below w.heap.size w w' := by
  have hB := (Below.refl w.heap.size w).alloc (Nat.le_refl _) (.cells c.toArray 27)
  have hm : off % 65536 = off := by omega
  have oA := orA off ho
  have oB := orB off ho
  have oC := orC off ho
  unfold cutW
  cases df <;> cases mf
  all_goals
    go_enter Try.func51, Try.ntmps51
    go_wp2
    go_ret
    refine ⟨?_, hB⟩
    simp

end Go.Proofs.Ytmoogfdmlbalbaa
