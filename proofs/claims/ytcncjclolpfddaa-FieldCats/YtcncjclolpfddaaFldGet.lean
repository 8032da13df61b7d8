/-
  The contracts of Get, of the program and of the document: both are the number of the bits.
-/
import Derived.Test.YtcncjclolpfddaaFldBit
namespace Go.Proofs.Ytcncjclolpfddaa
set_option linter.unusedVariables false
set_option linter.unusedSimpArgs false
open Go Go.RowKit
attribute [local go_sem] Oper.semAt_some

def okG (len : Nat) (at' n : Int) : Bool := decide (n ≤ 64) && thereB len at' n
def getV (zs : List Int) (at' n : Int) : Int := if okG zs.length at' n then (accN zs at'.toNat n.toNat : Int) else 0
def getE (zs : List Int) (at' n : Int) : Int := if okG zs.length at' n then 0 else 30

theorem okG_yes {len : Nat} {at' n : Int} (h : okG len at' n = true) : n ≤ 64 ∧ 0 ≤ at' ∧ 0 ≤ n ∧ at' + n ≤ 8 * len := by
  simpa [okG, thereB] using h
theorem thereB_yes {len : Nat} {at' n : Int} (h : thereB len at' n = true) : 0 ≤ at' ∧ 0 ≤ n ∧ at' + n ≤ 8 * len := by
  simpa [thereB] using h

theorem shl_or (a : Nat) (i : Nat) (b : Nat) (ha : a < 2 ^ i) (hi : i < 64) (hb : b < 2) : bits .or .u64 ((a : Int) * 2) (b : Int) = ((2 * a + b : Nat) : Int) := by
  have h2 : 2 ^ i ≤ 2 ^ 63 := Nat.pow_le_pow_right (by decide) (by omega)
  have h := u64_or_nat (2 * a) b (by omega) (by omega)
  have e : (2 * a ||| b) = 2 * a + b := by
    have := Nat.two_pow_add_eq_or_of_lt (i := 1) (b := b) (by omega) a
    simpa using this.symm
  rw [e] at h
  rw [← h]
  congr 1
  push_cast
  omega

set_option maxHeartbeats 1000000 in
theorem get_calls (v : Value) (zs : List Int) (at' n : Int) (w : World) (h : BytesAt w.heap.size w v zs) (h0 : -9223372036854775808 ≤ at' ∧ at' ≤ 9223372036854775807) (h1 : -9223372036854775808 ≤ n ∧ n ≤ 9223372036854775807) :
    Calls Try.prog 10 #[v, .int .i64 at', .int .i64 n] w fun e w' => e = .returned (.tuple #[.int .u64 (getV zs at' n), .int .i64 (getE zs at' n)]) ∧ w' = w := by
  have hbit := bit_calls v zs
  have hl := h.len
  obtain ⟨_, _, a, cap, rfl, _⟩ := id h
  by_cases hn : n ≤ 64
  · cases ht : thereB zs.length at' n
    · have ev : getV zs at' n = 0 := by simp [getV, okG, ht]
      have ee : getE zs at' n = 30 := by simp [getE, okG, ht]
      rw [ev, ee]
      clear h
      go_enter Try.func10, Try.ntmps10
      go_wp2_with fail
      refine (there_calls a _ cap at' n w hl h0 h1).mono ?_
      rintro e w' ⟨rfl, rfl⟩
      rw [ht]
      go_wp2
      go_ret2
      exact ⟨rfl, rfl⟩
    · have hth := thereB_yes ht
      obtain ⟨p, rfl⟩ := Int.eq_ofNat_of_zero_le hth.1
      obtain ⟨m, rfl⟩ := Int.eq_ofNat_of_zero_le hth.2.1
      have ev : getV zs p m = accN zs p m := by simp [getV, okG, ht]; omega
      have ee : getE zs p m = 0 := by simp [getE, okG, ht]; omega
      rw [ev, ee]
      go_enter Try.func10, Try.ntmps10
      go_wp2_with fail
      refine (there_calls a _ cap p m w hl h0 h1).mono ?_
      rintro e w' ⟨rfl, rfl⟩
      rw [ht]
      clear ht
      go_wp2
      go_loopw [8, 20] (fun x i wr => ∃ k : Nat, k ≤ m ∧ i = .int .i64 k ∧ x = .int .u64 (accN zs p k) ∧ wr = w') (fun _ i _ => m - (intOf i).toNat)
      case atStart => exact ⟨0, Nat.zero_le _, rfl, rfl, rfl⟩
      case round =>
        obtain ⟨k, hk, rfl, rfl, rfl⟩ := hrel
        have hlt' := accN_lt zs p k
        by_cases hlt : k < m
        · have hb := bitN_lt zs (p + k)
          have h64 : 2 ^ k ≤ 2 ^ 63 := Nat.pow_le_pow_right (by decide) (by omega)
          have hso := shl_or _ k _ hlt' (by omega) hb
          have hc := hbit (p + k) _ _ h (by omega)
          have e1 : ((p + k : Nat) : Int) = (p : Int) + k := by omega
          rw [e1] at hc
          have hs : accN zs p (k + 1) = 2 * accN zs p k + bitN zs (p + k) := rfl
          rw [← hs] at hso
          clear hs
          generalize hy : accN zs p (k + 1) = y at *
          have HY : Hid _ := hy
          clear hy
          generalize accN zs p k = x at *
          generalize bitN zs (p + k) = bb at *
          have HC : Hid _ := hc
          clear hc hbit h
          go_wp2_with fail
          refine Calls.mono HC.out ?_
          rintro e w1 ⟨rfl, rfl⟩
          go_wp2
          exact ⟨⟨k + 1, by omega, by simp, by rw [HY.out], trivial⟩, by simp [intOf]; omega⟩
        · obtain rfl : k = m := by omega
          go_wp2
          go_ret2
          exact ⟨rfl, rfl⟩
  · have ev : getV zs at' n = 0 := by simp [getV, okG, hn]
    have ee : getE zs at' n = 30 := by simp [getE, okG, hn]
    rw [ev, ee]
    clear h
    go_enter Try.func10, Try.ntmps10
    go_wp2
    go_ret2
    exact ⟨rfl, rfl⟩

set_option maxHeartbeats 1000000 in
theorem Rget_calls (v : Value) (zs : List Int) (at' n : Int) (w : World) (h : BytesAt w.heap.size w v zs) (h0 : -9223372036854775808 ≤ at' ∧ at' ≤ 9223372036854775807) (h1 : -9223372036854775808 ≤ n ∧ n ≤ 9223372036854775807) :
    Calls Try.prog 11 #[v, .int .i64 at', .int .i64 n] w fun e w' => e = .returned (.tuple #[.int .u64 (getV zs at' n), .int .i64 (getE zs at' n)]) ∧ w' = w := by
  have hbit := Bit_calls v zs
  have hl := h.len
  obtain ⟨_, _, a, cap, rfl, _⟩ := id h
  by_cases hn : n ≤ 64
  · cases ht : thereB zs.length at' n
    · have ev : getV zs at' n = 0 := by simp [getV, okG, ht]
      have ee : getE zs at' n = 30 := by simp [getE, okG, ht]
      rw [ev, ee]
      clear h
      go_enter Try.func11, Try.ntmps11
      go_wp2_with fail
      refine (Rthere_calls a _ cap at' n w hl h0 h1).mono ?_
      rintro e w' ⟨rfl, rfl⟩
      rw [ht]
      go_wp2
      go_ret2
      exact ⟨rfl, rfl⟩
    · have hth := thereB_yes ht
      obtain ⟨p, rfl⟩ := Int.eq_ofNat_of_zero_le hth.1
      obtain ⟨m, rfl⟩ := Int.eq_ofNat_of_zero_le hth.2.1
      have ev : getV zs p m = accN zs p m := by simp [getV, okG, ht]; omega
      have ee : getE zs p m = 0 := by simp [getE, okG, ht]; omega
      rw [ev, ee]
      go_enter Try.func11, Try.ntmps11
      go_wp2_with fail
      refine (Rthere_calls a _ cap p m w hl h0 h1).mono ?_
      rintro e w' ⟨rfl, rfl⟩
      rw [ht]
      clear ht
      go_wp2
      go_loopw [8, 9] (fun x i wr => ∃ k : Nat, k ≤ m ∧ i = .int .i64 k ∧ x = .int .u64 (accN zs p k) ∧ wr = w') (fun _ i _ => m - (intOf i).toNat)
      case atStart => exact ⟨0, Nat.zero_le _, rfl, rfl, rfl⟩
      case round =>
        obtain ⟨k, hk, rfl, rfl, rfl⟩ := hrel
        have hlt' := accN_lt zs p k
        by_cases hlt : k < m
        · have hb := bitN_lt zs (p + k)
          have h64 : 2 ^ k ≤ 2 ^ 63 := Nat.pow_le_pow_right (by decide) (by omega)
          have hso : 2 * ((accN zs p k : Nat) : Int) + ((bitN zs (p + k) : Nat) : Int) = ((2 * accN zs p k + bitN zs (p + k) : Nat) : Int) := by omega
          have hc := hbit (p + k) _ _ h (by omega)
          have e1 : ((p + k : Nat) : Int) = (p : Int) + k := by omega
          rw [e1] at hc
          have hs : accN zs p (k + 1) = 2 * accN zs p k + bitN zs (p + k) := rfl
          rw [← hs] at hso
          clear hs
          generalize hy : accN zs p (k + 1) = y at *
          have HY : Hid _ := hy
          clear hy
          generalize accN zs p k = x at *
          generalize bitN zs (p + k) = bb at *
          have HC : Hid _ := hc
          clear hc hbit h
          go_wp2_with fail
          refine Calls.mono HC.out ?_
          rintro e w1 ⟨rfl, rfl⟩
          go_wp2
          exact ⟨⟨k + 1, by omega, by simp, by rw [HY.out], trivial⟩, by simp [intOf]; omega⟩
        · obtain rfl : k = m := by omega
          go_wp2
          go_ret2
          exact ⟨rfl, rfl⟩
  · have ev : getV zs at' n = 0 := by simp [getV, okG, hn]
    have ee : getE zs at' n = 30 := by simp [getE, okG, hn]
    rw [ev, ee]
    clear h
    go_enter Try.func11, Try.ntmps11
    go_wp2
    go_ret2
    exact ⟨rfl, rfl⟩

end Go.Proofs.Ytcncjclolpfddaa
