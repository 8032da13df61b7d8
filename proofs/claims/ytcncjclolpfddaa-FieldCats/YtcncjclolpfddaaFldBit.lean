/-
  The contracts of package field's small helpers and of the document's: one bit, whether bits are there, whether a number is too wide.
-/
import Derived.Test.YtcncjclolpfddaaFldMem
namespace Go.Proofs.Ytcncjclolpfddaa
set_option linter.unusedVariables false
set_option linter.unusedSimpArgs false
open Go Go.RowKit
attribute [local go_sem] Oper.semAt_some

set_option maxHeartbeats 400000 in
theorem bit_calls (v : Value) (zs : List Int) (p : Nat) (n₀ : Nat) (w : World) (h : BytesAt n₀ w v zs) (hp : p < 8 * zs.length) :
    Calls Try.prog 29 #[v, .int .i64 p] w fun e w' => e = .returned (.int .u8 (bitN zs p)) ∧ w' = w := by
  obtain ⟨hf, hl, a, cap, rfl, hz⟩ := h
  rcases hz with hz | ⟨b, off, rfl, hlt, hc⟩
  · omega
  have hcc := hc (p / 8) (by omega)
  have hfit := fit_at hf (p / 8)
  generalize hz' : zs[p / 8]?.getD 0 = z at *
  go_enter Try.func29, Try.ntmps29
  go_wp2
  go_ret
  refine ⟨ret_int ?_, rfl⟩
  unfold bitN
  rw [hz', bit_u8 z _ hfit.1 hfit.2]

theorem mod2_u8 (z : Int) (k : Nat) (h0 : 0 ≤ z) : z / 2 ^ k % 2 = ((bk z.toNat k : Nat) : Int) := by
  obtain ⟨n, rfl⟩ := Int.eq_ofNat_of_zero_le h0
  simp [bk]

set_option maxHeartbeats 400000 in
theorem Bit_calls (v : Value) (zs : List Int) (p : Nat) (n₀ : Nat) (w : World) (h : BytesAt n₀ w v zs) (hp : p < 8 * zs.length) :
    Calls Try.prog 27 #[v, .int .i64 p] w fun e w' => e = .returned (.int .u64 (bitN zs p)) ∧ w' = w := by
  obtain ⟨hf, hl, a, cap, rfl, hz⟩ := h
  rcases hz with hz | ⟨b, off, rfl, hlt, hc⟩
  · omega
  have hcc := hc (p / 8) (by omega)
  have hfit := fit_at hf (p / 8)
  generalize hz' : zs[p / 8]?.getD 0 = z at *
  have hs : 0 ≤ z / 2 ^ (7 - p % 8) ∧ z / 2 ^ (7 - p % 8) < 256 := by
    have h1 : (0 : Int) < 2 ^ (7 - p % 8) := Int.pow_pos (by decide)
    exact ⟨Int.ediv_nonneg hfit.1 (by omega), Int.lt_of_le_of_lt (Int.ediv_le_self _ hfit.1) hfit.2⟩
  go_enter Try.func27, Try.ntmps27
  go_wp2
  go_ret
  refine ⟨ret_int ?_, rfl⟩
  unfold bitN
  rw [hz', ← mod2_u8 z _ hfit.1]

set_option maxHeartbeats 400000 in
theorem Rthere_calls (a : Option Addr) (len cap : Nat) (at' n : Int) (w : World) (hl : len ≤ 140737488351232) (h0 : -9223372036854775808 ≤ at' ∧ at' ≤ 9223372036854775807) (h1 : -9223372036854775808 ≤ n ∧ n ≤ 9223372036854775807) :
    Calls Try.prog 30 #[.slice a len cap, .int .i64 at', .int .i64 n] w fun e w' => e = .returned (.bool (thereB len at' n)) ∧ w' = w := by
  cases c1 : decide (0 ≤ at') <;> cases c2 : decide (0 ≤ n) <;> cases c4 : decide (n ≤ 8 * (len : Int)) <;> cases c3 : decide (at' ≤ 8 * (len : Int) - n)
  all_goals
    simp only [decide_eq_true_eq, decide_eq_false_iff_not] at c1 c2 c3 c4
    go_enter Try.func30, Try.ntmps30
    go_wp2
    go_ret
    refine ⟨ret_bool ?_, rfl⟩
    unfold thereB
    first
      | (refine Eq.trans ?_ (Eq.refl true); symm; simp; omega)
      | (symm; simp; omega)
      | (rw [Bool.eq_iff_iff]; simp; omega)

/-- A number of more than n bits. -/
def wideB (v n : Nat) : Bool := decide (2 ^ n ≤ v)

theorem wide_eq (v n : Nat) : ((v : Int) / 2 ^ n != 0) = wideB v n := by
  have e : (v : Int) / 2 ^ n = ((v / 2 ^ n : Nat) : Int) := by simp
  rw [e]
  unfold wideB
  rw [Bool.eq_iff_iff]
  simp only [bne_iff_ne, ne_eq, decide_eq_true_eq]
  have hp := Nat.two_pow_pos n
  constructor
  · intro h
    apply Decidable.byContradiction
    intro hc
    exact h (by simp [Nat.div_eq_of_lt (by omega : v < 2 ^ n)])
  · intro h hc
    have h1 : v / 2 ^ n = 0 := by omega
    have h2 := (Nat.div_eq_zero_iff).1 h1
    omega
theorem wide_eq0 (v n : Nat) : ((v : Int) / 2 ^ n == 0) = !wideB v n := by
  rw [← wide_eq]; simp [bne]

set_option maxHeartbeats 400000 in
theorem wide_calls (v n : Nat) (w : World) (hv : v < 18446744073709551616) (hn : n ≤ 64) :
    Calls Try.prog 31 #[.int .u64 v, .int .i64 n] w fun e w' => e = .returned (.bool (wideB v n)) ∧ w' = w := by
  have hm : min n 64 = n := by omega
  go_enter Try.func31, Try.ntmps31
  go_wp2
  go_ret
  refine ⟨ret_bool ?_, rfl⟩
  first
    | exact wide_eq v n
    | (rw [hm]; exact wide_eq v n)

set_option maxHeartbeats 400000 in
theorem fits_calls (v n : Nat) (w : World) (hv : v < 18446744073709551616) (hn : n ≤ 64) :
    Calls Try.prog 34 #[.int .u64 v, .int .i64 n] w fun e w' => e = .returned (.bool (!wideB v n)) ∧ w' = w := by
  by_cases h : n = 64
  · subst h
    go_enter Try.func34, Try.ntmps34
    go_wp2
    go_ret
    refine ⟨ret_bool ?_, rfl⟩
    unfold wideB
    rw [decide_eq_false (by omega)]
    rfl
  · have hn' : n < 64 := by omega
    have hm : min n 64 = n := by omega
    go_enter Try.func34, Try.ntmps34
    go_wp2
    go_ret
    refine ⟨ret_bool ?_, rfl⟩
    rw [decide_eq_false (by omega), Bool.false_or]
    exact wide_eq0 v n

set_option maxHeartbeats 400000 in
theorem room_calls (n : Nat) (w : World) (hn : n ≤ 9223372036854775000) :
    Calls Try.prog 37 #[.int .i64 n] w fun e w' => e = .returned (.int .i64 ((n + 7) / 8 : Nat)) ∧ w' = w := by
  go_enter Try.func37, Try.ntmps37
  go_wp2
  go_ret
  exact ⟨ret_int (by omega), rfl⟩

end Go.Proofs.Ytcncjclolpfddaa
