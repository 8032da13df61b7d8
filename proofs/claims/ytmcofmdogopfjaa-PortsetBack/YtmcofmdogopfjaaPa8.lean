/-
  Port sets: Index and Next of both sides; the statement PortsetAt for every argument.
-/
import Derived.Test.YtmcofmdogopfjaaPa6
namespace Go.Proofs.Ytmcofmdogopfjaa
open Go Go.RowKit Go.ChangeShapes Go.WideShapes Go.ChangeAt
set_option linter.unusedVariables false
set_option linter.unusedSimpArgs false

theorem next_found (o l p n j : Nat) (ho : o ≤ 15) (hl : l ≤ 16 - o) (hp : p < 2 ^ l) (hn : n < 65536) (hj : n < j ∧ j < 65536) (h : hasN o l p j) (hno : ∀ m, n < m → m < j → ¬ hasN o l p m) : j = atN o l p (upS o l p n % cnt o l) := by
  obtain ⟨h1, h2⟩ := port_at o l p j ho hl hp hj.2 h
  generalize idx o l j = i at *
  have h3 : ¬ (i < upS o l p n) := fun k => by
    have := (up_at o l p n i ho hl).2 k
    omega
  have h4 : upS o l p n < cnt o l := by omega
  rw [Nat.mod_eq_of_lt h4]
  obtain ⟨h5, h6⟩ := at_ok o l p _ ho hl hp h4
  have h7 : n < atN o l p (upS o l p n) := by
    have := mt (up_at o l p n (upS o l p n) ho hl).1 (Nat.lt_irrefl _)
    omega
  have h8 := at_mono o l p (upS o l p n) i ho hl (by omega)
  rw [← h2] at h8
  by_cases h9 : atN o l p (upS o l p n) < j
  · exact absurd h6 (hno _ h7 h9)
  · omega
theorem next_none (o l p n : Nat) (ho : o ≤ 15) (hl : l ≤ 16 - o) (hp : p < 2 ^ l) (hn : n < 65536) (hno : ∀ m, n < m → m < 65536 → ¬ hasN o l p m) : upS o l p n % cnt o l = 0 := by
  have h1 := up_le o l p n ho hl hn
  by_cases h4 : upS o l p n < cnt o l
  · obtain ⟨h5, h6⟩ := at_ok o l p _ ho hl hp h4
    have h7 : n < atN o l p (upS o l p n) := by
      have := mt (up_at o l p n (upS o l p n) ho hl).1 (Nat.lt_irrefl _)
      omega
    exact absurd h6 (hno _ h7 h5)
  · rw [show upS o l p n = cnt o l by omega, Nat.mod_self]

set_option maxHeartbeats 1000000 in
theorem Index_no (o l p : Int) (n : Nat) (w : World) (ho : In64 o) (hl : In64 l) (hp : 0 ≤ p ∧ p < 65536) (hs : ¬ setOk o l p) :
    Calls Try.prog 20 #[PS o l p, .int .u16 n] w fun e w' => e = .returned (IE 0 90) ∧ Below w.heap.size w w' := by
  have HC : Hid _ := fun W => Has_no o l p n W ho hl hp hs
  have hB := bA w (PSO o l p)
  go_enter Try.func20, Try.ntmps20
  go_wp2_with fail
  refine (HC.out _).mono ?_
  rintro e w2 ⟨rfl, hB2⟩
  go_wp2
  go_returns
  exact ⟨rfl, hB.trans (hB2.mono hB.size)⟩
set_option maxHeartbeats 1000000 in
theorem RIndex_no (o l p : Int) (n : Nat) (w : World) (ho : In64 o) (hl : In64 l) (hp : 0 ≤ p ∧ p < 65536) (hs : ¬ setOk o l p) :
    Calls Try.prog 21 #[PS o l p, .int .u16 n] w fun e w' => e = .returned (IE 0 90) ∧ Below w.heap.size w w' := by
  have HC : Hid _ := fun W => RHas_no o l p n W ho hl hp hs
  have hB := bA w (PSO o l p)
  go_enter Try.func21, Try.ntmps21
  go_wp2_with fail
  refine (HC.out _).mono ?_
  rintro e w2 ⟨rfl, hB2⟩
  go_wp2
  go_returns
  exact ⟨rfl, hB.trans (hB2.mono hB.size)⟩

set_option maxHeartbeats 1000000 in
theorem Index_yes (o l p n : Nat) (w : World) (ho : o ≤ 15) (hl : l ≤ 16 - o) (hp : p < 2 ^ l) (hn : n < 65536) :
    Calls Try.prog 20 #[PS o l p, .int .u16 n] w fun e w' => e = .returned (if hasN o l p n then IE (idx o l n : Nat) 0 else IE 0 91) ∧ Below w.heap.size w w' := by
  have HC : Hid _ := fun W => Has_yes o l p n W ho hl hp hn
  have HS : Hid _ := fun W => shapeOf_calls o l p W ho hl hp
  have HU : Hid _ := fun W => upTo_calls (fr o l p) (sz o l) (st o) (bk o) n W (sz_le o l) (st_le o) (fr_le o l p ho hl hp) hn
  have hB := bA w (PSO o l p)
  by_cases hh : hasN o l p n
  · rw [if_pos hh]
    rw [decide_eq_true hh] at HC
    have e : upN (fr o l p) (sz o l) (st o) n = idx o l n + 1 := by
      have h2 := (port_at o l p n ho hl hp hn hh).2
      have h3 := up_of_at o l p (idx o l n) ho hl
      rw [← h2] at h3
      exact h3
    rw [e] at HU
    have hx : idx o l n < 65536 := Nat.lt_of_lt_of_le (port_at o l p n ho hl hp hn hh).1 (cnt_le o l ho hl)
    clear e hh
    generalize idx o l n = x at *
    generalize fr o l p = f at *
    generalize sz o l = s at *
    generalize st o = t at *
    generalize bk o = b at *
    go_enter Try.func20, Try.ntmps20
    go_wp2_with fail
    refine (HC.out _).mono ?_
    rintro e w2 ⟨rfl, hB2⟩
    obtain ⟨c0, c1, c2⟩ := ps_c (ps_at hB2)
    go_wp2_with fail
    refine (HS.out _).mono ?_
    rintro e w3 ⟨rfl, hB3⟩
    go_wp2_with fail
    refine (HU.out _).mono ?_
    rintro e w4 ⟨rfl, hB4⟩
    go_wp2
    go_returns
    refine ⟨?_, ((hB.trans (hB2.mono hB.size)).trans (hB3.mono (Nat.le_trans hB.size hB2.size))).trans (hB4.mono (Nat.le_trans (Nat.le_trans hB.size hB2.size) hB3.size))⟩
    first
      | rfl
      | exact congrArg (fun x : Int => Ending.returned (IE x 0)) (show ((x + 1 : Nat) : Int) - 1 = (x : Int) by omega)
  · rw [if_neg hh]
    rw [decide_eq_false hh] at HC
    clear hh
    go_enter Try.func20, Try.ntmps20
    go_wp2_with fail
    refine (HC.out _).mono ?_
    rintro e w2 ⟨rfl, hB2⟩
    go_wp2
    go_returns
    exact ⟨rfl, hB.trans (hB2.mono hB.size)⟩

set_option maxHeartbeats 1000000 in
theorem RIndex_yes (o l p n : Nat) (w : World) (ho : o ≤ 15) (hl : l ≤ 16 - o) (hp : p < 2 ^ l) (hn : n < 65536) :
    Calls Try.prog 21 #[PS o l p, .int .u16 n] w fun e w' => e = .returned (if hasN o l p n then IE (idx o l n : Nat) 0 else IE 0 91) ∧ Below w.heap.size w w' := by
  have HC : Hid _ := fun W => RHas_yes o l p n W ho hl hp hn
  have HA : Hid _ := fun W => a_calls o n W ho hn
  have HR : Hid _ := fun W => rest_calls o l p W ho hl
  have hB := bA w (PSO o l p)
  by_cases hh : hasN o l p n
  · rw [if_pos hh]
    rw [decide_eq_true hh] at HC
    have h1 := (port_form o l p n ho hl hh).2
    have e1 : n / 2 ^ (16 - o) = n / st o := rfl
    rw [e1] at HA
    have hx : idx o l n < 65536 := Nat.lt_of_lt_of_le (port_at o l p n ho hl hp hn hh).1 (cnt_le o l ho hl)
    have hs := sz_le o l
    have h2 : n / st o < 65536 := Nat.lt_of_le_of_lt (Nat.div_le_self _ _) hn
    have h3 : (((n / st o - one o : Nat)) : Int) * (sz o l : Nat) = (((n / st o - one o) * sz o l : Nat) : Int) := by rw [Int.natCast_mul]
    have h4 : (n : Int).tmod (sz o l : Nat) = ((n % sz o l : Nat) : Int) := by rw [← Int.ofNat_tmod]
    have h5 : (((sz o l : Nat) : Int) == 0) = false := beq_eq_false_iff_ne.2 (by omega)
    have HE : Hid (idx o l n = (n / st o - one o) * sz o l + n % sz o l) := rfl
    have h6 : (n / st o - one o) * sz o l < 65536 := by have := HE.out; omega
    have h7 : n % sz o l < 65536 := by have := HE.out; omega
    have ho1 : one o = if 0 < o then 1 else 0 := rfl
    clear hh e1
    generalize idx o l n = x at *
    by_cases h0 : 0 < o
    · rw [if_pos h0] at ho1
      rw [ho1] at h1 h3 h6 HE
      have h8 : ((n / st o : Nat) : Int) - 1 = ((n / st o - 1 : Nat) : Int) := by omega
      clear ho1
      generalize n / st o - 1 = d1 at *
      generalize n / st o = d at *
      generalize n % sz o l = r at *
      generalize sz o l = s at *
      generalize d1 * s = q at *
      go_enter Try.func21, Try.ntmps21
      go_wp2_with fail
      refine (HC.out _).mono ?_
      rintro e w2 ⟨rfl, hB2⟩
      obtain ⟨c0, c1, c2⟩ := ps_c (ps_at hB2)
      go_wp2_with fail
      refine (HA.out _).mono ?_
      rintro e w3 ⟨rfl, hB3⟩
      have hB13 := hB2.trans (hB3.mono hB2.size)
      have hBw := hB.trans (hB13.mono hB.size)
      obtain ⟨c0, c1, c2⟩ := ps_c (ps_at hB13)
      obtain ⟨d0, d1, d2⟩ := ps_hi (ps_at hB13)
      go_wp2_with fail
      refine wp_region_hi (by kernel_rfl) (by kernel_rfl) ?_
      repeat (go_big_quiet_step (first | (go_at_call 31; exact Hi.calls (HR.out _))))
      refine wpQuiet_nil ?_
      intro _ hw
      obtain ⟨y, rfl⟩ := hw
      go_wp2
      go_returns
      exact ⟨congrArg (fun x : Int => Ending.returned (IE x 0)) (show (q : Int) + r = (x : Int) by have := HE.out; omega), hBw.trans (y.below.mono hBw.size)⟩
    · rw [if_neg h0] at ho1
      rw [ho1, Nat.sub_zero] at h3 h6 HE
      clear ho1 h1
      generalize n / st o = d at *
      generalize n % sz o l = r at *
      generalize sz o l = s at *
      generalize d * s = q at *
      go_enter Try.func21, Try.ntmps21
      go_wp2_with fail
      refine (HC.out _).mono ?_
      rintro e w2 ⟨rfl, hB2⟩
      obtain ⟨c0, c1, c2⟩ := ps_c (ps_at hB2)
      go_wp2_with fail
      refine (HA.out _).mono ?_
      rintro e w3 ⟨rfl, hB3⟩
      have hB13 := hB2.trans (hB3.mono hB2.size)
      have hBw := hB.trans (hB13.mono hB.size)
      obtain ⟨c0, c1, c2⟩ := ps_c (ps_at hB13)
      obtain ⟨d0, d1, d2⟩ := ps_hi (ps_at hB13)
      go_wp2_with fail
      refine wp_region_hi (by kernel_rfl) (by kernel_rfl) ?_
      repeat (go_big_quiet_step (first | (go_at_call 31; exact Hi.calls (HR.out _))))
      refine wpQuiet_nil ?_
      intro _ hw
      obtain ⟨y, rfl⟩ := hw
      go_wp2
      go_returns
      exact ⟨congrArg (fun x : Int => Ending.returned (IE x 0)) (show (q : Int) + r = (x : Int) by have := HE.out; omega), hBw.trans (y.below.mono hBw.size)⟩
  · rw [if_neg hh]
    rw [decide_eq_false hh] at HC
    clear hh
    go_enter Try.func21, Try.ntmps21
    go_wp2_with fail
    refine (HC.out _).mono ?_
    rintro e w2 ⟨rfl, hB2⟩
    go_wp2
    go_returns
    exact ⟨rfl, hB.trans (hB2.mono hB.size)⟩

end Go.Proofs.Ytmcofmdogopfjaa
