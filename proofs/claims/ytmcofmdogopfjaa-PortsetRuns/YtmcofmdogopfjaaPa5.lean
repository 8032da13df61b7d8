/-
  Port sets: plain mathematics of places and ports.
-/
import Derived.Test.YtmcofmdogopfjaaPa4
namespace Go.Proofs.Ytmcofmdogopfjaa
open Go Go.RowKit
set_option linter.unusedVariables false
set_option linter.unusedSimpArgs false

theorem st_sz (o l : Nat) (ho : o ≤ 15) (hl : l ≤ 16 - o) : st o = sz o l * 2 ^ l := by
  unfold st sz
  rw [← Nat.pow_add, show 16 - o - l + l = 16 - o by omega]
theorem pow_st (o : Nat) (ho : o ≤ 15) : 2 ^ o * st o = 65536 := by
  unfold st
  rw [← Nat.pow_add, show o + (16 - o) = 16 by omega]
theorem bk_one (o : Nat) (ho : o ≤ 15) : bk o + one o = 2 ^ o := by
  have := Nat.two_pow_pos o
  unfold bk one
  split <;> omega
theorem cnt_pos (o l : Nat) (ho : o ≤ 15) : 0 < cnt o l := Nat.mul_pos (by have := bk_le o ho; omega) (by have := sz_le o l; omega)
theorem cnt_le (o l : Nat) (ho : o ≤ 15) (hl : l ≤ 16 - o) : cnt o l ≤ 65536 := by
  have h1 := pow_st o ho
  have h2 := bk_one o ho
  have h3 := st_sz o l ho hl
  have h4 : sz o l ≤ st o := by rw [h3]; exact Nat.le_mul_of_pos_right _ (Nat.two_pow_pos l)
  unfold cnt
  exact Nat.le_trans (Nat.mul_le_mul (show bk o ≤ 2 ^ o by omega) h4) (by omega)
/-- A port's parts: A, the PSID, the rest. -/
theorem low_lt (o l p r : Nat) (ho : o ≤ 15) (hl : l ≤ 16 - o) (hp : p < 2 ^ l) (hr : r < sz o l) : p * sz o l + r < st o := by
  have h : (p + 1) * sz o l ≤ 2 ^ l * sz o l := Nat.mul_le_mul_right _ hp
  rw [st_sz o l ho hl, Nat.mul_comm (sz o l)]
  rw [Nat.add_mul] at h
  omega
theorem at_form (o l p i : Nat) : atN o l p i = (i / sz o l + one o) * st o + (p * sz o l + i % sz o l) := by
  unfold atN fr
  rw [Nat.add_mul]
  omega
theorem at_ok (o l p i : Nat) (ho : o ≤ 15) (hl : l ≤ 16 - o) (hp : p < 2 ^ l) (hi : i < cnt o l) : atN o l p i < 65536 ∧ hasN o l p (atN o l p i) := by
  have s1 := (sz_le o l).1
  have t1 := (st_le o).1
  have hr : i % sz o l < sz o l := Nat.mod_lt _ s1
  have ha : i / sz o l < bk o := Nat.div_lt_of_lt_mul (by unfold cnt at hi; rw [Nat.mul_comm]; exact hi)
  have hlow := low_lt o l p (i % sz o l) ho hl hp hr
  have hb := bk_one o ho
  rw [at_form]
  generalize hA : i / sz o l + one o = A
  have hA2 : A < 2 ^ o := by omega
  have hq : (A * st o + (p * sz o l + i % sz o l)) / st o = A := by
    rw [Nat.add_comm, Nat.add_mul_div_right _ _ t1, Nat.div_eq_of_lt hlow, Nat.zero_add]
  refine ⟨?_, ?_, ?_⟩
  · have h : (A + 1) * st o ≤ 2 ^ o * st o := Nat.mul_le_mul_right _ hA2
    rw [pow_st o ho, Nat.add_mul] at h
    omega
  · unfold isOnes
    by_cases h0 : o = 0
    · exact Or.inl h0
    · refine Or.inr ?_
      have e : (A * st o + (p * sz o l + i % sz o l)) / 2 ^ (16 - o) = A := hq
      rw [e, ← hA]
      unfold one
      rw [if_pos (by omega)]
      exact Nat.succ_ne_zero _
  · unfold pidN
    have e : 2 ^ (16 - o - l) = sz o l := rfl
    rw [e, st_sz o l ho hl]
    have e2 : A * (sz o l * 2 ^ l) + (p * sz o l + i % sz o l) = i % sz o l + (A * 2 ^ l + p) * sz o l := by
      rw [Nat.add_mul, Nat.mul_assoc, Nat.mul_comm (2 ^ l)]
      omega
    rw [e2, Nat.add_mul_div_right _ _ s1, Nat.div_eq_of_lt hr, Nat.zero_add, Nat.add_comm, Nat.add_mul_mod_self_right, Nat.mod_eq_of_lt hp]
/-- A port's place. -/
def idx (o l n : Nat) : Nat := (n / st o - one o) * sz o l + n % sz o l
theorem port_form (o l p n : Nat) (ho : o ≤ 15) (hl : l ≤ 16 - o) (h : hasN o l p n) : n = (n / st o) * st o + (p * sz o l + n % sz o l) ∧ one o ≤ n / st o := by
  obtain ⟨h1, h2⟩ := h
  have e := st_sz o l ho hl
  refine ⟨?_, ?_⟩
  · have d1 := Nat.div_add_mod n (st o)
    have d2 := Nat.div_add_mod (n % st o) (sz o l)
    have d3 : n % st o / sz o l = p := by
      rw [e, Nat.mod_mul_right_div_self]
      exact h2
    have d4 : n % st o % sz o l = n % sz o l := by rw [e, Nat.mod_mul_right_mod]
    rw [d3, d4, Nat.mul_comm] at d2
    rw [Nat.mul_comm] at d1
    omega
  · unfold one
    split
    · rcases h1 with h1 | h1
      · omega
      · exact Nat.pos_of_ne_zero h1
    · exact Nat.zero_le _
theorem port_at (o l p n : Nat) (ho : o ≤ 15) (hl : l ≤ 16 - o) (hp : p < 2 ^ l) (hn : n < 65536) (h : hasN o l p n) : idx o l n < cnt o l ∧ n = atN o l p (idx o l n) := by
  obtain ⟨h1, h2⟩ := port_form o l p n ho hl h
  have s1 := (sz_le o l).1
  have t1 := (st_le o).1
  have hr : n % sz o l < sz o l := Nat.mod_lt _ s1
  have hA : n / st o < 2 ^ o := Nat.div_lt_of_lt_mul (by rw [Nat.mul_comm, pow_st o ho]; exact hn)
  have hb := bk_one o ho
  have e1 : idx o l n / sz o l = n / st o - one o := by
    unfold idx
    rw [Nat.add_comm, Nat.add_mul_div_right _ _ s1, Nat.div_eq_of_lt hr, Nat.zero_add]
  have e2 : idx o l n % sz o l = n % sz o l := by
    unfold idx
    rw [Nat.add_comm, Nat.add_mul_mod_self_right, Nat.mod_mod]
  refine ⟨?_, ?_⟩
  · unfold idx cnt
    have h : (n / st o - one o + 1) * sz o l ≤ bk o * sz o l := Nat.mul_le_mul_right _ (by omega)
    rw [Nat.add_mul] at h
    omega
  · rw [at_form, e1, e2, Nat.sub_add_cancel h2]
    exact h1
theorem at_idx (o l p i : Nat) (ho : o ≤ 15) (hl : l ≤ 16 - o) (hp : p < 2 ^ l) (hi : i < cnt o l) : idx o l (atN o l p i) = i := by
  have s1 := (sz_le o l).1
  have t1 := (st_le o).1
  have hr : i % sz o l < sz o l := Nat.mod_lt _ s1
  have hlow := low_lt o l p (i % sz o l) ho hl hp hr
  have e1 : atN o l p i / st o = i / sz o l + one o := by
    rw [at_form, Nat.add_comm, Nat.add_mul_div_right _ _ t1, Nat.div_eq_of_lt hlow, Nat.zero_add]
  have e2 : atN o l p i % sz o l = i % sz o l := by
    rw [at_form, st_sz o l ho hl]
    have e2 : (i / sz o l + one o) * (sz o l * 2 ^ l) + (p * sz o l + i % sz o l) = i % sz o l + ((i / sz o l + one o) * 2 ^ l + p) * sz o l := by
      rw [Nat.add_mul _ p, Nat.mul_assoc, Nat.mul_comm (2 ^ l)]
      omega
    rw [e2, Nat.add_mul_mod_self_right, Nat.mod_mod]
  unfold idx
  rw [e1, e2, Nat.add_sub_cancel, Nat.mul_comm]
  exact Nat.div_add_mod i (sz o l)
/-- How many ports are not above one. -/
theorem up_at (o l p n i : Nat) (ho : o ≤ 15) (hl : l ≤ 16 - o) : atN o l p i ≤ n ↔ i < upN (fr o l p) (sz o l) (st o) n := by
  have s1 := (sz_le o l).1
  have t1 := (st_le o).1
  have hst : sz o l ≤ st o := by rw [st_sz o l ho hl]; exact Nat.le_mul_of_pos_right _ (Nat.two_pow_pos l)
  have hr : i % sz o l < sz o l := Nat.mod_lt _ s1
  have hi := Nat.div_add_mod i (sz o l)
  unfold upN atN
  generalize fr o l p = f
  generalize sz o l = s at *
  generalize st o = t at *
  generalize i / s = a at *
  generalize i % s = r at *
  subst hi
  by_cases hlt : n < f
  · rw [if_pos hlt]
    omega
  · rw [if_neg hlt]
    have hd := Nat.div_add_mod (n - f) t
    have hc := Nat.mod_lt (n - f) t1
    generalize (n - f) / t = b at *
    generalize (n - f) % t = c at *
    have e : n = f + (t * b + c) := by omega
    subst e
    rcases Nat.lt_trichotomy a b with h | h | h
    · have h1 : (a + 1) * t ≤ b * t := Nat.mul_le_mul_right _ h
      have h2 : (a + 1) * s ≤ b * s := Nat.mul_le_mul_right _ h
      rw [Nat.add_mul] at h1 h2
      rw [Nat.mul_comm t b, Nat.mul_comm s a]
      generalize a * t = x1 at *
      generalize b * t = x2 at *
      generalize a * s = x3 at *
      generalize b * s = x4 at *
      omega
    · subst h
      rw [Nat.mul_comm t a, Nat.mul_comm s a]
      generalize a * t = x1 at *
      generalize a * s = x3 at *
      omega
    · have h1 : (b + 1) * t ≤ a * t := Nat.mul_le_mul_right _ h
      have h2 : (b + 1) * s ≤ a * s := Nat.mul_le_mul_right _ h
      rw [Nat.add_mul] at h1 h2
      rw [Nat.mul_comm t b, Nat.mul_comm s a]
      generalize a * t = x1 at *
      generalize b * t = x2 at *
      generalize a * s = x3 at *
      generalize b * s = x4 at *
      omega
abbrev upS (o l p n : Nat) : Nat := upN (fr o l p) (sz o l) (st o) n
theorem up_le (o l p n : Nat) (ho : o ≤ 15) (hl : l ≤ 16 - o) (hn : n < 65536) : upS o l p n ≤ cnt o l := by
  have t1 := (st_le o).1
  have h1 := pow_st o ho
  have h2 := bk_one o ho
  unfold upS upN
  split
  · omega
  · rename_i h
    have h3 : n - fr o l p < bk o * st o := by
      have e : fr o l p = p * sz o l + one o * st o := rfl
      rw [← h2, Nat.add_mul] at h1
      omega
    have h4 : (n - fr o l p) / st o < bk o := Nat.div_lt_of_lt_mul (by rw [Nat.mul_comm]; exact h3)
    have h5 : ((n - fr o l p) / st o + 1) * sz o l ≤ bk o * sz o l := Nat.mul_le_mul_right _ h4
    rw [Nat.add_mul] at h5
    unfold cnt
    omega
theorem up_of_at (o l p i : Nat) (ho : o ≤ 15) (hl : l ≤ 16 - o) : upS o l p (atN o l p i) = i + 1 := by
  have h1 := (up_at o l p (atN o l p i) i ho hl).1 (Nat.le_refl _)
  have h2 := up_at o l p (atN o l p i) (i + 1) ho hl
  have h3 : atN o l p i < atN o l p (i + 1) := by
    have h4 := up_at o l p (atN o l p i) i ho hl
    have h5 := up_at o l p (atN o l p (i + 1)) (i + 1) ho hl
    have h6 := up_at o l p (atN o l p (i + 1)) i ho hl
    have h7 := h5.1 (Nat.le_refl _)
    have h8 := h6.2 (by omega)
    refine Nat.lt_of_le_of_ne h8 fun e => ?_
    have s1 := (sz_le o l).1
    have t1 := (st_le o).1
    have hst : sz o l ≤ st o := by rw [st_sz o l ho hl]; exact Nat.le_mul_of_pos_right _ (Nat.two_pow_pos l)
    unfold atN at e
    by_cases hc : (i + 1) % sz o l = 0
    · have e1 : (i + 1) / sz o l = i / sz o l + 1 := Nat.succ_div_of_mod_eq_zero hc
      rw [e1, hc, Nat.add_mul] at e
      have hr := Nat.mod_lt i s1
      omega
    · have e1 : (i + 1) / sz o l = i / sz o l := Nat.succ_div_of_mod_ne_zero hc
      have d1 := Nat.div_add_mod (i + 1) (sz o l)
      have d2 := Nat.div_add_mod i (sz o l)
      rw [e1] at e d1
      omega
  have h9 : ¬ (i + 1 < upS o l p (atN o l p i)) := fun h => by
    have := h2.2 h
    omega
  have h10 : i < upS o l p (atN o l p i) := h1
  omega
theorem at_mono (o l p i j : Nat) (ho : o ≤ 15) (hl : l ≤ 16 - o) (h : i ≤ j) : atN o l p i ≤ atN o l p j :=
  (up_at o l p _ i ho hl).2 (by have := up_of_at o l p j ho hl; unfold upS at this; omega)

set_option maxHeartbeats 1000000 in
theorem At_no (o l p i : Int) (w : World) (ho : In64 o) (hl : In64 l) (hp : 0 ≤ p ∧ p < 65536) (hs : ¬ setOk o l p) :
    Calls Try.prog 18 #[PS o l p, .int .i64 i] w fun e w' => e = .returned (UE 0 90) ∧ Below w.heap.size w w' := by
  have HC : Hid _ := fun W => Check_any o l p W ho hl hp
  rw [if_neg hs] at HC
  have hB := bA w (PSO o l p)
  go_enter Try.func18, Try.ntmps18
  go_wp2_with fail
  refine (HC.out _).mono ?_
  rintro e w2 ⟨rfl, hB2⟩
  go_wp2
  go_returns
  exact ⟨rfl, hB.trans (hB2.mono hB.size)⟩
set_option maxHeartbeats 1000000 in
theorem RAt_no (o l p i : Int) (w : World) (ho : In64 o) (hl : In64 l) (hp : 0 ≤ p ∧ p < 65536) (hs : ¬ setOk o l p) :
    Calls Try.prog 19 #[PS o l p, .int .i64 i] w fun e w' => e = .returned (UE 0 90) ∧ Below w.heap.size w w' := by
  have HC : Hid _ := fun W => RCount_no o l p W ho hl hp hs
  have hB := bA w (PSO o l p)
  go_enter Try.func19, Try.ntmps19
  go_wp2_with fail
  refine (HC.out _).mono ?_
  rintro e w2 ⟨rfl, hB2⟩
  go_wp2
  go_returns
  exact ⟨rfl, hB.trans (hB2.mono hB.size)⟩

theorem sh_at {w W : World} {f s t b : Int} (h : Below (w.alloc (SHO f s t b)).heap.size (w.alloc (SHO f s t b)) W) : W.heap[w.heap.size]? = some (SHO f s t b) := blk_on (blk_new w (SHO f s t b)) h

set_option maxHeartbeats 1000000 in
theorem At_out (o l p : Nat) (i : Int) (w : World) (ho : o ≤ 15) (hl : l ≤ 16 - o) (hp : p < 2 ^ l) (hi : i < 0 ∨ (cnt o l : Int) ≤ i) :
    Calls Try.prog 18 #[PS o l p, .int .i64 i] w fun e w' => e = .returned (UE 0 5) ∧ Below w.heap.size w w' := by
  obtain ⟨hs, g1, g2, g3⟩ := setIn ho hl hp
  have HC : Hid _ := fun W => Check_any o l p W g1 g2 g3
  rw [if_pos hs] at HC
  have HS : Hid _ := fun W => shapeOf_calls o l p W ho hl hp
  have HN : Hid _ := fun W => count_calls (fr o l p) (sz o l) (st o) (bk o) W (sz_le o l).2 (bk_le o ho).2
  have hB := bA w (PSO o l p)
  clear hs g1 g2 g3
  have e : bk o * sz o l = cnt o l := rfl
  rw [e] at HN
  clear e
  generalize fr o l p = f at *
  generalize cnt o l = c at *
  generalize sz o l = s at *
  generalize st o = t at *
  generalize bk o = b at *
  by_cases h0 : i < 0
  · go_enter Try.func18, Try.ntmps18
    go_wp2_with fail
    refine (HC.out _).mono ?_
    rintro e w2 ⟨rfl, hB2⟩
    obtain ⟨c0, c1, c2⟩ := ps_c (ps_at hB2)
    go_wp2_with fail
    refine (HS.out _).mono ?_
    rintro e w3 ⟨rfl, hB3⟩
    go_wp2
    go_returns
    exact ⟨rfl, ((hB.trans (hB2.mono hB.size)).trans (hB3.mono (Nat.le_trans hB.size hB2.size))).trans ((bA w3 _).mono (Nat.le_trans (Nat.le_trans hB.size hB2.size) hB3.size))⟩
  · have h1 : (c : Int) ≤ i := by omega
    clear hi
    go_enter Try.func18, Try.ntmps18
    go_wp2_with fail
    refine (HC.out _).mono ?_
    rintro e w2 ⟨rfl, hB2⟩
    obtain ⟨c0, c1, c2⟩ := ps_c (ps_at hB2)
    go_wp2_with fail
    refine (HS.out _).mono ?_
    rintro e w3 ⟨rfl, hB3⟩
    have hB13 := (hB.trans (hB2.mono hB.size)).trans (hB3.mono (Nat.le_trans hB.size hB2.size))
    go_wp2_with fail
    refine (HN.out _).mono ?_
    rintro e w4 ⟨rfl, hB4⟩
    have hB14 := (hB13.trans ((bA w3 _).mono hB13.size)).trans (hB4.mono (Nat.le_trans hB13.size (bA w3 _).size))
    go_wp2
    go_returns
    exact ⟨rfl, hB14⟩

set_option maxHeartbeats 1000000 in
theorem At_in (o l p i : Nat) (w : World) (ho : o ≤ 15) (hl : l ≤ 16 - o) (hp : p < 2 ^ l) (hi : i < cnt o l) :
    Calls Try.prog 18 #[PS o l p, .int .i64 i] w fun e w' => e = .returned (UE (atN o l p i : Nat) 0) ∧ Below w.heap.size w w' := by
  obtain ⟨hs, g1, g2, g3⟩ := setIn ho hl hp
  have HC : Hid _ := fun W => Check_any o l p W g1 g2 g3
  rw [if_pos hs] at HC
  have HS : Hid _ := fun W => shapeOf_calls o l p W ho hl hp
  have HN : Hid _ := fun W => count_calls (fr o l p) (sz o l) (st o) (bk o) W (sz_le o l).2 (bk_le o ho).2
  have HA : Hid _ := fun W => at_calls (fr o l p) (sz o l) (st o) (bk o) i W (sz_le o l) (st_le o).2 (Nat.le_trans (Nat.le_of_lt hi) (cnt_le o l ho hl)) (fr_le o l p ho hl hp)
  have e : (fr o l p + i / sz o l * st o + i % sz o l) % 65536 = atN o l p i := Nat.mod_eq_of_lt (at_ok o l p i ho hl hp hi).1
  rw [e] at HA
  have hB := bA w (PSO o l p)
  clear hs g1 g2 g3 e
  have e : bk o * sz o l = cnt o l := rfl
  rw [e] at HN
  clear e
  generalize atN o l p i = R at *
  generalize fr o l p = f at *
  generalize cnt o l = c at *
  generalize sz o l = s at *
  generalize st o = t at *
  generalize bk o = b at *
  go_enter Try.func18, Try.ntmps18
  go_wp2_with fail
  refine (HC.out _).mono ?_
  rintro e w2 ⟨rfl, hB2⟩
  obtain ⟨c0, c1, c2⟩ := ps_c (ps_at hB2)
  go_wp2_with fail
  refine (HS.out _).mono ?_
  rintro e w3 ⟨rfl, hB3⟩
  have hB13 := (hB.trans (hB2.mono hB.size)).trans (hB3.mono (Nat.le_trans hB.size hB2.size))
  go_wp2_with fail
  refine (HN.out _).mono ?_
  rintro e w4 ⟨rfl, hB4⟩
  have hB14 := (hB13.trans ((bA w3 _).mono hB13.size)).trans (hB4.mono (Nat.le_trans hB13.size (bA w3 _).size))
  obtain ⟨e0, e1, e2, e3⟩ := cell4_of (sh_at hB4)
  clear c0 c1 c2
  go_wp2_with fail
  refine (HA.out _).mono ?_
  rintro e w5 ⟨rfl, hB5⟩
  go_wp2
  go_returns
  exact ⟨rfl, hB14.trans (hB5.mono hB14.size)⟩

theorem gshl (g k : Nat) : ((g : Int) * 2 ^ k) = ((g * 2 ^ k : Nat) : Int) := by rw [Int.natCast_mul, Int.natCast_pow]; rfl

set_option maxHeartbeats 1000000 in
theorem RAt_out (o l p : Nat) (i : Int) (w : World) (ho : o ≤ 15) (hl : l ≤ 16 - o) (hp : p < 2 ^ l) (hi : i < 0 ∨ (cnt o l : Int) ≤ i) :
    Calls Try.prog 19 #[PS o l p, .int .i64 i] w fun e w' => e = .returned (UE 0 5) ∧ Below w.heap.size w w' := by
  have HC : Hid _ := fun W => RCount_yes o l p W ho hl hp
  have hB := bA w (PSO o l p)
  generalize cnt o l = c at *
  by_cases h0 : i < 0
  · go_enter Try.func19, Try.ntmps19
    go_wp2_with fail
    refine (HC.out _).mono ?_
    rintro e w2 ⟨rfl, hB2⟩
    go_wp2
    go_returns
    exact ⟨rfl, hB.trans (hB2.mono hB.size)⟩
  · have h1 : (c : Int) ≤ i := by omega
    clear hi
    go_enter Try.func19, Try.ntmps19
    go_wp2_with fail
    refine (HC.out _).mono ?_
    rintro e w2 ⟨rfl, hB2⟩
    go_wp2
    go_returns
    exact ⟨rfl, hB.trans (hB2.mono hB.size)⟩

set_option maxHeartbeats 1000000 in
theorem RAt_in (o l p i : Nat) (w : World) (ho : o ≤ 15) (hl : l ≤ 16 - o) (hp : p < 2 ^ l) (hi : i < cnt o l) :
    Calls Try.prog 19 #[PS o l p, .int .i64 i] w fun e w' => e = .returned (UE (atN o l p i : Nat) 0) ∧ Below w.heap.size w w' := by
  have HC : Hid _ := fun W => RCount_yes o l p W ho hl hp
  have HR : Hid _ := fun W => rest_calls o l p W ho hl
  have hB := bA w (PSO o l p)
  have hi2 : i ≤ 65536 := Nat.le_trans (Nat.le_of_lt hi) (cnt_le o l ho hl)
  have hs := sz_le o l
  have ht := st_le o
  have hpl := pow16 (l := l) (by omega)
  have h1 : (i : Int).tdiv (sz o l : Nat) = ((i / sz o l : Nat) : Int) := by rw [← Int.ofNat_tdiv]
  have h2 : (i : Int).tmod (sz o l : Nat) = ((i % sz o l : Nat) : Int) := by rw [← Int.ofNat_tmod]
  have h3 : (((i / sz o l : Nat) : Int) + 1) * 2 ^ (16 - o) = (((i / sz o l + 1) * st o : Nat) : Int) := gshl (i / sz o l + 1) (16 - o)
  have h3b : ((i / sz o l : Nat) : Int) * 2 ^ (16 - o) = (((i / sz o l) * st o : Nat) : Int) := gshl _ _
  have h4 : (i / sz o l + 1) * st o ≤ 65537 * 65536 := Nat.mul_le_mul (by have := Nat.div_le_self i (sz o l); omega) ht.2
  have h4b : (i / sz o l) * st o ≤ 65537 * 65536 := Nat.mul_le_mul (by have := Nat.div_le_self i (sz o l); omega) ht.2
  have h5 : (p : Int) * (sz o l : Nat) = ((p * sz o l : Nat) : Int) := by rw [Int.natCast_mul]
  have h6 : p * sz o l ≤ 65536 * 65536 := Nat.mul_le_mul (by omega) hs.2
  have h7 : i % sz o l ≤ 65536 := Nat.le_trans (Nat.le_of_lt (Nat.mod_lt _ hs.1)) hs.2
  have h8 : i / sz o l ≤ 65536 := Nat.le_trans (Nat.div_le_self _ _) hi2
  have h9 : (((sz o l : Nat) : Int) == 0) = false := beq_eq_false_iff_ne.2 (by omega)
  have hA := at_form o l p i
  have hA2 := (at_ok o l p i ho hl hp hi).1
  by_cases h0 : 0 < o
  · have HW : Hid _ := wrap_u16 ((i / sz o l + 1) * st o + p * sz o l + i % sz o l)
    have e : ((i / sz o l + 1) * st o + p * sz o l + i % sz o l) % 65536 = atN o l p i := by
      rw [hA] at hA2 ⊢
      unfold one at hA2 ⊢
      rw [if_pos h0] at hA2 ⊢
      rw [Nat.add_assoc]
      exact Nat.mod_eq_of_lt hA2
    rw [e] at HW
    clear e hA hA2 h3b h4b
    generalize (i / sz o l + 1) * st o = g at *
    generalize atN o l p i = R at *
    generalize cnt o l = c at *
    generalize p * sz o l = q at *
    generalize i / sz o l = d at *
    generalize i % sz o l = r at *
    generalize sz o l = s at *
    go_enter Try.func19, Try.ntmps19
    go_wp2_with fail
    refine (HC.out _).mono ?_
    rintro e w2 ⟨rfl, hB2⟩
    obtain ⟨c0, c1, c2⟩ := ps_c (ps_at hB2)
    go_wp2_with fail
    refine (HR.out _).mono ?_
    rintro e w3 ⟨rfl, hB3⟩
    obtain ⟨c0, c1, c2⟩ := ps_c (ps_at (hB2.trans (hB3.mono hB2.size)))
    go_wp2
    go_quiet (fail)
    go_wp2
    go_returns
    exact ⟨by rw [← HW.out]; rfl, bD ((hB.trans (hB2.mono hB.size)).trans (hB3.mono (Nat.le_trans hB.size hB2.size))) _⟩
  · have HW : Hid _ := wrap_u16 ((i / sz o l) * st o + p * sz o l + i % sz o l)
    have e : ((i / sz o l) * st o + p * sz o l + i % sz o l) % 65536 = atN o l p i := by
      rw [hA] at hA2 ⊢
      unfold one at hA2 ⊢
      rw [if_neg h0] at hA2 ⊢
      rw [Nat.add_assoc]
      exact Nat.mod_eq_of_lt hA2
    rw [e] at HW
    clear e hA hA2 h3 h4
    generalize (i / sz o l) * st o = g at *
    generalize atN o l p i = R at *
    generalize cnt o l = c at *
    generalize p * sz o l = q at *
    generalize i / sz o l = d at *
    generalize i % sz o l = r at *
    generalize sz o l = s at *
    go_enter Try.func19, Try.ntmps19
    go_wp2_with fail
    refine (HC.out _).mono ?_
    rintro e w2 ⟨rfl, hB2⟩
    obtain ⟨c0, c1, c2⟩ := ps_c (ps_at hB2)
    go_wp2_with fail
    refine (HR.out _).mono ?_
    rintro e w3 ⟨rfl, hB3⟩
    obtain ⟨c0, c1, c2⟩ := ps_c (ps_at (hB2.trans (hB3.mono hB2.size)))
    go_wp2
    go_quiet (fail)
    go_wp2
    go_returns
    exact ⟨by rw [← HW.out]; rfl, bD ((hB.trans (hB2.mono hB.size)).trans (hB3.mono (Nat.le_trans hB.size hB2.size))) _⟩

end Go.Proofs.Ytmcofmdogopfjaa
