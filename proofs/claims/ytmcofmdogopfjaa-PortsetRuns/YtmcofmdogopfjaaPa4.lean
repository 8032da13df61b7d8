/-
  Port sets: upTo, Count, At, Index of both sides.
-/
import Derived.Test.YtmcofmdogopfjaaPa3
namespace Go.Proofs.Ytmcofmdogopfjaa
open Go Go.RowKit
set_option linter.unusedVariables false
set_option linter.unusedSimpArgs false

abbrev PSO (o l p : Int) : Obj := .cells #[.int .i64 o, .int .i64 l, .int .u16 p] 24
theorem ps_at {w W : World} {o l p : Int} (h : Below (w.alloc (PSO o l p)).heap.size (w.alloc (PSO o l p)) W) : W.heap[w.heap.size]? = some (PSO o l p) := blk_on (blk_new w (PSO o l p)) h
theorem ps_c {W : World} {b : Nat} {o l p : Int} (h : W.heap[b]? = some (PSO o l p)) : W.cell? ⟨b, 0, none⟩ = some (.int .i64 o) ∧ W.cell? ⟨b, 1, none⟩ = some (.int .i64 l) ∧ W.cell? ⟨b, 2, none⟩ = some (.int .u16 p) := by simp [World.cell?, h]
theorem ps_hi {W : World} {b : Nat} {o l p : Int} (h : W.heap[b]? = some (PSO o l p)) : (∀ x : Hi W, x.W.cell? ⟨b, 0, none⟩ = some (.int .i64 o)) ∧ (∀ x : Hi W, x.W.cell? ⟨b, 1, none⟩ = some (.int .i64 l)) ∧ (∀ x : Hi W, x.W.cell? ⟨b, 2, none⟩ = some (.int .u16 p)) :=
  ⟨fun x => (ps_c (Hi.blk h x)).1, fun x => (ps_c (Hi.blk h x)).2.1, fun x => (ps_c (Hi.blk h x)).2.2⟩
abbrev SHO (f s t b : Int) : Obj := .cells #[.int .i64 f, .int .i64 s, .int .i64 t, .int .i64 b] 62
theorem setIn {o l p : Nat} (ho : o ≤ 15) (hl : l ≤ 16 - o) (hp : p < 2 ^ l) : setOk o l p ∧ In64 o ∧ In64 l ∧ (0 : Int) ≤ p ∧ (p : Int) < 65536 := by
  have hp2 := pow16 (l := l) (by omega)
  exact ⟨⟨⟨by omega, by omega, by omega, by omega⟩, by rw [Int.toNat_natCast]; exact_mod_cast hp⟩, ⟨by omega, by omega⟩, ⟨by omega, by omega⟩, by omega, by omega⟩
theorem bk_le (o : Nat) (ho : o ≤ 15) : 1 ≤ bk o ∧ bk o ≤ 65536 := by
  have h1 := pow16 (l := o) (by omega)
  have h2 := Nat.two_pow_pos o
  unfold bk one
  split
  · rename_i h
    have h3 : 2 ^ 1 ≤ 2 ^ o := Nat.pow_le_pow_right (by omega) h
    omega
  · omega
theorem fr_le (o l p : Nat) (ho : o ≤ 15) (hl : l ≤ 16 - o) (hp : p < 2 ^ l) : fr o l p ≤ 65536 * 65536 + 65536 := by
  have h1 := sz_le o l
  have h2 := st_le o
  have h3 := pow16 (l := l) (by omega)
  have h4 : p * sz o l ≤ 65536 * 65536 := Nat.mul_le_mul (by omega) h1.2
  unfold fr one
  split <;> omega

def upN (f s t n : Nat) : Nat := if n < f then 0 else (n - f) / t * s + min ((n - f) % t + 1) s

set_option maxHeartbeats 1000000 in
theorem upTo_calls (f s t b n : Nat) (w : World) (hs : 1 ≤ s ∧ s ≤ 65536) (ht : 1 ≤ t ∧ t ≤ 65536) (hf : f ≤ 65536 * 65536 + 65536) (hn : n < 65536) :
    Calls Try.prog 33 #[SH f s t b, .int .u16 n] w fun e w' => e = .returned (.int .i64 (upN f s t n : Nat)) ∧ Below w.heap.size w w' := by
  by_cases hlt : n < f
  · have e : upN f s t n = 0 := if_pos hlt
    rw [e]
    have hlt2 : (n : Int) - (f : Int) < 0 := by omega
    clear e
    go_enter Try.func33, Try.ntmps33
    go_wp2
    all_goals first
      | (exfalso; omega)
      | (go_ret; exact ⟨rfl, bA w _⟩)
  · obtain ⟨d, hd⟩ : ∃ d : Nat, d = n - f := ⟨_, rfl⟩
    have hd2 : (n : Int) - (f : Int) = (d : Int) := by omega
    have hd3 : d < 65536 := by omega
    have e : upN f s t n = d / t * s + min (d % t + 1) s := by rw [hd]; exact if_neg hlt
    have h1 : (d : Int).tdiv (t : Int) = ((d / t : Nat) : Int) := by rw [← Int.ofNat_tdiv]
    have h2 : (d : Int).tmod (t : Int) = ((d % t : Nat) : Int) := by rw [← Int.ofNat_tmod]
    have h3 : ((d / t : Nat) : Int) * (s : Int) = ((d / t * s : Nat) : Int) := by rw [Int.natCast_mul]
    have h6 : d / t ≤ 65536 := Nat.le_trans (Nat.div_le_self _ _) (by omega)
    have h4 : d / t * s ≤ 65536 * 65536 := Nat.mul_le_mul h6 hs.2
    have h5 : d % t ≤ 65536 := Nat.le_trans (Nat.le_of_lt (Nat.mod_lt _ ht.1)) ht.2
    have h7 : ((t : Int) == 0) = false := beq_eq_false_iff_ne.2 (by omega)
    rw [e]
    clear e hd
    generalize d / t * s = q at *
    generalize d / t = d1 at *
    generalize d % t = r at *
    by_cases hm : r + 1 ≤ s
    · rw [Nat.min_eq_left hm]
      go_enter Try.func33, Try.ntmps33
      go_wp2
      go_region
      all_goals go_wp2
      go_ret
      exact ⟨congrArg (fun x : Int => Ending.returned (.int .i64 x)) (show (q : Int) + (r + 1) = ((q + (r + 1) : Nat) : Int) by omega), (bA w _).drew⟩
    · rw [Nat.min_eq_right (by omega)]
      go_enter Try.func33, Try.ntmps33
      go_wp2
      go_region
      all_goals go_wp2
      go_ret
      exact ⟨congrArg (fun x : Int => Ending.returned (.int .i64 x)) (show (q : Int) + s = ((q + s : Nat) : Int) by omega), (bA w _).drew⟩

set_option maxHeartbeats 1000000 in
theorem rest_calls (o l p : Nat) (w : World) (ho : o ≤ 15) (hl : l ≤ 16 - o) :
    Calls Try.prog 31 #[PS o l p] w fun e w' => e = .returned (.int .i64 (sz o l : Nat)) ∧ Below w.heap.size w w' := by
  have HE : Hid ((2 : Int) ^ (16 - o - l) = (sz o l : Nat)) := cast_pow _
  have k3 := pow_le16 (l := 16 - o - l) (by omega)
  have k4 := pow_ge1 (16 - o - l)
  go_enter Try.func31, Try.ntmps31
  go_wp2
  go_ret
  exact ⟨congrArg (fun x : Int => Ending.returned (.int .i64 x)) HE.out, bA w _⟩

abbrev IE (n e : Int) : Value := .tuple #[.int .i64 n, .int .i64 e]
abbrev UE (n e : Int) : Value := .tuple #[.int .u16 n, .int .i64 e]

set_option maxHeartbeats 1000000 in
theorem Count_yes (o l p : Nat) (w : World) (ho : o ≤ 15) (hl : l ≤ 16 - o) (hp : p < 2 ^ l) :
    Calls Try.prog 16 #[PS o l p] w fun e w' => e = .returned (IE (cnt o l : Nat) 0) ∧ Below w.heap.size w w' := by
  obtain ⟨hs, g1, g2, g3⟩ := setIn ho hl hp
  have HC : Hid _ := fun W => Check_any o l p W g1 g2 g3
  rw [if_pos hs] at HC
  have HS : Hid _ := fun W => shapeOf_calls o l p W ho hl hp
  have HN : Hid _ := fun W => count_calls (fr o l p) (sz o l) (st o) (bk o) W (sz_le o l).2 (bk_le o ho).2
  have hB := bA w (PSO o l p)
  clear hs g1 g2 g3
  have e : bk o * sz o l = cnt o l := rfl
  rw [e] at HN
  clear e
  generalize fr o l p = f at *
  generalize cnt o l = c at *
  generalize sz o l = s at *
  generalize st o = t at *
  generalize bk o = b at *
  go_enter Try.func16, Try.ntmps16
  go_wp2_with fail
  refine (HC.out _).mono ?_
  rintro e w2 ⟨rfl, hB2⟩
  obtain ⟨c0, c1, c2⟩ := ps_c (ps_at hB2)
  go_wp2_with fail
  refine (HS.out _).mono ?_
  rintro e w3 ⟨rfl, hB3⟩
  go_wp2_with fail
  refine (HN.out _).mono ?_
  rintro e w4 ⟨rfl, hB4⟩
  go_wp2
  go_returns
  exact ⟨rfl, ((hB.trans (hB2.mono hB.size)).trans (hB3.mono (Nat.le_trans hB.size hB2.size))).trans (hB4.mono (Nat.le_trans (Nat.le_trans hB.size hB2.size) hB3.size))⟩

set_option maxHeartbeats 1000000 in
theorem Count_no (o l p : Int) (w : World) (ho : In64 o) (hl : In64 l) (hp : 0 ≤ p ∧ p < 65536) (hs : ¬ setOk o l p) :
    Calls Try.prog 16 #[PS o l p] w fun e w' => e = .returned (IE 0 90) ∧ Below w.heap.size w w' := by
  have HC : Hid _ := fun W => Check_any o l p W ho hl hp
  rw [if_neg hs] at HC
  have hB := bA w (PSO o l p)
  go_enter Try.func16, Try.ntmps16
  go_wp2_with fail
  refine (HC.out _).mono ?_
  rintro e w2 ⟨rfl, hB2⟩
  go_wp2
  go_returns
  exact ⟨rfl, hB.trans (hB2.mono hB.size)⟩

set_option maxHeartbeats 1000000 in
theorem RCount_no (o l p : Int) (w : World) (ho : In64 o) (hl : In64 l) (hp : 0 ≤ p ∧ p < 65536) (hs : ¬ setOk o l p) :
    Calls Try.prog 17 #[PS o l p] w fun e w' => e = .returned (IE 0 90) ∧ Below w.heap.size w w' := by
  have HC : Hid _ := fun W => Right_any o l p W ho hl hp
  rw [decide_eq_false hs] at HC
  have hB := bA w (PSO o l p)
  go_enter Try.func17, Try.ntmps17
  go_wp2_with fail
  refine (HC.out _).mono ?_
  rintro e w2 ⟨rfl, hB2⟩
  go_wp2
  go_returns
  exact ⟨rfl, hB.trans (hB2.mono hB.size)⟩

set_option maxHeartbeats 1000000 in
theorem RCount_yes (o l p : Nat) (w : World) (ho : o ≤ 15) (hl : l ≤ 16 - o) (hp : p < 2 ^ l) :
    Calls Try.prog 17 #[PS o l p] w fun e w' => e = .returned (IE (cnt o l : Nat) 0) ∧ Below w.heap.size w w' := by
  obtain ⟨hs, g1, g2, g3⟩ := setIn ho hl hp
  have HC : Hid _ := fun W => Right_any o l p W g1 g2 g3
  rw [decide_eq_true hs] at HC
  have HR : Hid _ := fun W => rest_calls o l p W ho hl
  have hB := bA w (PSO o l p)
  have k1 := pow_le16 (l := o) (by omega)
  have k2 := pow_ge1 o
  have s2 := sz_le o l
  by_cases h0 : o = 0
  · have e : cnt o l = sz o l := by unfold cnt bk one; subst h0; simp
    have h1 : ((o : Int) == 0) = true := by rw [h0]; rfl
    rw [e]
    clear e h0 hs g1 g2 g3
    generalize sz o l = s at *
    go_enter Try.func17, Try.ntmps17
    go_wp2_with fail
    refine (HC.out _).mono ?_
    rintro e w2 ⟨rfl, hB2⟩
    obtain ⟨c0, c1, c2⟩ := ps_c (ps_at hB2)
    go_wp2_with fail
    refine (HR.out _).mono ?_
    rintro e w3 ⟨rfl, hB3⟩
    go_wp2
    go_returns
    exact ⟨rfl, (hB.trans (hB2.mono hB.size)).trans (hB3.mono (Nat.le_trans hB.size hB2.size))⟩
  · have e : cnt o l = (2 ^ o - 1) * sz o l := by unfold cnt bk one; rw [if_pos (by omega)]
    have h1 : ((o : Int) == 0) = false := beq_eq_false_iff_ne.2 (by omega)
    have h3 := Nat.two_pow_pos o
    have h2 : ((2 : Int) ^ o - 1) * (sz o l : Nat) = (cnt o l : Nat) := by
      rw [e, cast_pow, Int.natCast_mul]
      congr 1
      omega
    have h4 : cnt o l ≤ 65536 * 65536 := Nat.mul_le_mul (bk_le o ho).2 s2.2
    clear e h0 hs g1 g2 g3 h3
    generalize cnt o l = c at *
    generalize sz o l = s at *
    go_enter Try.func17, Try.ntmps17
    go_wp2_with fail
    refine (HC.out _).mono ?_
    rintro e w2 ⟨rfl, hB2⟩
    have hBB := hB.trans (hB2.mono hB.size)
    obtain ⟨c0, c1, c2⟩ := ps_c (ps_at hB2)
    obtain ⟨d0, d1, d2⟩ := ps_hi (ps_at hB2)
    go_wp2_with fail
    refine wp_region_hi (by kernel_rfl) (by kernel_rfl) ?_
    repeat (go_big_quiet_step (first | (go_at_call 31; exact Hi.calls (HR.out _))))
    refine wpQuiet_nil ?_
    intro _ hw
    obtain ⟨y, rfl⟩ := hw
    go_wp2
    go_show
    go_returns
    exact ⟨rfl, hBB.trans (y.below.mono hBB.size)⟩

end Go.Proofs.Ytmcofmdogopfjaa
