/-
  Rows of bytes in memory: what a slice of bytes holds, its text, and cells that a call turns.
  The contracts of package field's small helpers and of the document's: one bit, whether bits are there, whether a number is too wide.
  The contracts of Get, of the program and of the document: both are the number of the bits.
  The contract of write: bits of a row of one's own are set.
-/
import Derived.Test.YtaebknkjhhcneaaGreatDoorFold04
import Derived.Test.YtaebknkjhhcneaaGreatDoorProg
import Derived.WalkKit
import Derived.Lib.OthersKept
import Derived.Below
import Derived.Deep.Draws
import Derived.Deep.AppendSrc
import Derived.Laws.BytesArg
import Derived.Laws.AppendOwn
import Derived.Laws.BitsAllLaws
import Derived.OpenShut
namespace Go.Proofs.YtaebknkjhhcneaaGreatDoor.Fld
set_option linter.unusedVariables false
set_option linter.unusedSimpArgs false
open Go Go.RowKit
attribute [local go_sem] Oper.semAt_some

/-- The slice value v holds the bytes zs, in a block below n₀. -/
structure BytesAt (n₀ : Nat) (W : World) (v : Value) (zs : List Int) : Prop where
  fit : FitB zs
  len : zs.length ≤ 140737488351232
  val : ∃ a cap, v = .slice a zs.length cap ∧ (zs.length = 0 ∨ ∃ b off, a = some ⟨b, off, none⟩ ∧ b < n₀ ∧ ∀ j, j < zs.length → W.cell? ⟨b, off + j, none⟩ = some (.int .u8 (zs[j]?.getD 0)))

theorem BytesAt.below {n₀ : Nat} {A B : World} {v : Value} {zs : List Int} (h : BytesAt n₀ A v zs) (hb : Below n₀ A B) : BytesAt n₀ B v zs := by
  obtain ⟨h1, h2, a, cap, hv, hz⟩ := h
  refine ⟨h1, h2, a, cap, hv, hz.imp id ?_⟩
  rintro ⟨b, off, rfl, hlt, hc⟩
  exact ⟨b, off, rfl, hlt, fun j hj => (hb.cell (p := ⟨b, off + j, none⟩) hlt).trans (hc j hj)⟩
theorem BytesAt.later {A B : World} {v : Value} {zs : List Int} (h : BytesAt A.heap.size A v zs) (hb : Below A.heap.size A B) : BytesAt B.heap.size B v zs := by
  obtain ⟨h1, h2, a, cap, hv, hz⟩ := h.below hb
  refine ⟨h1, h2, a, cap, hv, hz.imp id ?_⟩
  rintro ⟨b, off, rfl, hlt, hc⟩
  exact ⟨b, off, rfl, by have := hb.size; omega, hc⟩

/-- A row of bytes of one's own: it begins its block, which lies from base on and is open. -/
structure OwnB (base : Nat) (w : World) (v : Value) (zs : List Int) : Prop where
  fit : FitB zs
  len : zs.length ≤ 140737488351232
  val : ∃ a cap, v = .slice a zs.length cap ∧ (zs.length = 0 ∨ ∃ g, a = some ⟨g, 0, none⟩ ∧ base ≤ g ∧ (∃ cs, w.heap[g]? = some (.cells cs 5 (0, 0))) ∧ ∀ j, j < zs.length → w.cell? ⟨g, j, none⟩ = some (.int .u8 (zs[j]?.getD 0)))

theorem OwnB.bytes {base : Nat} {w : World} {v : Value} {zs : List Int} (h : OwnB base w v zs) : BytesAt w.heap.size w v zs := by
  obtain ⟨h1, h2, a, cap, hv, hz⟩ := h
  refine ⟨h1, h2, a, cap, hv, hz.imp id ?_⟩
  rintro ⟨g, rfl, hb, ⟨cs, hg⟩, hc⟩
  exact ⟨g, 0, rfl, (Array.getElem?_eq_some_iff.1 hg).1, fun j hj => by rw [Nat.zero_add]; exact hc j hj⟩

/-- The text of a slice of bytes. -/
theorem BytesAt.text {n₀ : Nat} {w : World} {v : Value} {zs : List Int} (h : BytesAt n₀ w v zs) : (convert 127 9 v).run Tryz.prog w = .ok (.string (strOfNums zs)) w := by
  obtain ⟨_, _, a, cap, rfl, hz⟩ := h
  rcases hz with hz | ⟨b, off, rfl, _, hc⟩
  · obtain rfl : zs = [] := List.length_eq_zero_iff.1 hz
    cases a with
    | none => exact run_convert_bytes_nil w _ _ Tryz.underlying127 Tryz.underlying5 _ _ _ Tryz.underlying9
    | some x =>
      rw [run_convert_bytes_string w _ _ _ _ _ _ Tryz.underlying127 Tryz.underlying5 Tryz.underlying9]
      have := run_loadCells_list (P := Tryz.prog) w x [] (fun j v hj => by simp at hj)
      exact run_bytesToString w x 0 cap [] (by simpa using this)
  · exact run_convert_bytes_arg w _ _ Tryz.underlying127 Tryz.underlying5 b off _ cap zs rfl (fun i hi => by simpa [List.getD] using hc i hi) _ Tryz.underlying9

/-- What an argument's reading says of a slice of bytes. -/
def IsRowB (w : World) (a : Option Addr) (len cap : Nat) (zs : List Int) : Prop :=
  (a = none ∧ len = 0 ∧ cap = 0 ∧ zs = []) ∨
  ∃ x, a = some x ∧ len ≤ cap ∧ cap ≤ maxLen ∧ zs.length = cap ∧ (∀ i, i < zs.length → w.cell? (x.add i) = some (.int .u8 (zs.getD i 0))) ∧ ∀ n ∈ zs, (Lit.int .u8 n).wf = true

theorem IsRowB.bounds {w : World} {a : Option Addr} {len cap : Nat} {zs : List Int} (h : IsRowB w a len cap zs) : (a = none → len = 0) ∧ len ≤ cap ∧ cap ≤ maxLen := by
  rcases h with ⟨rfl, rfl, rfl, _⟩ | ⟨x, rfl, h1, h2, _⟩
  · exact ⟨fun _ => rfl, Nat.le_refl _, Nat.zero_le _⟩
  · exact ⟨fun h => (by cases h), h1, h2⟩

/-- Its first n bytes. -/
theorem IsRowB.bytes {w : World} {a : Option Addr} {len cap : Nat} {zs : List Int} (h : IsRowB w a len cap zs) (n : Nat) (hn : n ≤ len) (hs : n ≤ 140737488351232) : BytesAt w.heap.size w (.slice a n cap) (zs.take n) := by
  rcases h with ⟨rfl, rfl, rfl, rfl⟩ | ⟨x, rfl, h1, h2, h3, hc, hwf⟩
  · obtain rfl : n = 0 := by omega
    exact ⟨fun z hz => (by simp at hz), by simp, none, 0, rfl, .inl rfl⟩
  · have hl : (zs.take n).length = n := by simp; omega
    refine ⟨fun z hz => ?_, by omega, some x, cap, by rw [hl], ?_⟩
    · have := bounds_u8 (hwf z (List.mem_of_mem_take hz))
      omega
    · by_cases h0 : n = 0
      · exact .inl (by omega)
      · obtain ⟨b, off, rfl, hc'⟩ := ints_at hc (by omega)
        refine .inr ⟨b, off, rfl, ?_, fun j hj => ?_⟩
        · have hc0 := hc' 0 (by omega)
          simp only [World.cell?] at hc0
          cases hb : w.heap[b]? with
          | none => rw [hb] at hc0; simp at hc0
          | some o => exact (Array.getElem?_eq_some_iff.1 hb).1
        · rw [hc' j (by omega), List.getElem?_take_of_lt (by omega)]
          simp [List.getD]

theorem ret_bool {a b : Bool} (h : a = b) : Ending.returned (.bool a) = .returned (.bool b) := by rw [h]
theorem ret_int {k : IntKind} {a b : Int} (h : a = b) : Ending.returned (.int k a) = .returned (.int k b) := by rw [h]

theorem info_u8 : (Tryz.prog.info? 5).map (fun i => (i.zero, i.size, i.bytes)) = some (some (.int .u8 0), 1, 1) := by kernel_rfl

/-- One byte shifted and masked is its bit. -/
theorem bit_u8 (z : Int) (k : Nat) (h0 : 0 ≤ z) (h1 : z < 256) : bits .and .u8 (z / 2 ^ k) 1 = ((bk z.toNat k : Nat) : Int) := by
  have e : z / 2 ^ k = ((z.toNat / 2 ^ k : Nat) : Int) := by
    obtain ⟨n, rfl⟩ := Int.eq_ofNat_of_zero_le h0
    simp
  have hlt : z.toNat / 2 ^ k < 256 := Nat.lt_of_le_of_lt (Nat.div_le_self _ _) (by omega)
  have h := u8_and_nat (z.toNat / 2 ^ k) 1 hlt (by decide)
  rw [e]
  rw [show ((1 : Nat) : Int) = 1 from rfl] at h
  rw [h, Nat.and_one_is_mod]
  rfl
theorem bit_u64 (z : Int) (k : Nat) (h0 : 0 ≤ z) (h1 : z < 18446744073709551616) : bits .and .u64 (z / 2 ^ k) 1 = ((bk z.toNat k : Nat) : Int) := by
  have e : z / 2 ^ k = ((z.toNat / 2 ^ k : Nat) : Int) := by
    obtain ⟨n, rfl⟩ := Int.eq_ofNat_of_zero_le h0
    simp
  have hlt : z.toNat / 2 ^ k < 18446744073709551616 := Nat.lt_of_le_of_lt (Nat.div_le_self _ _) (by omega)
  have h := u64_and_nat (z.toNat / 2 ^ k) 1 hlt (by decide)
  rw [e]
  rw [show ((1 : Nat) : Int) = 1 from rfl] at h
  rw [h, Nat.and_one_is_mod]
  rfl

def thereB (len : Nat) (at' n : Int) : Bool := decide (0 ≤ at') && (decide (0 ≤ n) && decide (at' + n ≤ 8 * len))

set_option maxHeartbeats 400000 in
theorem there_calls (a : Option Addr) (len cap : Nat) (at' n : Int) (w : World) (hl : len ≤ 140737488351232) (h0 : -9223372036854775808 ≤ at' ∧ at' ≤ 9223372036854775807) (h1 : -9223372036854775808 ≤ n ∧ n ≤ 9223372036854775807) :
    Calls Tryz.prog 170 #[.slice a len cap, .int .i64 at', .int .i64 n] w fun e w' => e = .returned (.bool (thereB len at' n)) ∧ w' = w := by
  cases c1 : decide (0 ≤ at') <;> cases c2 : decide (0 ≤ n) <;> cases c3 : decide (at' ≤ 8 * (len : Int) - n)
  all_goals
    simp only [decide_eq_true_eq, decide_eq_false_iff_not] at c1 c2 c3
    go_enter Tryz.func170, Tryz.ntmps170
    go_wp2
    go_ret
    refine ⟨ret_bool ?_, rfl⟩
    unfold thereB
    first
      | (refine Eq.trans ?_ (Eq.refl true); symm; simp; omega)
      | (symm; simp; omega)
      | (rw [Bool.eq_iff_iff]; simp; omega)

end Go.Proofs.YtaebknkjhhcneaaGreatDoor.Fld

namespace Go.Proofs.YtaebknkjhhcneaaGreatDoor.Fld
set_option linter.unusedVariables false
set_option linter.unusedSimpArgs false
open Go Go.RowKit
attribute [local go_sem] Oper.semAt_some

set_option maxHeartbeats 400000 in
theorem bit_calls (v : Value) (zs : List Int) (p : Nat) (n₀ : Nat) (w : World) (h : BytesAt n₀ w v zs) (hp : p < 8 * zs.length) :
    Calls Tryz.prog 171 #[v, .int .i64 p] w fun e w' => e = .returned (.int .u8 (bitN zs p)) ∧ w' = w := by
  obtain ⟨hf, hl, a, cap, rfl, hz⟩ := h
  rcases hz with hz | ⟨b, off, rfl, hlt, hc⟩
  · omega
  have hcc := hc (p / 8) (by omega)
  have hfit := fit_at hf (p / 8)
  generalize hz' : zs[p / 8]?.getD 0 = z at *
  go_enter Tryz.func171, Tryz.ntmps171
  go_wp2
  go_ret
  refine ⟨ret_int ?_, rfl⟩
  unfold bitN
  rw [hz', bit_u8 z _ hfit.1 hfit.2]

theorem mod2_u8 (z : Int) (k : Nat) (h0 : 0 ≤ z) : z / 2 ^ k % 2 = ((bk z.toNat k : Nat) : Int) := by
  obtain ⟨n, rfl⟩ := Int.eq_ofNat_of_zero_le h0
  simp [bk]

/-- A number of more than n bits. -/
def wideB (v n : Nat) : Bool := decide (2 ^ n ≤ v)

theorem wide_eq (v n : Nat) : ((v : Int) / 2 ^ n != 0) = wideB v n := by
  have e : (v : Int) / 2 ^ n = ((v / 2 ^ n : Nat) : Int) := by simp
  rw [e]
  unfold wideB
  rw [Bool.eq_iff_iff]
  simp only [bne_iff_ne, ne_eq, decide_eq_true_eq]
  have hp := Nat.two_pow_pos n
  constructor
  · intro h
    apply Decidable.byContradiction
    intro hc
    exact h (by simp [Nat.div_eq_of_lt (by omega : v < 2 ^ n)])
  · intro h hc
    have h1 : v / 2 ^ n = 0 := by omega
    have h2 := (Nat.div_eq_zero_iff).1 h1
    omega
theorem wide_eq0 (v n : Nat) : ((v : Int) / 2 ^ n == 0) = !wideB v n := by
  rw [← wide_eq]; simp [bne]

set_option maxHeartbeats 400000 in
theorem wide_calls (v n : Nat) (w : World) (hv : v < 18446744073709551616) (hn : n ≤ 64) :
    Calls Tryz.prog 197 #[.int .u64 v, .int .i64 n] w fun e w' => e = .returned (.bool (wideB v n)) ∧ w' = w := by
  have hm : min n 64 = n := by omega
  go_enter Tryz.func197, Tryz.ntmps197
  go_wp2
  go_ret
  refine ⟨ret_bool ?_, rfl⟩
  first
    | exact wide_eq v n
    | (rw [hm]; exact wide_eq v n)

set_option maxHeartbeats 400000 in
theorem room_calls (n : Nat) (w : World) (hn : n ≤ 9223372036854775000) :
    Calls Tryz.prog 188 #[.int .i64 n] w fun e w' => e = .returned (.int .i64 ((n + 7) / 8 : Nat)) ∧ w' = w := by
  go_enter Tryz.func188, Tryz.ntmps188
  go_wp2
  go_ret
  exact ⟨ret_int (by omega), rfl⟩

end Go.Proofs.YtaebknkjhhcneaaGreatDoor.Fld

namespace Go.Proofs.YtaebknkjhhcneaaGreatDoor.Fld
set_option linter.unusedVariables false
set_option linter.unusedSimpArgs false
open Go Go.RowKit
attribute [local go_sem] Oper.semAt_some

def okG (len : Nat) (at' n : Int) : Bool := decide (n ≤ 64) && thereB len at' n
def getV (zs : List Int) (at' n : Int) : Int := if okG zs.length at' n then (accN zs at'.toNat n.toNat : Int) else 0
def getE (zs : List Int) (at' n : Int) : Int := if okG zs.length at' n then 0 else 30

theorem okG_yes {len : Nat} {at' n : Int} (h : okG len at' n = true) : n ≤ 64 ∧ 0 ≤ at' ∧ 0 ≤ n ∧ at' + n ≤ 8 * len := by
  simpa [okG, thereB] using h
theorem thereB_yes {len : Nat} {at' n : Int} (h : thereB len at' n = true) : 0 ≤ at' ∧ 0 ≤ n ∧ at' + n ≤ 8 * len := by
  simpa [thereB] using h

theorem shl_or (a : Nat) (i : Nat) (b : Nat) (ha : a < 2 ^ i) (hi : i < 64) (hb : b < 2) : bits .or .u64 ((a : Int) * 2) (b : Int) = ((2 * a + b : Nat) : Int) := by
  have h2 : 2 ^ i ≤ 2 ^ 63 := Nat.pow_le_pow_right (by decide) (by omega)
  have h := u64_or_nat (2 * a) b (by omega) (by omega)
  have e : (2 * a ||| b) = 2 * a + b := by
    have := Nat.two_pow_add_eq_or_of_lt (i := 1) (b := b) (by omega) a
    simpa using this.symm
  rw [e] at h
  rw [← h]
  congr 1
  push_cast
  omega

set_option maxHeartbeats 1000000 in
theorem get_calls (v : Value) (zs : List Int) (at' n : Int) (w : World) (h : BytesAt w.heap.size w v zs) (h0 : -9223372036854775808 ≤ at' ∧ at' ≤ 9223372036854775807) (h1 : -9223372036854775808 ≤ n ∧ n ≤ 9223372036854775807) :
    Calls Tryz.prog 136 #[v, .int .i64 at', .int .i64 n] w fun e w' => e = .returned (.tuple #[.int .u64 (getV zs at' n), .int .i64 (getE zs at' n)]) ∧ w' = w := by
  have hbit := bit_calls v zs
  have hl := h.len
  obtain ⟨_, _, a, cap, rfl, _⟩ := id h
  by_cases hn : n ≤ 64
  · cases ht : thereB zs.length at' n
    · have ev : getV zs at' n = 0 := by simp [getV, okG, ht]
      have ee : getE zs at' n = 30 := by simp [getE, okG, ht]
      rw [ev, ee]
      clear h
      go_enter Tryz.func136, Tryz.ntmps136
      go_wp2_with fail
      refine (there_calls a _ cap at' n w hl h0 h1).mono ?_
      rintro e w' ⟨rfl, rfl⟩
      rw [ht]
      go_wp2
      go_ret2
      exact ⟨rfl, rfl⟩
    · have hth := thereB_yes ht
      obtain ⟨p, rfl⟩ := Int.eq_ofNat_of_zero_le hth.1
      obtain ⟨m, rfl⟩ := Int.eq_ofNat_of_zero_le hth.2.1
      have ev : getV zs p m = accN zs p m := by simp [getV, okG, ht]; omega
      have ee : getE zs p m = 0 := by simp [getE, okG, ht]; omega
      rw [ev, ee]
      go_enter Tryz.func136, Tryz.ntmps136
      go_wp2_with fail
      refine (there_calls a _ cap p m w hl h0 h1).mono ?_
      rintro e w' ⟨rfl, rfl⟩
      rw [ht]
      clear ht
      go_wp2
      go_loopw [8, 20] (fun x i wr => ∃ k : Nat, k ≤ m ∧ i = .int .i64 k ∧ x = .int .u64 (accN zs p k) ∧ wr = w') (fun _ i _ => m - (intOf i).toNat)
      case atStart => exact ⟨0, Nat.zero_le _, rfl, rfl, rfl⟩
      case round =>
        obtain ⟨k, hk, rfl, rfl, rfl⟩ := hrel
        have hlt' := accN_lt zs p k
        by_cases hlt : k < m
        · have hb := bitN_lt zs (p + k)
          have h64 : 2 ^ k ≤ 2 ^ 63 := Nat.pow_le_pow_right (by decide) (by omega)
          have hso := shl_or _ k _ hlt' (by omega) hb
          have hc := hbit (p + k) _ _ h (by omega)
          have e1 : ((p + k : Nat) : Int) = (p : Int) + k := by omega
          rw [e1] at hc
          have hs : accN zs p (k + 1) = 2 * accN zs p k + bitN zs (p + k) := rfl
          rw [← hs] at hso
          clear hs
          generalize hy : accN zs p (k + 1) = y at *
          have HY : Hid _ := hy
          clear hy
          generalize accN zs p k = x at *
          generalize bitN zs (p + k) = bb at *
          have HC : Hid _ := hc
          clear hc hbit h
          go_wp2_with fail
          refine Calls.mono HC.out ?_
          rintro e w1 ⟨rfl, rfl⟩
          go_wp2
          exact ⟨⟨k + 1, by omega, by simp, by rw [HY.out], trivial⟩, by simp [intOf]; omega⟩
        · obtain rfl : k = m := by omega
          go_wp2
          go_ret2
          exact ⟨rfl, rfl⟩
  · have ev : getV zs at' n = 0 := by simp [getV, okG, hn]
    have ee : getE zs at' n = 30 := by simp [getE, okG, hn]
    rw [ev, ee]
    clear h
    go_enter Tryz.func136, Tryz.ntmps136
    go_wp2
    go_ret2
    exact ⟨rfl, rfl⟩

end Go.Proofs.YtaebknkjhhcneaaGreatDoor.Fld

namespace Go.Proofs.YtaebknkjhhcneaaGreatDoor.Fld
set_option linter.unusedVariables false
set_option linter.unusedSimpArgs false
open Go Go.RowKit
attribute [local go_sem] Oper.semAt_some

theorem below_set {B g : Nat} {w : World} (i : Nat) (v : Value) (hB : B ≤ g) : Below B w (w.setCell ⟨g, i, none⟩ v) :=
  ⟨rfl, rfl, rfl, by simp [World.setCell], fun j hj => Below.heap_setCell _ _ _ _ (by intro e; simp at e; omega)⟩

/-- An own row in its block. -/
structure OwnG (base : Nat) (w : World) (g : Nat) (zs : List Int) : Prop where
  low : base ≤ g
  typed : ∃ cs, w.heap[g]? = some (.cells cs 5 (0, 0))
  cell : ∀ j, j < zs.length → w.cell? ⟨g, j, none⟩ = some (.int .u8 (zs[j]?.getD 0))

theorem OwnG.open {base g : Nat} {w : World} {zs : List Int} (h : OwnG base w g zs) (i : Nat) : w.frozen? ⟨g, i, none⟩ = false := by
  obtain ⟨cs, hc⟩ := h.typed
  simp [World.frozen?, hc]
theorem OwnG.set {base g : Nat} {w : World} {zs : List Int} (h : OwnG base w g zs) (j : Nat) (hj : j < zs.length) (z : Int) : OwnG base (w.setCell ⟨g, j, none⟩ (.int .u8 z)) g (zs.set j z) := by
  refine ⟨h.low, ?_, fun i hi => ?_⟩
  · obtain ⟨cs, hc⟩ := h.typed
    exact ⟨cs.setIfInBounds j (.int .u8 z), by simp [World.setCell, Array.getElem?_modify, hc]⟩
  · by_cases e : i = j
    · subst e
      rw [List.getElem?_set_self hj]
      have := h.cell i hj
      obtain ⟨cs, hc⟩ := h.typed
      simp only [World.cell?, hc] at this
      simp only [World.cell?, World.setCell, Array.getElem?_modify, hc]
      have hlt := (Array.getElem?_eq_some_iff.1 this).1
      simp [hlt]
    · rw [List.getElem?_set_ne (by omega), World.cell?_setCell_other _ _ _ _ (by intro c; injection c; omega)]
      exact h.cell i (by simpa using hi)
theorem OwnG.own {base g cap : Nat} {w : World} {zs : List Int} (h : OwnG base w g zs) (hf : FitB zs) (hl : zs.length ≤ 140737488351232) : OwnB base w (.slice (some ⟨g, 0, none⟩) zs.length cap) zs :=
  ⟨hf, hl, _, cap, rfl, .inr ⟨g, rfl, h.low, h.typed, h.cell⟩⟩
theorem OwnG.block {base g : Nat} {w : World} {zs : List Int} (h : OwnG base w g zs) : g < w.heap.size := by
  obtain ⟨cs, hc⟩ := h.typed
  exact (Array.getElem?_eq_some_iff.1 hc).1
theorem OwnG.keep {base g : Nat} {w w' : World} {zs : List Int} (h : OwnG base w g zs) (hb : Below w.heap.size w w') : OwnG base w' g zs := by
  have hg := h.block
  exact ⟨h.low, by obtain ⟨cs, hc⟩ := h.typed; exact ⟨cs, (hb.block g hg).trans hc⟩, fun j hj => (hb.cell (p := ⟨g, j, none⟩) hg).trans (h.cell j hj)⟩

/-- Bits, set and cleared by a mask. -/
theorem mask_eq (q : Nat) : ((128 : Int) / 2 ^ (q % 8)) = ((2 ^ (7 - q % 8) : Nat) : Int) := by
  have : ∀ j, j < 8 → ((128 : Int) / 2 ^ j) = ((2 ^ (7 - j) : Nat) : Int) := by decide
  exact this _ (Nat.mod_lt _ (by decide))
theorem or_mask (z : Int) (q : Nat) (h0 : 0 ≤ z ∧ z < 256) : bits .or .u8 z ((128 : Int) / 2 ^ (q % 8)) = ((setN z.toNat (7 - q % 8) 1 : Nat) : Int) := by
  have hp : ∀ j, j < 8 → 2 ^ j < 256 := by decide
  have h := u8_or_nat z.toNat (2 ^ (7 - q % 8)) (by omega) (hp _ (by omega))
  rw [mask_eq, ← tab_or (7 - q % 8) (by omega) _ (by omega), ← h, Int.toNat_of_nonneg h0.1]
theorem an_mask (z : Int) (q : Nat) (h0 : 0 ≤ z ∧ z < 256) : bits .andNot .u8 z ((128 : Int) / 2 ^ (q % 8)) = ((setN z.toNat (7 - q % 8) 0 : Nat) : Int) := by
  have hp : ∀ j, j < 8 → 2 ^ j < 256 := by decide
  have h := u8_andNot_nat z.toNat (2 ^ (7 - q % 8)) (by omega) (hp _ (by omega))
  rw [mask_eq, ← tab_an (7 - q % 8) (by omega) _ (by omega), ← h, Int.toNat_of_nonneg h0.1]

set_option maxHeartbeats 1000000 in
theorem write_calls (g cap base : Nat) (zs : List Int) (p n v : Nat) (w : World) (hf : FitB zs) (hl : zs.length ≤ 140737488351232) (h : OwnG base w g zs) (hp : p + n ≤ 8 * zs.length) (hn : n ≤ 64) (hv : v < 18446744073709551616) :
    Calls Tryz.prog 189 #[.slice (some ⟨g, 0, none⟩) zs.length cap, .int .i64 p, .int .i64 n, .int .u64 v] w fun e w' => e = .returned (.tuple #[]) ∧ OwnG base w' g (writeL zs p n v n) ∧ Below base w w' ∧ w'.heap.size = w.heap.size := by
  go_enter Tryz.func189, Tryz.ntmps189
  go_wp2
  go_loopw [11] (fun i wr => ∃ k : Nat, k ≤ n ∧ i = .int .i64 k ∧ OwnG base wr g (writeL zs p n v k) ∧ Below base w wr ∧ wr.heap.size = w.heap.size) (fun i _ => n - (intOf i).toNat)
  case atStart => exact ⟨0, Nat.zero_le _, rfl, h, Below.refl _ _, rfl⟩
  case round =>
    obtain ⟨k, hk, rfl, ho, hB, hs⟩ := hrel
    by_cases hlt : k < n
    · have hset : writeL zs p n v (k + 1) = (writeL zs p n v k).set ((p + k) / 8) ((setN ((writeL zs p n v k)[(p + k) / 8]?.getD 0).toNat (7 - (p + k) % 8) (bk v (n - 1 - k)) : Nat) : Int) := rfl
      have hfit := fit_at (writeL_fit hf p n v k) ((p + k) / 8)
      have hlen : (writeL zs p n v k).length = zs.length := writeL_length ..
      have hcc := ho.cell ((p + k) / 8) (by omega)
      have hop := ho.open ((p + k) / 8)
      have hos := ho.set ((p + k) / 8) (by omega)
      generalize hy : writeL zs p n v (k + 1) = y at *
      have HY : Hid _ := hy
      clear hy
      generalize writeL zs p n v k = x at *
      have hbit := bit_u64 v (n - 1 - k) (by omega) (by omega)
      rw [Int.toNat_natCast] at hbit
      have ho1 := or_mask (x[(p + k) / 8]?.getD 0) (p + k) hfit
      have ho2 := an_mask (x[(p + k) / 8]?.getD 0) (p + k) hfit
      generalize x[(p + k) / 8]?.getD 0 = z at *
      have hb2 := bk_lt v (n - 1 - k)
      generalize bk v (n - 1 - k) = bb at *
      have hbb : bb = 0 ∨ bb = 1 := by omega
      rcases hbb with rfl | rfl
      · generalize setN z.toNat (7 - (p + k) % 8) 0 = s at *
        have HS : Hid _ := hset
        have HO : Hid _ := hos
        clear hset hos ho1
        go_wp2
        refine ⟨⟨k + 1, by omega, by simp, ?_, hB.trans (below_set _ _ ho.low), by rw [← hs]; simp [World.setCell]⟩, by simp [intOf]; omega⟩
        rw [HY.out, HS.out]
        exact HO.out _
      · generalize setN z.toNat (7 - (p + k) % 8) 1 = s at *
        have HS : Hid _ := hset
        have HO : Hid _ := hos
        clear hset hos ho2
        go_wp2
        refine ⟨⟨k + 1, by omega, by simp, ?_, hB.trans (below_set _ _ ho.low), by rw [← hs]; simp [World.setCell]⟩, by simp [intOf]; omega⟩
        rw [HY.out, HS.out]
        exact HO.out _
    · obtain rfl : k = n := by omega
      go_wp2
      exact bodyPost_end (results_none rfl _ _ _) rfl ⟨rfl, ho, hB, hs⟩

end Go.Proofs.YtaebknkjhhcneaaGreatDoor.Fld
