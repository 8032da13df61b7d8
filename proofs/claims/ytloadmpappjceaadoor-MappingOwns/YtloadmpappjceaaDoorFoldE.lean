/-
  Rows of bytes in memory: what a slice of bytes holds, its text, and cells that a call turns.
  The contracts of package field's small helpers and of the document's: one bit, whether bits are there, whether a number is too wide.
  The contracts of Get, of the program and of the document: both are the number of the bits.
  The contract of write: bits of a row of one's own are set.
  The contracts of bytes.Clone and of the program's Put.
  Rows that the document's functions make by themselves: numbers appended one by one, and bytes of them.
  The contracts of the document's bits and bytes: all bits of a row, and the row of bits.
  The contract of the document's Put: it is the program's.
  The walk of the statement FieldGets: any bits of any bytes, and the bytes with others in their place.
  The contract of write once more: no other block is turned.
  Runs of bits as plain functions: which run is none, how many bits there are, the bits and the bytes of all.
  Runs of bits in memory, and the contracts of check and of the program's Cat.
-/
import Derived.Test.YtloadmpappjceaaDoorFoldA
import Derived.Test.YtloadmpappjceaaDoorProg
import Derived.WalkKit
import Derived.Lib.OthersKept
import Derived.Below
import Derived.Deep.Draws
import Derived.Deep.AppendSrc
import Derived.Laws.BytesArg
import Derived.Laws.AppendOwn
import Derived.Laws.BitsAllLaws
import Derived.OpenShut
import Derived.Lib.SliceRun
import Derived.OwnWalk
import Derived.Deep.RegionLaw
namespace Go.Proofs.YtloadmpappjceaaDoor.Fld
set_option linter.unusedVariables false
set_option linter.unusedSimpArgs false
open Go Go.RowKit
attribute [local go_sem] Oper.semAt_some

/-- The slice value v holds the bytes zs, in a block below n₀. -/
structure BytesAt (n₀ : Nat) (W : World) (v : Value) (zs : List Int) : Prop where
  fit : FitB zs
  len : zs.length ≤ 140737488351232
  val : ∃ a cap, v = .slice a zs.length cap ∧ (zs.length = 0 ∨ ∃ b off, a = some ⟨b, off, none⟩ ∧ b < n₀ ∧ ∀ j, j < zs.length → W.cell? ⟨b, off + j, none⟩ = some (.int .u8 (zs[j]?.getD 0)))

theorem BytesAt.below {n₀ : Nat} {A B : World} {v : Value} {zs : List Int} (h : BytesAt n₀ A v zs) (hb : Below n₀ A B) : BytesAt n₀ B v zs := by
  obtain ⟨h1, h2, a, cap, hv, hz⟩ := h
  refine ⟨h1, h2, a, cap, hv, hz.imp id ?_⟩
  rintro ⟨b, off, rfl, hlt, hc⟩
  exact ⟨b, off, rfl, hlt, fun j hj => (hb.cell (p := ⟨b, off + j, none⟩) hlt).trans (hc j hj)⟩
theorem BytesAt.later {A B : World} {v : Value} {zs : List Int} (h : BytesAt A.heap.size A v zs) (hb : Below A.heap.size A B) : BytesAt B.heap.size B v zs := by
  obtain ⟨h1, h2, a, cap, hv, hz⟩ := h.below hb
  refine ⟨h1, h2, a, cap, hv, hz.imp id ?_⟩
  rintro ⟨b, off, rfl, hlt, hc⟩
  exact ⟨b, off, rfl, by have := hb.size; omega, hc⟩

/-- A row of bytes of one's own: it begins its block, which lies from base on and is open. -/
structure OwnB (base : Nat) (w : World) (v : Value) (zs : List Int) : Prop where
  fit : FitB zs
  len : zs.length ≤ 140737488351232
  val : ∃ a cap, v = .slice a zs.length cap ∧ (zs.length = 0 ∨ ∃ g, a = some ⟨g, 0, none⟩ ∧ base ≤ g ∧ (∃ cs, w.heap[g]? = some (.cells cs 5 (0, 0))) ∧ ∀ j, j < zs.length → w.cell? ⟨g, j, none⟩ = some (.int .u8 (zs[j]?.getD 0)))

theorem OwnB.bytes {base : Nat} {w : World} {v : Value} {zs : List Int} (h : OwnB base w v zs) : BytesAt w.heap.size w v zs := by
  obtain ⟨h1, h2, a, cap, hv, hz⟩ := h
  refine ⟨h1, h2, a, cap, hv, hz.imp id ?_⟩
  rintro ⟨g, rfl, hb, ⟨cs, hg⟩, hc⟩
  exact ⟨g, 0, rfl, (Array.getElem?_eq_some_iff.1 hg).1, fun j hj => by rw [Nat.zero_add]; exact hc j hj⟩

/-- The text of a slice of bytes. -/
theorem BytesAt.text {n₀ : Nat} {w : World} {v : Value} {zs : List Int} (h : BytesAt n₀ w v zs) : (convert 75 9 v).run Tryd.prog w = .ok (.string (strOfNums zs)) w := by
  obtain ⟨_, _, a, cap, rfl, hz⟩ := h
  rcases hz with hz | ⟨b, off, rfl, _, hc⟩
  · obtain rfl : zs = [] := List.length_eq_zero_iff.1 hz
    cases a with
    | none => exact run_convert_bytes_nil w _ _ Tryd.underlying75 Tryd.underlying5 _ _ _ Tryd.underlying9
    | some x =>
      rw [run_convert_bytes_string w _ _ _ _ _ _ Tryd.underlying75 Tryd.underlying5 Tryd.underlying9]
      have := run_loadCells_list (P := Tryd.prog) w x [] (fun j v hj => by simp at hj)
      exact run_bytesToString w x 0 cap [] (by simpa using this)
  · exact run_convert_bytes_arg w _ _ Tryd.underlying75 Tryd.underlying5 b off _ cap zs rfl (fun i hi => by simpa [List.getD] using hc i hi) _ Tryd.underlying9

/-- What an argument's reading says of a slice of bytes. -/
def IsRowB (w : World) (a : Option Addr) (len cap : Nat) (zs : List Int) : Prop :=
  (a = none ∧ len = 0 ∧ cap = 0 ∧ zs = []) ∨
  ∃ x, a = some x ∧ len ≤ cap ∧ cap ≤ maxLen ∧ zs.length = cap ∧ (∀ i, i < zs.length → w.cell? (x.add i) = some (.int .u8 (zs.getD i 0))) ∧ ∀ n ∈ zs, (Lit.int .u8 n).wf = true

theorem IsRowB.bounds {w : World} {a : Option Addr} {len cap : Nat} {zs : List Int} (h : IsRowB w a len cap zs) : (a = none → len = 0) ∧ len ≤ cap ∧ cap ≤ maxLen := by
  rcases h with ⟨rfl, rfl, rfl, _⟩ | ⟨x, rfl, h1, h2, _⟩
  · exact ⟨fun _ => rfl, Nat.le_refl _, Nat.zero_le _⟩
  · exact ⟨fun h => (by cases h), h1, h2⟩

/-- Its first n bytes. -/
theorem IsRowB.bytes {w : World} {a : Option Addr} {len cap : Nat} {zs : List Int} (h : IsRowB w a len cap zs) (n : Nat) (hn : n ≤ len) (hs : n ≤ 140737488351232) : BytesAt w.heap.size w (.slice a n cap) (zs.take n) := by
  rcases h with ⟨rfl, rfl, rfl, rfl⟩ | ⟨x, rfl, h1, h2, h3, hc, hwf⟩
  · obtain rfl : n = 0 := by omega
    exact ⟨fun z hz => (by simp at hz), by simp, none, 0, rfl, .inl rfl⟩
  · have hl : (zs.take n).length = n := by simp; omega
    refine ⟨fun z hz => ?_, by omega, some x, cap, by rw [hl], ?_⟩
    · have := bounds_u8 (hwf z (List.mem_of_mem_take hz))
      omega
    · by_cases h0 : n = 0
      · exact .inl (by omega)
      · obtain ⟨b, off, rfl, hc'⟩ := ints_at hc (by omega)
        refine .inr ⟨b, off, rfl, ?_, fun j hj => ?_⟩
        · have hc0 := hc' 0 (by omega)
          simp only [World.cell?] at hc0
          cases hb : w.heap[b]? with
          | none => rw [hb] at hc0; simp at hc0
          | some o => exact (Array.getElem?_eq_some_iff.1 hb).1
        · rw [hc' j (by omega), List.getElem?_take_of_lt (by omega)]
          simp [List.getD]

theorem ret_bool {a b : Bool} (h : a = b) : Ending.returned (.bool a) = .returned (.bool b) := by rw [h]
theorem ret_int {k : IntKind} {a b : Int} (h : a = b) : Ending.returned (.int k a) = .returned (.int k b) := by rw [h]

theorem info_u8 : (Tryd.prog.info? 5).map (fun i => (i.zero, i.size, i.bytes)) = some (some (.int .u8 0), 1, 1) := by kernel_rfl

/-- One byte shifted and masked is its bit. -/
theorem bit_u8 (z : Int) (k : Nat) (h0 : 0 ≤ z) (h1 : z < 256) : bits .and .u8 (z / 2 ^ k) 1 = ((bk z.toNat k : Nat) : Int) := by
  have e : z / 2 ^ k = ((z.toNat / 2 ^ k : Nat) : Int) := by
    obtain ⟨n, rfl⟩ := Int.eq_ofNat_of_zero_le h0
    simp
  have hlt : z.toNat / 2 ^ k < 256 := Nat.lt_of_le_of_lt (Nat.div_le_self _ _) (by omega)
  have h := u8_and_nat (z.toNat / 2 ^ k) 1 hlt (by decide)
  rw [e]
  rw [show ((1 : Nat) : Int) = 1 from rfl] at h
  rw [h, Nat.and_one_is_mod]
  rfl
theorem bit_u64 (z : Int) (k : Nat) (h0 : 0 ≤ z) (h1 : z < 18446744073709551616) : bits .and .u64 (z / 2 ^ k) 1 = ((bk z.toNat k : Nat) : Int) := by
  have e : z / 2 ^ k = ((z.toNat / 2 ^ k : Nat) : Int) := by
    obtain ⟨n, rfl⟩ := Int.eq_ofNat_of_zero_le h0
    simp
  have hlt : z.toNat / 2 ^ k < 18446744073709551616 := Nat.lt_of_le_of_lt (Nat.div_le_self _ _) (by omega)
  have h := u64_and_nat (z.toNat / 2 ^ k) 1 hlt (by decide)
  rw [e]
  rw [show ((1 : Nat) : Int) = 1 from rfl] at h
  rw [h, Nat.and_one_is_mod]
  rfl

def thereB (len : Nat) (at' n : Int) : Bool := decide (0 ≤ at') && (decide (0 ≤ n) && decide (at' + n ≤ 8 * len))

set_option maxHeartbeats 400000 in
theorem there_calls (a : Option Addr) (len cap : Nat) (at' n : Int) (w : World) (hl : len ≤ 140737488351232) (h0 : -9223372036854775808 ≤ at' ∧ at' ≤ 9223372036854775807) (h1 : -9223372036854775808 ≤ n ∧ n ≤ 9223372036854775807) :
    Calls Tryd.prog 69 #[.slice a len cap, .int .i64 at', .int .i64 n] w fun e w' => e = .returned (.bool (thereB len at' n)) ∧ w' = w := by
  cases c1 : decide (0 ≤ at') <;> cases c2 : decide (0 ≤ n) <;> cases c3 : decide (at' ≤ 8 * (len : Int) - n)
  all_goals
    simp only [decide_eq_true_eq, decide_eq_false_iff_not] at c1 c2 c3
    go_enter Tryd.func69, Tryd.ntmps69
    go_wp2
    go_ret
    refine ⟨ret_bool ?_, rfl⟩
    unfold thereB
    first
      | (refine Eq.trans ?_ (Eq.refl true); symm; simp; omega)
      | (symm; simp; omega)
      | (rw [Bool.eq_iff_iff]; simp; omega)

end Go.Proofs.YtloadmpappjceaaDoor.Fld

namespace Go.Proofs.YtloadmpappjceaaDoor.Fld
set_option linter.unusedVariables false
set_option linter.unusedSimpArgs false
open Go Go.RowKit
attribute [local go_sem] Oper.semAt_some

set_option maxHeartbeats 400000 in
theorem bit_calls (v : Value) (zs : List Int) (p : Nat) (n₀ : Nat) (w : World) (h : BytesAt n₀ w v zs) (hp : p < 8 * zs.length) :
    Calls Tryd.prog 70 #[v, .int .i64 p] w fun e w' => e = .returned (.int .u8 (bitN zs p)) ∧ w' = w := by
  obtain ⟨hf, hl, a, cap, rfl, hz⟩ := h
  rcases hz with hz | ⟨b, off, rfl, hlt, hc⟩
  · omega
  have hcc := hc (p / 8) (by omega)
  have hfit := fit_at hf (p / 8)
  generalize hz' : zs[p / 8]?.getD 0 = z at *
  go_enter Tryd.func70, Tryd.ntmps70
  go_wp2
  go_ret
  refine ⟨ret_int ?_, rfl⟩
  unfold bitN
  rw [hz', bit_u8 z _ hfit.1 hfit.2]

theorem mod2_u8 (z : Int) (k : Nat) (h0 : 0 ≤ z) : z / 2 ^ k % 2 = ((bk z.toNat k : Nat) : Int) := by
  obtain ⟨n, rfl⟩ := Int.eq_ofNat_of_zero_le h0
  simp [bk]

/-- A number of more than n bits. -/
def wideB (v n : Nat) : Bool := decide (2 ^ n ≤ v)

theorem wide_eq (v n : Nat) : ((v : Int) / 2 ^ n != 0) = wideB v n := by
  have e : (v : Int) / 2 ^ n = ((v / 2 ^ n : Nat) : Int) := by simp
  rw [e]
  unfold wideB
  rw [Bool.eq_iff_iff]
  simp only [bne_iff_ne, ne_eq, decide_eq_true_eq]
  have hp := Nat.two_pow_pos n
  constructor
  · intro h
    apply Decidable.byContradiction
    intro hc
    exact h (by simp [Nat.div_eq_of_lt (by omega : v < 2 ^ n)])
  · intro h hc
    have h1 : v / 2 ^ n = 0 := by omega
    have h2 := (Nat.div_eq_zero_iff).1 h1
    omega
theorem wide_eq0 (v n : Nat) : ((v : Int) / 2 ^ n == 0) = !wideB v n := by
  rw [← wide_eq]; simp [bne]

set_option maxHeartbeats 400000 in
theorem wide_calls (v n : Nat) (w : World) (hv : v < 18446744073709551616) (hn : n ≤ 64) :
    Calls Tryd.prog 108 #[.int .u64 v, .int .i64 n] w fun e w' => e = .returned (.bool (wideB v n)) ∧ w' = w := by
  have hm : min n 64 = n := by omega
  go_enter Tryd.func108, Tryd.ntmps108
  go_wp2
  go_ret
  refine ⟨ret_bool ?_, rfl⟩
  first
    | exact wide_eq v n
    | (rw [hm]; exact wide_eq v n)

set_option maxHeartbeats 400000 in
theorem room_calls (n : Nat) (w : World) (hn : n ≤ 9223372036854775000) :
    Calls Tryd.prog 96 #[.int .i64 n] w fun e w' => e = .returned (.int .i64 ((n + 7) / 8 : Nat)) ∧ w' = w := by
  go_enter Tryd.func96, Tryd.ntmps96
  go_wp2
  go_ret
  exact ⟨ret_int (by omega), rfl⟩

end Go.Proofs.YtloadmpappjceaaDoor.Fld

namespace Go.Proofs.YtloadmpappjceaaDoor.Fld
set_option linter.unusedVariables false
set_option linter.unusedSimpArgs false
open Go Go.RowKit
attribute [local go_sem] Oper.semAt_some

def okG (len : Nat) (at' n : Int) : Bool := decide (n ≤ 64) && thereB len at' n
def getV (zs : List Int) (at' n : Int) : Int := if okG zs.length at' n then (accN zs at'.toNat n.toNat : Int) else 0
def getE (zs : List Int) (at' n : Int) : Int := if okG zs.length at' n then 0 else 30

theorem okG_yes {len : Nat} {at' n : Int} (h : okG len at' n = true) : n ≤ 64 ∧ 0 ≤ at' ∧ 0 ≤ n ∧ at' + n ≤ 8 * len := by
  simpa [okG, thereB] using h
theorem thereB_yes {len : Nat} {at' n : Int} (h : thereB len at' n = true) : 0 ≤ at' ∧ 0 ≤ n ∧ at' + n ≤ 8 * len := by
  simpa [thereB] using h

theorem shl_or (a : Nat) (i : Nat) (b : Nat) (ha : a < 2 ^ i) (hi : i < 64) (hb : b < 2) : bits .or .u64 ((a : Int) * 2) (b : Int) = ((2 * a + b : Nat) : Int) := by
  have h2 : 2 ^ i ≤ 2 ^ 63 := Nat.pow_le_pow_right (by decide) (by omega)
  have h := u64_or_nat (2 * a) b (by omega) (by omega)
  have e : (2 * a ||| b) = 2 * a + b := by
    have := Nat.two_pow_add_eq_or_of_lt (i := 1) (b := b) (by omega) a
    simpa using this.symm
  rw [e] at h
  rw [← h]
  congr 1
  push_cast
  omega

set_option maxHeartbeats 1000000 in
theorem get_calls (v : Value) (zs : List Int) (at' n : Int) (w : World) (h : BytesAt w.heap.size w v zs) (h0 : -9223372036854775808 ≤ at' ∧ at' ≤ 9223372036854775807) (h1 : -9223372036854775808 ≤ n ∧ n ≤ 9223372036854775807) :
    Calls Tryd.prog 45 #[v, .int .i64 at', .int .i64 n] w fun e w' => e = .returned (.tuple #[.int .u64 (getV zs at' n), .int .i64 (getE zs at' n)]) ∧ w' = w := by
  have hbit := bit_calls v zs
  have hl := h.len
  obtain ⟨_, _, a, cap, rfl, _⟩ := id h
  by_cases hn : n ≤ 64
  · cases ht : thereB zs.length at' n
    · have ev : getV zs at' n = 0 := by simp [getV, okG, ht]
      have ee : getE zs at' n = 30 := by simp [getE, okG, ht]
      rw [ev, ee]
      clear h
      go_enter Tryd.func45, Tryd.ntmps45
      go_wp2_with fail
      refine (there_calls a _ cap at' n w hl h0 h1).mono ?_
      rintro e w' ⟨rfl, rfl⟩
      rw [ht]
      go_wp2
      go_ret2
      exact ⟨rfl, rfl⟩
    · have hth := thereB_yes ht
      obtain ⟨p, rfl⟩ := Int.eq_ofNat_of_zero_le hth.1
      obtain ⟨m, rfl⟩ := Int.eq_ofNat_of_zero_le hth.2.1
      have ev : getV zs p m = accN zs p m := by simp [getV, okG, ht]; omega
      have ee : getE zs p m = 0 := by simp [getE, okG, ht]; omega
      rw [ev, ee]
      go_enter Tryd.func45, Tryd.ntmps45
      go_wp2_with fail
      refine (there_calls a _ cap p m w hl h0 h1).mono ?_
      rintro e w' ⟨rfl, rfl⟩
      rw [ht]
      clear ht
      go_wp2
      go_loopw [8, 20] (fun x i wr => ∃ k : Nat, k ≤ m ∧ i = .int .i64 k ∧ x = .int .u64 (accN zs p k) ∧ wr = w') (fun _ i _ => m - (intOf i).toNat)
      case atStart => exact ⟨0, Nat.zero_le _, rfl, rfl, rfl⟩
      case round =>
        obtain ⟨k, hk, rfl, rfl, rfl⟩ := hrel
        have hlt' := accN_lt zs p k
        by_cases hlt : k < m
        · have hb := bitN_lt zs (p + k)
          have h64 : 2 ^ k ≤ 2 ^ 63 := Nat.pow_le_pow_right (by decide) (by omega)
          have hso := shl_or _ k _ hlt' (by omega) hb
          have hc := hbit (p + k) _ _ h (by omega)
          have e1 : ((p + k : Nat) : Int) = (p : Int) + k := by omega
          rw [e1] at hc
          have hs : accN zs p (k + 1) = 2 * accN zs p k + bitN zs (p + k) := rfl
          rw [← hs] at hso
          clear hs
          generalize hy : accN zs p (k + 1) = y at *
          have HY : Hid _ := hy
          clear hy
          generalize accN zs p k = x at *
          generalize bitN zs (p + k) = bb at *
          have HC : Hid _ := hc
          clear hc hbit h
          go_wp2_with fail
          refine Calls.mono HC.out ?_
          rintro e w1 ⟨rfl, rfl⟩
          go_wp2
          exact ⟨⟨k + 1, by omega, by simp, by rw [HY.out], trivial⟩, by simp [intOf]; omega⟩
        · obtain rfl : k = m := by omega
          go_wp2
          go_ret2
          exact ⟨rfl, rfl⟩
  · have ev : getV zs at' n = 0 := by simp [getV, okG, hn]
    have ee : getE zs at' n = 30 := by simp [getE, okG, hn]
    rw [ev, ee]
    clear h
    go_enter Tryd.func45, Tryd.ntmps45
    go_wp2
    go_ret2
    exact ⟨rfl, rfl⟩

end Go.Proofs.YtloadmpappjceaaDoor.Fld

namespace Go.Proofs.YtloadmpappjceaaDoor.Fld
set_option linter.unusedVariables false
set_option linter.unusedSimpArgs false
open Go Go.RowKit
attribute [local go_sem] Oper.semAt_some

theorem below_set {B g : Nat} {w : World} (i : Nat) (v : Value) (hB : B ≤ g) : Below B w (w.setCell ⟨g, i, none⟩ v) :=
  ⟨rfl, rfl, rfl, by simp [World.setCell], fun j hj => Below.heap_setCell _ _ _ _ (by intro e; simp at e; omega)⟩

/-- An own row in its block. -/
structure OwnG (base : Nat) (w : World) (g : Nat) (zs : List Int) : Prop where
  low : base ≤ g
  typed : ∃ cs, w.heap[g]? = some (.cells cs 5 (0, 0))
  cell : ∀ j, j < zs.length → w.cell? ⟨g, j, none⟩ = some (.int .u8 (zs[j]?.getD 0))

theorem OwnG.open {base g : Nat} {w : World} {zs : List Int} (h : OwnG base w g zs) (i : Nat) : w.frozen? ⟨g, i, none⟩ = false := by
  obtain ⟨cs, hc⟩ := h.typed
  simp [World.frozen?, hc]
theorem OwnG.set {base g : Nat} {w : World} {zs : List Int} (h : OwnG base w g zs) (j : Nat) (hj : j < zs.length) (z : Int) : OwnG base (w.setCell ⟨g, j, none⟩ (.int .u8 z)) g (zs.set j z) := by
  refine ⟨h.low, ?_, fun i hi => ?_⟩
  · obtain ⟨cs, hc⟩ := h.typed
    exact ⟨cs.setIfInBounds j (.int .u8 z), by simp [World.setCell, Array.getElem?_modify, hc]⟩
  · by_cases e : i = j
    · subst e
      rw [List.getElem?_set_self hj]
      have := h.cell i hj
      obtain ⟨cs, hc⟩ := h.typed
      simp only [World.cell?, hc] at this
      simp only [World.cell?, World.setCell, Array.getElem?_modify, hc]
      have hlt := (Array.getElem?_eq_some_iff.1 this).1
      simp [hlt]
    · rw [List.getElem?_set_ne (by omega), World.cell?_setCell_other _ _ _ _ (by intro c; injection c; omega)]
      exact h.cell i (by simpa using hi)
theorem OwnG.own {base g cap : Nat} {w : World} {zs : List Int} (h : OwnG base w g zs) (hf : FitB zs) (hl : zs.length ≤ 140737488351232) : OwnB base w (.slice (some ⟨g, 0, none⟩) zs.length cap) zs :=
  ⟨hf, hl, _, cap, rfl, .inr ⟨g, rfl, h.low, h.typed, h.cell⟩⟩
theorem OwnG.block {base g : Nat} {w : World} {zs : List Int} (h : OwnG base w g zs) : g < w.heap.size := by
  obtain ⟨cs, hc⟩ := h.typed
  exact (Array.getElem?_eq_some_iff.1 hc).1
theorem OwnG.keep {base g : Nat} {w w' : World} {zs : List Int} (h : OwnG base w g zs) (hb : Below w.heap.size w w') : OwnG base w' g zs := by
  have hg := h.block
  exact ⟨h.low, by obtain ⟨cs, hc⟩ := h.typed; exact ⟨cs, (hb.block g hg).trans hc⟩, fun j hj => (hb.cell (p := ⟨g, j, none⟩) hg).trans (h.cell j hj)⟩

/-- Bits, set and cleared by a mask. -/
theorem mask_eq (q : Nat) : ((128 : Int) / 2 ^ (q % 8)) = ((2 ^ (7 - q % 8) : Nat) : Int) := by
  have : ∀ j, j < 8 → ((128 : Int) / 2 ^ j) = ((2 ^ (7 - j) : Nat) : Int) := by decide
  exact this _ (Nat.mod_lt _ (by decide))
theorem or_mask (z : Int) (q : Nat) (h0 : 0 ≤ z ∧ z < 256) : bits .or .u8 z ((128 : Int) / 2 ^ (q % 8)) = ((setN z.toNat (7 - q % 8) 1 : Nat) : Int) := by
  have hp : ∀ j, j < 8 → 2 ^ j < 256 := by decide
  have h := u8_or_nat z.toNat (2 ^ (7 - q % 8)) (by omega) (hp _ (by omega))
  rw [mask_eq, ← tab_or (7 - q % 8) (by omega) _ (by omega), ← h, Int.toNat_of_nonneg h0.1]
theorem an_mask (z : Int) (q : Nat) (h0 : 0 ≤ z ∧ z < 256) : bits .andNot .u8 z ((128 : Int) / 2 ^ (q % 8)) = ((setN z.toNat (7 - q % 8) 0 : Nat) : Int) := by
  have hp : ∀ j, j < 8 → 2 ^ j < 256 := by decide
  have h := u8_andNot_nat z.toNat (2 ^ (7 - q % 8)) (by omega) (hp _ (by omega))
  rw [mask_eq, ← tab_an (7 - q % 8) (by omega) _ (by omega), ← h, Int.toNat_of_nonneg h0.1]

set_option maxHeartbeats 1000000 in
theorem write_calls (g cap base : Nat) (zs : List Int) (p n v : Nat) (w : World) (hf : FitB zs) (hl : zs.length ≤ 140737488351232) (h : OwnG base w g zs) (hp : p + n ≤ 8 * zs.length) (hn : n ≤ 64) (hv : v < 18446744073709551616) :
    Calls Tryd.prog 97 #[.slice (some ⟨g, 0, none⟩) zs.length cap, .int .i64 p, .int .i64 n, .int .u64 v] w fun e w' => e = .returned (.tuple #[]) ∧ OwnG base w' g (writeL zs p n v n) ∧ Below base w w' ∧ w'.heap.size = w.heap.size := by
  go_enter Tryd.func97, Tryd.ntmps97
  go_wp2
  go_loopw [11] (fun i wr => ∃ k : Nat, k ≤ n ∧ i = .int .i64 k ∧ OwnG base wr g (writeL zs p n v k) ∧ Below base w wr ∧ wr.heap.size = w.heap.size) (fun i _ => n - (intOf i).toNat)
  case atStart => exact ⟨0, Nat.zero_le _, rfl, h, Below.refl _ _, rfl⟩
  case round =>
    obtain ⟨k, hk, rfl, ho, hB, hs⟩ := hrel
    by_cases hlt : k < n
    · have hset : writeL zs p n v (k + 1) = (writeL zs p n v k).set ((p + k) / 8) ((setN ((writeL zs p n v k)[(p + k) / 8]?.getD 0).toNat (7 - (p + k) % 8) (bk v (n - 1 - k)) : Nat) : Int) := rfl
      have hfit := fit_at (writeL_fit hf p n v k) ((p + k) / 8)
      have hlen : (writeL zs p n v k).length = zs.length := writeL_length ..
      have hcc := ho.cell ((p + k) / 8) (by omega)
      have hop := ho.open ((p + k) / 8)
      have hos := ho.set ((p + k) / 8) (by omega)
      generalize hy : writeL zs p n v (k + 1) = y at *
      have HY : Hid _ := hy
      clear hy
      generalize writeL zs p n v k = x at *
      have hbit := bit_u64 v (n - 1 - k) (by omega) (by omega)
      rw [Int.toNat_natCast] at hbit
      have ho1 := or_mask (x[(p + k) / 8]?.getD 0) (p + k) hfit
      have ho2 := an_mask (x[(p + k) / 8]?.getD 0) (p + k) hfit
      generalize x[(p + k) / 8]?.getD 0 = z at *
      have hb2 := bk_lt v (n - 1 - k)
      generalize bk v (n - 1 - k) = bb at *
      have hbb : bb = 0 ∨ bb = 1 := by omega
      rcases hbb with rfl | rfl
      · generalize setN z.toNat (7 - (p + k) % 8) 0 = s at *
        have HS : Hid _ := hset
        have HO : Hid _ := hos
        clear hset hos ho1
        go_wp2
        refine ⟨⟨k + 1, by omega, by simp, ?_, hB.trans (below_set _ _ ho.low), by rw [← hs]; simp [World.setCell]⟩, by simp [intOf]; omega⟩
        rw [HY.out, HS.out]
        exact HO.out _
      · generalize setN z.toNat (7 - (p + k) % 8) 1 = s at *
        have HS : Hid _ := hset
        have HO : Hid _ := hos
        clear hset hos ho2
        go_wp2
        refine ⟨⟨k + 1, by omega, by simp, ?_, hB.trans (below_set _ _ ho.low), by rw [← hs]; simp [World.setCell]⟩, by simp [intOf]; omega⟩
        rw [HY.out, HS.out]
        exact HO.out _
    · obtain rfl : k = n := by omega
      go_wp2
      exact bodyPost_end (results_none rfl _ _ _) rfl ⟨rfl, ho, hB, hs⟩

end Go.Proofs.YtloadmpappjceaaDoor.Fld

namespace Go.Proofs.YtloadmpappjceaaDoor.Fld
set_option linter.unusedVariables false
set_option linter.unusedSimpArgs false
open Go Go.RowKit
attribute [local go_sem] Oper.semAt_some

/-- A built-in append whose run is known. -/
theorem wpList_append_run {P : Program} {w w2 : World} {ops : Array Oper} {rest : List Oper} {o : Oper} {a : Act} {Q : Exit → Act → World → Prop} (hg : o.guard = none) (s x : Operand) (t u : TypeId)
    (hop : o.op = Op.call { callee := Callee.builtin Builtin.append, args := #[s, x], argTypes := #[t, u] }) {vs vx v : Value} (hs : a.eval s = vs) (hx : a.eval x = vx)
    (hrun : (Builtin.append_ #[t, u] o.type #[vs, vx]).run P w = .ok v w2) (hK : wpList P ops Q rest (a.put o.dst v) w2) : wpList P ops Q (o :: rest) a w := by
  refine wpList_plain hg fun K hK' => ?_
  unfold Oper.wp
  simp [execOp, hop, resolve, invoke, builtin, hs, hx, hrun, Result.andThen]
  exact hK' _ _ hK

/-- A new row of bytes. -/
theorem own_new (w : World) (zs : List Int) (us : Array Value) (hu : ∀ j, j < zs.length → us[j]? = some (.int .u8 (zs[j]?.getD 0))) :
    OwnG w.heap.size (w.alloc (.cells us 5)) w.heap.size zs := by
  have hn : (w.alloc (.cells us 5)).heap[w.heap.size]? = some (.cells us 5) := by rw [← World.alloc_eq]; simp
  refine ⟨Nat.le_refl _, ⟨us, hn⟩, fun j hj => ?_⟩
  simp only [World.cell?]
  rw [hn]
  simpa using hu j hj

/-- 'append([]byte{}, v...)': a copy of its own. -/
theorem BytesAt.copied {w : World} {v : Value} {zs : List Int} (h : BytesAt w.heap.size w v zs) (B : Nat) (ty : TypeId) :
    ∃ a cap w2, (Builtin.append_ #[75, 75] ty #[.slice (some ⟨B, 0, none⟩) 0 0, v]).run Tryd.prog w = .ok (.slice a zs.length cap) w2 ∧ (zs.length = 0 ∨ ∃ g, a = some ⟨g, 0, none⟩ ∧ OwnG w.heap.size w2 g zs) ∧ Below w.heap.size w w2 := by
  obtain ⟨i, hi, hz, hs, hb⟩ := info_parts info_u8
  obtain ⟨hf, hl, a, cap, rfl, hv⟩ := h
  have src : ∃ news : List Value, news = zs.map (fun z => Value.int .u8 z) ∧ Src Tryd.prog i.size 75 (.slice a zs.length cap) zs.length news w := by
    refine ⟨_, rfl, ?_⟩
    rw [hs]
    rcases hv with hv | ⟨b, off, rfl, hlt, hc⟩
    · obtain rfl : zs = [] := List.length_eq_zero_iff.1 hv
      cases a with
      | none => exact Src.ofNil w Tryd.underlying75 cap
      | some x => exact Src.ofSlice w Tryd.underlying75 x 0 cap [] rfl (fun j u hj => by simp at hj) (fun u hu => by cases hu)
    · refine Src.ofSlice w Tryd.underlying75 _ _ cap _ (by simp) (fun j u hj => ?_) (fun u hu => ?_)
      · rw [List.getElem?_map] at hj
        obtain ⟨z, hz, rfl⟩ := Option.map_eq_some_iff.1 hj
        have hjl := (List.getElem?_eq_some_iff.1 hz).1
        have := hc j hjl
        rw [hz] at this
        rw [Go.WideShapes.add_plain]
        exact this
      · obtain ⟨z, _, rfl⟩ := List.mem_map.1 hu
        rfl
  obtain ⟨news, hnews, hsrc⟩ := src
  by_cases h0 : zs.length = 0
  · obtain rfl : zs = [] := List.length_eq_zero_iff.1 h0
    have hr := run_append_room_src w 75 75 ty 5 i Tryd.underlying75 hi B 0 0 0 _ 0 news hsrc (Nat.le_refl _) (fun j hj => by rw [hnews] at hj; simp at hj) (fun j hj => by rw [hnews] at hj; simp at hj)
    subst hnews
    exact ⟨_, _, _, hr, .inl rfl, Below.refl _ _⟩
  · have hold : (Builtin.firstCells i.size 0 (.slice (some ⟨B, 0, none⟩) 0 0)).run Tryd.prog w.drew = .ok ([] : List Value).toArray w.drew := by
      exact run_firstCells_some w.drew i.size 0 ⟨B, 0, none⟩ 0 0 [] (by simp) (fun j u hj => by simp at hj)
    have hr := run_append_grow_src w 75 75 ty 5 i (.int .u8 0) Tryd.underlying75 hi hz (some ⟨B, 0, none⟩) 0 0 [] hold _ zs.length news hsrc (by omega) (by omega) (by
      rw [hb]
      have : Builtin.nextslicecap (0 + zs.length) 0 = zs.length := by
        unfold Builtin.nextslicecap
        simp
        intro e
        rw [e]; rfl
      omega)
    simp only [Nat.zero_add, List.nil_append] at hr
    refine ⟨_, _, _, hr, .inr ⟨_, rfl, own_new w.drew zs _ (fun j hj => ?_)⟩, ((Below.refl _ w).drew).alloc (Nat.le_refl _) _⟩
    rw [hnews]
    simp [Array.getElem?_append, hj]

set_option maxHeartbeats 400000 in
theorem write_none (u : Value) (p v : Int) (w : World) :
    Calls Tryd.prog 97 #[u, .int .i64 p, .int .i64 0, .int .u64 v] w fun e w' => e = .returned (.tuple #[]) ∧ w' = w := by
  go_enter Tryd.func97, Tryd.ntmps97
  go_wp2
  go_loopw [11] (fun i wr => i = .int .i64 0 ∧ wr = w) (fun i _ => 0)
  case atStart => exact ⟨rfl, rfl⟩
  case round =>
    obtain ⟨rfl, rfl⟩ := hrel
    go_wp2
    exact bodyPost_end (results_none rfl _ _ _) rfl ⟨rfl, rfl⟩

def putOk (zs : List Int) (at' n : Int) (v : Nat) : Bool := okG zs.length at' n && !wideB v n.toNat
def putL (zs : List Int) (at' n : Int) (v : Nat) : List Int := if putOk zs at' n v then writeL zs at'.toNat n.toNat v n.toNat else []
def putE (zs : List Int) (at' n : Int) (v : Nat) : Int := if okG zs.length at' n then (if wideB v n.toNat then 1 else 0) else 30

theorem nil_bytes (n₀ : Nat) (w : World) : BytesAt n₀ w (.slice none 0 0) [] := ⟨fun z hz => by simp at hz, by simp, none, 0, rfl, .inl rfl⟩

end Go.Proofs.YtloadmpappjceaaDoor.Fld

namespace Go.Proofs.YtloadmpappjceaaDoor.Fld
set_option linter.unusedVariables false
set_option linter.unusedSimpArgs false
open Go Go.RowKit
attribute [local go_sem] Oper.semAt_some

/-- t is the type of slices of e, whose elements take one cell and by' bytes. -/
structure Elem (t e : TypeId) (z : Value) (by' : Nat) : Prop where
  und : Tryd.prog.underlying t = some (.slice e)
  inf : (Tryd.prog.info? e).map (fun i => (i.zero, i.size, i.bytes)) = some (some z, 1, by')
  one : z.cells.size = 1

theorem elem_u8 : Elem 75 5 (.int .u8 0) 1 := ⟨Tryd.underlying75, by kernel_rfl, rfl⟩

/-- An append to a slice of the call's own: a longer row of its own, in the same block or in a new one. -/
theorem own_append {t e : TypeId} {z : Value} {by' : Nat} (E : Elem t e z by') {w : World} {base n m c : Nat} {v : Value} {xs : List Value} (hown : w.ownsRow base e 1 v n xs) (a : Option Addr) (news : List Value) (hl : news.length = m)
    (ha : a = none → m = 0) (hnews : ∀ x, a = some x → ∀ (j : Nat) u, news[j]? = some u → w.cell? (x.add j) = some u) (h1 : ∀ u ∈ news, u.oneCell' = true) (h63 : n + m ≤ maxLen) (hby : (n + m) * by' ≤ 140737488355328) (hbase : base ≤ w.heap.size) (ty : TypeId) :
    ∃ v' w', (Builtin.append_ #[t, t] ty #[v, .slice a m c]).run Tryd.prog w = .ok v' w' ∧ w'.ownsRow base e 1 v' (n + m) (xs ++ news) ∧ w.grownBy w' v.ownBlock ∧ (v'.ownBlock = v.ownBlock ∨ ∀ k, v'.ownBlock = some k → w.heap.size ≤ k) := by
  obtain ⟨i, hi, hz, hs, hb⟩ := info_parts E.inf
  cases a with
  | none =>
    obtain rfl : m = 0 := ha rfl
    obtain rfl : news = [] := List.length_eq_zero_iff.1 hl
    refine ⟨v, w, ?_, by simpa using hown, ⟨rfl, rfl, rfl, Nat.le_refl _, fun _ _ _ => rfl⟩, .inl rfl⟩
    rcases hown.2 with ⟨rfl, rfl⟩ | ⟨g, cap, cur, rfl, _, hg, hnc, _, _, _⟩
    · simp [Builtin.append_, run_underlying E.und, sizeOf, typeInfo, hi, Builtin.lenOf, Builtin.firstCells]
    · simp [Builtin.append_, run_underlying E.und, sizeOf, typeInfo, hi, Builtin.lenOf, Builtin.firstCells, hnc, storeCells]
  | some x =>
    obtain ⟨v', w', hrun, r1, r2, r3⟩ := run_append_own (P := Tryd.prog) w base t ty e i z 1 by' E.und hi hz hs hb E.one (by decide) v n xs hown x m c news (by omega) (hnews x rfl) h1 h63 hby hbase
    refine ⟨v', w', hrun, r1, r2, ?_⟩
    rcases hown.2 with ⟨rfl, rfl⟩ | ⟨g, cap, cur, rfl, hbg, hg, hnc, hcm, hcs, htake⟩
    · obtain rfl : xs = [] := List.length_eq_zero_iff.1 (by simpa using hown.1)
      obtain ⟨v2, w2, hrun2, q1, _, _⟩ := run_append_own (P := Tryd.prog) w w.heap.size t ty e i z 1 by' E.und hi hz hs hb E.one (by decide) _ 0 [] (World.ownsRow_nil w _ e 1) x m c news (by omega) (hnews x rfl) h1 h63 hby (Nat.le_refl _)
      rw [hrun] at hrun2
      cases hrun2
      exact .inr (fun k hk => (q1.lt k hk).1)
    · by_cases hroom : n + m ≤ cap
      · have hr := run_append_room (P := Tryd.prog) w t ty e i E.und hi g n cap cur hg x m c news (by rw [hs]; omega) (hnews x rfl) h1 hroom (by rw [hs]; omega)
        rw [hrun] at hr
        cases hr
        exact .inl rfl
      · have holds : ∀ (j : Nat) u, xs[j]? = some u → w.cell? ((⟨g, 0, none⟩ : Addr).add j) = some u := hown.cells (g := g) rfl
        have hr := run_append_grow (P := Tryd.prog) w t ty e i z E.und hi hz ⟨g, 0, none⟩ n cap xs (by rw [hs]; exact hown.1) holds x m c news (by rw [hs]; omega) (hnews x rfl) (by omega) (by unfold maxLen at h63; omega) (growslice_fits (by omega) (by rw [hb]; exact hby))
        rw [hrun] at hr
        cases hr
        exact .inr (fun k hk => by simp [Value.ownBlock] at hk; omega)

/-- A row of the call's own, cell by cell. -/
theorem own_form {w : World} {base n : Nat} {e : TypeId} {v : Value} {xs : List Value} (h : w.ownsRow base e 1 v n xs) : ∃ a cap, v = .slice a n cap ∧ xs.length = n ∧
    (n = 0 ∨ ∃ g, a = some ⟨g, 0, none⟩ ∧ base ≤ g ∧ g < w.heap.size ∧ ∀ (j : Nat) u, xs[j]? = some u → w.cell? ⟨g, j, none⟩ = some u) := by
  have hl : xs.length = n := by simpa using h.1
  rcases h.2 with ⟨rfl, rfl⟩ | ⟨g, cap, cur, rfl, hb, hg, _⟩
  · exact ⟨none, 0, rfl, hl, .inl rfl⟩
  · refine ⟨_, cap, rfl, hl, .inr ⟨g, rfl, hb, (Array.getElem?_eq_some_iff.1 hg).1, fun j u hj => ?_⟩⟩
    have := h.cells (g := g) rfl j u hj
    rw [Go.WideShapes.add_plain] at this
    simpa using this

/-- Numbers as values. -/
def numsV (l : List Nat) : List Value := l.map (fun z => Value.int .u64 (z : Nat))

/-- A row of numbers of one's own, in its block. -/
structure OwnW (base : Nat) (w : World) (g : Nat) (l : List Nat) : Prop where
  low : base ≤ g
  typed : ∃ cs, w.heap[g]? = some (.cells cs 38 (0, 0))
  cell : ∀ j, j < l.length → w.cell? ⟨g, j, none⟩ = some (.int .u64 (l[j]?.getD 0 : Nat))

theorem OwnW.open {base g : Nat} {w : World} {l : List Nat} (h : OwnW base w g l) (i : Nat) : w.frozen? ⟨g, i, none⟩ = false := by
  obtain ⟨cs, hc⟩ := h.typed
  simp [World.frozen?, hc]
theorem OwnW.block {base g : Nat} {w : World} {l : List Nat} (h : OwnW base w g l) : g < w.heap.size := by
  obtain ⟨cs, hc⟩ := h.typed
  exact (Array.getElem?_eq_some_iff.1 hc).1
theorem OwnW.set {base g : Nat} {w : World} {l : List Nat} (h : OwnW base w g l) (j : Nat) (hj : j < l.length) (z : Nat) : OwnW base (w.setCell ⟨g, j, none⟩ (.int .u64 z)) g (l.set j z) := by
  refine ⟨h.low, ?_, fun i hi => ?_⟩
  · obtain ⟨cs, hc⟩ := h.typed
    exact ⟨cs.setIfInBounds j (.int .u64 z), by simp [World.setCell, Array.getElem?_modify, hc]⟩
  · by_cases e : i = j
    · subst e
      rw [List.getElem?_set_self hj]
      have := h.cell i hj
      obtain ⟨cs, hc⟩ := h.typed
      simp only [World.cell?, hc] at this
      simp only [World.cell?, World.setCell, Array.getElem?_modify, hc]
      have hlt := (Array.getElem?_eq_some_iff.1 this).1
      simp [hlt]
    · rw [List.getElem?_set_ne (by omega), World.cell?_setCell_other _ _ _ _ (by intro c; injection c; omega)]
      exact h.cell i (by simpa using hi)

/-- An own row of numbers lies in its block. -/
theorem own_nums {w : World} {base n : Nat} {v : Value} {l : List Nat} (h : w.ownsRow base 38 1 v n (numsV l)) : ∃ a cap, v = .slice a l.length cap ∧ (l.length = 0 ∨ ∃ g, a = some ⟨g, 0, none⟩ ∧ OwnW base w g l) := by
  have hl : l.length = n := by simpa [numsV] using h.1
  subst hl
  rcases h.2 with ⟨rfl, h0⟩ | ⟨g, cap, cur, rfl, hb, hg, _⟩
  · exact ⟨none, 0, by rw [h0], .inl h0⟩
  · refine ⟨_, cap, rfl, .inr ⟨g, rfl, hb, ⟨cur, hg⟩, fun j hj => ?_⟩⟩
    have := h.cells (g := g) rfl j (.int .u64 (l[j]?.getD 0 : Nat)) (by simp [numsV, hj])
    rw [Go.WideShapes.add_plain] at this
    simpa using this

/-- A made row of bytes. -/
theorem own_made {w : World} {base n g : Nat} {cap : Nat} (h : w.ownsRow base 5 1 (.slice (some ⟨g, 0, none⟩) n cap) n (madeCells (Value.int .u8 0).cells (n * 1)).toList) : OwnG base w g (List.replicate n 0) := by
  rcases h.2 with ⟨e, h0⟩ | ⟨g', cap', cur, e, hb, hg, _⟩
  · cases e
  · cases e
    refine ⟨hb, ⟨cur, hg⟩, fun j hj => ?_⟩
    simp only [List.length_replicate] at hj
    have := h.cells (g := g) rfl j (.int .u8 0) (by simp only [madeCells, Nat.mul_one, Array.toList_map, Array.toList_range, List.getElem?_map, List.getElem?_range hj, Option.map_some, Option.some.injEq]; show (#[Value.int .u8 0])[j % 1]! = _; rw [Nat.mod_one]; rfl)
    rw [Go.WideShapes.add_plain] at this
    rw [List.getElem?_replicate]
    simpa [hj] using this

end Go.Proofs.YtloadmpappjceaaDoor.Fld

namespace Go.Proofs.YtloadmpappjceaaDoor.Fld
set_option linter.unusedVariables false
set_option linter.unusedSimpArgs false
open Go Go.RowKit
attribute [local go_sem] Oper.semAt_some

/-- The first k bits of a row. -/
def bitsTo (zs : List Int) (k : Nat) : List Nat := (List.range k).map (bitN zs)
theorem bitsTo_succ (zs : List Int) (k : Nat) : numsV (bitsTo zs (k + 1)) = numsV (bitsTo zs k) ++ [.int .u64 (bitN zs k : Nat)] := by
  simp [numsV, bitsTo, List.range_succ]

/-- The slice value v holds the numbers l, in a block below n₀. -/
def NumsAt (n₀ : Nat) (w : World) (v : Value) (l : List Nat) : Prop :=
  ∃ a cap, v = .slice a l.length cap ∧ (l.length = 0 ∨ ∃ g, a = some ⟨g, 0, none⟩ ∧ g < n₀ ∧ ∀ j, j < l.length → w.cell? ⟨g, j, none⟩ = some (.int .u64 (l[j]?.getD 0 : Nat)))

theorem own_numsAt {w : World} {base n : Nat} {v : Value} {l : List Nat} (h : w.ownsRow base 38 1 v n (numsV l)) : NumsAt w.heap.size w v l := by
  obtain ⟨a, cap, rfl, hz⟩ := own_nums h
  refine ⟨a, cap, rfl, hz.imp id ?_⟩
  rintro ⟨g, rfl, ho⟩
  exact ⟨g, rfl, ho.block, ho.cell⟩

theorem shl_tab (k : Nat) (hk : k < 8) : ((1 : Int) * 2 ^ k) = ((2 ^ k : Nat) : Int) := by simp
theorem wrap_tab : ∀ k, k < 8 → IntKind.u8.wrap (2 ^ k) = 2 ^ k := by decide
theorem pow_tab : ∀ k, k < 8 → (0 : Int) < 2 ^ k ∧ (2 : Int) ^ k ≤ 128 := by decide

end Go.Proofs.YtloadmpappjceaaDoor.Fld

namespace Go.Proofs.YtloadmpappjceaaDoor.Fld
set_option linter.unusedVariables false
set_option linter.unusedSimpArgs false
open Go Go.RowKit
attribute [local go_sem] Oper.semAt_some

def setBits (l : List Nat) (p m v : Nat) : Nat → List Nat
  | 0 => l
  | k + 1 => (setBits l p m v k).set (p + k) (bk v (m - 1 - k))
@[simp] theorem setBits_length (l : List Nat) (p m v k : Nat) : (setBits l p m v k).length = l.length := by
  induction k with
  | zero => rfl
  | succ k ih => simp [setBits, ih]
theorem setBits_get (l : List Nat) (p m v k q : Nat) (h : p + k ≤ l.length) : (setBits l p m v k)[q]? = if p ≤ q ∧ q < p + k then some (bk v (m - 1 - (q - p))) else l[q]? := by
  induction k with
  | zero => have : ¬ (p ≤ q ∧ q < p + 0) := by omega
            simp [setBits]; omega
  | succ k ih =>
    rw [setBits]
    by_cases c : p + k = q
    · subst c
      rw [List.getElem?_set_self (by simp; omega), if_pos (by omega), show p + k - p = k by omega]
    · rw [List.getElem?_set_ne c, ih (by omega)]
      by_cases d : p ≤ q ∧ q < p + k
      · rw [if_pos d, if_pos (by omega)]
      · rw [if_neg d, if_neg (by omega)]

theorem bit01 (b : Nat) (h : b < 2) : (if b = 1 then 1 else 0) = b := by
  have : b = 0 ∨ b = 1 := by omega
  rcases this with rfl | rfl <;> rfl

theorem put_pure (zs : List Int) (hf : FitB zs) (p m v : Nat) (h : p + m ≤ 8 * zs.length) : packL (setBits (bitsL zs) p m v m) (setBits (bitsL zs) p m v m).length = writeL zs p m v m := by
  have hlen : (packL (setBits (bitsL zs) p m v m) (setBits (bitsL zs) p m v m).length).length = zs.length := by simp; omega
  refine row_ext (by rw [hlen]; simp) (packL_fit _ _) (writeL_fit hf _ _ _ _) fun q hq => ?_
  rw [hlen] at hq
  rw [bitN_packL _ _ _ (Nat.le_refl _), bitN_writeL hf _ _ _ _ _ h, setBits_get _ _ _ _ _ _ (by simp; omega)]
  by_cases c : p ≤ q ∧ q < p + m
  · rw [if_pos c, if_pos c]
    have := bit01 (bk v (m - 1 - (q - p))) (bk_lt _ _)
    simpa [hq] using this
  · rw [if_neg c, if_neg c, bitsL_get zs q hq]
    have := bit01 (bitN zs q) (bitN_lt _ _)
    simpa [hq] using this

end Go.Proofs.YtloadmpappjceaaDoor.Fld

namespace Go.Proofs.YtloadmpappjceaaDoor.Fld
set_option linter.unusedVariables false
set_option linter.unusedSimpArgs false
open Go Go.RowKit
attribute [local go_sem] Oper.semAt_some

theorem own_fit (zs : List Int) (h : zs.all (fun z => decide (0 ≤ z) && decide (z < 256)) = true) : FitB zs := by
  intro z hz
  have := List.all_eq_true.1 h z hz
  simpa using this

theorem lit_bytes (w : World) : BytesAt (w.alloc (.cells #[.int .u8 171, .int .u8 205] 5)).heap.size (w.alloc (.cells #[.int .u8 171, .int .u8 205] 5)) (.slice (some ⟨w.heap.size, 0, none⟩) 2 2) [171, 205] :=
  ((own_new w [171, 205] #[.int .u8 171, .int .u8 205] (fun j hj => by
    match j, hj with
    | 0, _ => rfl
    | 1, _ => rfl
    | n + 2, hj => simp at hj; omega)).own (cap := 2) (own_fit _ (by decide)) (by simp)).bytes

theorem alive_get : getV [171, 205] 4 8 = 188 ∧ getE [171, 205] 4 8 = 0 ∧ putE [171, 205] 4 8 0 = 0 ∧ putL [171, 205] 4 8 0 = [160, 13] := by decide +kernel

theorem alive_g (w : World) : Calls Tryd.prog 45 #[.slice (some ⟨w.heap.size, 0, none⟩) 2 2, .int .i64 4, .int .i64 8] (w.alloc (.cells #[.int .u8 171, .int .u8 205] 5))
    fun e w' => e = .returned (.tuple #[.int .u64 188, .int .i64 0]) ∧ w' = w.alloc (.cells #[.int .u8 171, .int .u8 205] 5) := by
  have h := get_calls _ [171, 205] 4 8 _ (lit_bytes w) (by decide) (by decide)
  rw [alive_get.1, alive_get.2.1] at h
  exact h
theorem bounds_i64 {a : Int} (h : (Lit.int .i64 a).wf = true) : -9223372036854775808 ≤ a ∧ a ≤ 9223372036854775807 := by
  have e : IntKind.i64.min = -9223372036854775808 := rfl
  have h2 : IntKind.i64.min ≤ a ∧ a ≤ 9223372036854775807 := by simpa [Lit.wf] using h
  rwa [e] at h2

end Go.Proofs.YtloadmpappjceaaDoor.Fld

namespace Go.Proofs.YtloadmpappjceaaDoor.Fld
set_option linter.unusedVariables false
set_option linter.unusedSimpArgs false
open Go Go.RowKit
attribute [local go_sem] Oper.semAt_some

set_option maxHeartbeats 1000000 in
theorem write_only (g cap base : Nat) (zs : List Int) (p n v : Nat) (w : World) (hf : FitB zs) (hl : zs.length ≤ 140737488351232) (h : OwnG base w g zs) (hp : p + n ≤ 8 * zs.length) (hn : n ≤ 64) (hv : v < 18446744073709551616) :
    Calls Tryd.prog 97 #[.slice (some ⟨g, 0, none⟩) zs.length cap, .int .i64 p, .int .i64 n, .int .u64 v] w fun e w' => e = .returned (.tuple #[]) ∧ OwnG base w' g (writeL zs p n v n) ∧ Below base w w' ∧ w'.heap.size = w.heap.size ∧ ∀ j, j ≠ g → w'.heap[j]? = w.heap[j]? := by
  go_enter Tryd.func97, Tryd.ntmps97
  go_wp2
  go_loopw [11] (fun i wr => ∃ k : Nat, k ≤ n ∧ i = .int .i64 k ∧ OwnG base wr g (writeL zs p n v k) ∧ Below base w wr ∧ wr.heap.size = w.heap.size ∧ ∀ j, j ≠ g → wr.heap[j]? = w.heap[j]?) (fun i _ => n - (intOf i).toNat)
  case atStart => exact ⟨0, Nat.zero_le _, rfl, h, Below.refl _ _, rfl, fun _ _ => rfl⟩
  case round =>
    obtain ⟨k, hk, rfl, ho, hB, hs, hoth⟩ := hrel
    have HOT : Hid _ := hoth
    clear hoth
    by_cases hlt : k < n
    · have hset : writeL zs p n v (k + 1) = (writeL zs p n v k).set ((p + k) / 8) ((setN ((writeL zs p n v k)[(p + k) / 8]?.getD 0).toNat (7 - (p + k) % 8) (bk v (n - 1 - k)) : Nat) : Int) := rfl
      have hfit := fit_at (writeL_fit hf p n v k) ((p + k) / 8)
      have hlen : (writeL zs p n v k).length = zs.length := writeL_length ..
      have hcc := ho.cell ((p + k) / 8) (by omega)
      have hop := ho.open ((p + k) / 8)
      have hos := ho.set ((p + k) / 8) (by omega)
      generalize hy : writeL zs p n v (k + 1) = y at *
      have HY : Hid _ := hy
      clear hy
      generalize writeL zs p n v k = x at *
      have hbit := bit_u64 v (n - 1 - k) (by omega) (by omega)
      rw [Int.toNat_natCast] at hbit
      have ho1 := or_mask (x[(p + k) / 8]?.getD 0) (p + k) hfit
      have ho2 := an_mask (x[(p + k) / 8]?.getD 0) (p + k) hfit
      generalize x[(p + k) / 8]?.getD 0 = z at *
      have hb2 := bk_lt v (n - 1 - k)
      generalize bk v (n - 1 - k) = bb at *
      have hbb : bb = 0 ∨ bb = 1 := by omega
      rcases hbb with rfl | rfl
      · generalize setN z.toNat (7 - (p + k) % 8) 0 = s at *
        have HS : Hid _ := hset
        have HO : Hid _ := hos
        clear hset hos ho1
        go_wp2
        refine ⟨⟨k + 1, by omega, by simp, ?_, hB.trans (below_set _ _ ho.low), by rw [← hs]; simp [World.setCell], fun j hj => (Below.heap_setCell _ _ _ _ hj).trans (HOT.out j hj)⟩, by simp [intOf]; omega⟩
        rw [HY.out, HS.out]
        exact HO.out _
      · generalize setN z.toNat (7 - (p + k) % 8) 1 = s at *
        have HS : Hid _ := hset
        have HO : Hid _ := hos
        clear hset hos ho2
        go_wp2
        refine ⟨⟨k + 1, by omega, by simp, ?_, hB.trans (below_set _ _ ho.low), by rw [← hs]; simp [World.setCell], fun j hj => (Below.heap_setCell _ _ _ _ hj).trans (HOT.out j hj)⟩, by simp [intOf]; omega⟩
        rw [HY.out, HS.out]
        exact HO.out _
    · obtain rfl : k = n := by omega
      go_wp2
      exact bodyPost_end (results_none rfl _ _ _) rfl ⟨rfl, ho, hB, hs, HOT.out⟩

end Go.Proofs.YtloadmpappjceaaDoor.Fld

namespace Go.Proofs.YtloadmpappjceaaDoor.Fld
set_option linter.unusedVariables false
set_option linter.unusedSimpArgs false
open Go Go.RowKit

/-- Run k: how many bits, and the number. -/
def rN (rs : List (Int × Nat)) (k : Nat) : Int := (rs[k]?.getD (0, 0)).1
def rV (rs : List (Int × Nat)) (k : Nat) : Nat := (rs[k]?.getD (0, 0)).2
def runE (n : Int) (v : Nat) : Int := if n < 0 ∨ 64 < n then 30 else if wideB v n.toNat then 1 else 0
def allOk (rs : List (Int × Nat)) (k : Nat) : Prop := ∀ j, j < k → runE (rN rs j) (rV rs j) = 0
def total (rs : List (Int × Nat)) : Nat → Nat
  | 0 => 0
  | k + 1 => total rs k + (rN rs k).toNat

theorem runE_ok {n : Int} {v : Nat} (h : runE n v = 0) : 0 ≤ n ∧ n ≤ 64 ∧ wideB v n.toNat = false ∧ v < 2 ^ n.toNat := by
  unfold runE at h
  by_cases c : n < 0 ∨ 64 < n
  · rw [if_pos c] at h; omega
  · rw [if_neg c] at h
    cases hw : wideB v n.toNat
    · refine ⟨by omega, by omega, rfl, ?_⟩
      unfold wideB at hw
      simpa using hw
    · rw [hw] at h; simp at h
theorem allOk_succ {rs : List (Int × Nat)} {k : Nat} (h : allOk rs k) (hk : runE (rN rs k) (rV rs k) = 0) : allOk rs (k + 1) := by
  intro j hj
  by_cases c : j = k
  · subst c; exact hk
  · exact h j (by omega)
theorem total_le {rs : List (Int × Nat)} : ∀ {k : Nat}, allOk rs k → total rs k ≤ 64 * k
  | 0, _ => by simp [total]
  | k + 1, h => by
    have h1 := total_le (k := k) (fun j hj => h j (by omega))
    have h2 := runE_ok (h k (by omega))
    simp only [total]
    omega
theorem total_mono (rs : List (Int × Nat)) (k : Nat) : ∀ n, k ≤ n → total rs k ≤ total rs n := by
  intro n
  induction n with
  | zero => intro h; have : k = 0 := by omega
            subst this; exact Nat.le_refl _
  | succ n ih =>
    intro h
    by_cases c : k = n + 1
    · subst c; exact Nat.le_refl _
    · have := ih (by omega); simp only [total]; omega

/-- The bits of the first k runs. -/
def runBits (n v : Nat) : List Nat := (List.range n).map (fun j => bk v (n - 1 - j))
def catBits (rs : List (Int × Nat)) : Nat → List Nat
  | 0 => []
  | k + 1 => catBits rs k ++ runBits (rN rs k).toNat (rV rs k)
@[simp] theorem catBits_length (rs : List (Int × Nat)) (k : Nat) : (catBits rs k).length = total rs k := by
  induction k with
  | zero => rfl
  | succ k ih => simp [catBits, total, ih, runBits]

/-- The bytes, run by run. -/
def catRow (rs : List (Int × Nat)) (t : Nat) : Nat → List Int
  | 0 => List.replicate ((t + 7) / 8) 0
  | k + 1 => writeL (catRow rs t k) (total rs k) (rN rs k).toNat (rV rs k) (rN rs k).toNat
@[simp] theorem catRow_length (rs : List (Int × Nat)) (t k : Nat) : (catRow rs t k).length = (t + 7) / 8 := by
  induction k with
  | zero => simp [catRow]
  | succ k ih => simp [catRow, ih]
theorem catRow_fit (rs : List (Int × Nat)) (t k : Nat) : FitB (catRow rs t k) := by
  induction k with
  | zero => intro z hz; have := List.eq_of_mem_replicate hz; subst this; decide
  | succ k ih => exact writeL_fit ih _ _ _ _
theorem bitN_catRow (rs : List (Int × Nat)) (t k q : Nat) (h : total rs k ≤ t) : bitN (catRow rs t k) q = (catBits rs k)[q]?.getD 0 := by
  induction k with
  | zero => simp [catRow, catBits, bitN_zero]
  | succ k ih =>
    simp only [total] at h
    rw [catRow, bitN_writeL (catRow_fit _ _ _) _ _ _ _ _ (by simp; omega), ih (by omega), catBits]
    by_cases c : total rs k ≤ q ∧ q < total rs k + (rN rs k).toNat
    · rw [if_pos c, List.getElem?_append_right (by simpa using c.1)]
      simp [runBits, show q - total rs k < (rN rs k).toNat by omega]
    · rw [if_neg c]
      by_cases d : q < total rs k
      · rw [List.getElem?_append_left (by simpa using d)]
      · rw [List.getElem?_append_right (by simp; omega), List.getElem?_eq_none (by simp; omega), List.getElem?_eq_none (by simp [runBits]; omega)]

theorem catBits_lt (rs : List (Int × Nat)) (k q : Nat) : (catBits rs k)[q]?.getD 0 < 2 := by
  induction k with
  | zero => simp [catBits]
  | succ k ih =>
    rw [catBits]
    by_cases d : q < total rs k
    · rw [List.getElem?_append_left (by simpa using d)]; exact ih
    · rw [List.getElem?_append_right (by simp; omega)]
      simp only [runBits, List.getElem?_map]
      by_cases c : q - (catBits rs k).length < (rN rs k).toNat
      · rw [List.getElem?_range c]; exact bk_lt _ _
      · rw [List.getElem?_eq_none (by simp; simpa using c)]
        show (0 : Nat) < 2
        decide

theorem bit01' (b : Nat) (h : b < 2) : (if b = 1 then 1 else 0) = b := by
  have : b = 0 ∨ b = 1 := by omega
  rcases this with rfl | rfl <;> rfl

theorem cat_pack (rs : List (Int × Nat)) (k : Nat) : packL (catBits rs k) (catBits rs k).length = catRow rs (total rs k) k := by
  refine row_ext (by simp) (packL_fit _ _) (catRow_fit _ _ _) fun q hq => ?_
  rw [bitN_packL _ _ _ (Nat.le_refl _), bitN_catRow _ _ _ _ (Nat.le_refl _)]
  have h2 := catBits_lt rs k q
  by_cases c : q < (catBits rs k).length
  · have := bit01' _ h2
    have c' : q < total rs k := by simpa using c
    simpa [c'] using this
  · rw [List.getElem?_eq_none (by omega)]
    simp

/-- What Cat answers. -/
def CatIs (rs : List (Int × Nat)) (bs : List Int) (er : Int) : Prop :=
  (∃ k, k < rs.length ∧ allOk rs k ∧ runE (rN rs k) (rV rs k) ≠ 0 ∧ er = runE (rN rs k) (rV rs k) ∧ bs = []) ∨
  (allOk rs rs.length ∧ 65536 < total rs rs.length ∧ er = 3 ∧ bs = []) ∨
  (allOk rs rs.length ∧ total rs rs.length ≤ 65536 ∧ er = 0 ∧ bs = catRow rs (total rs rs.length) rs.length)

theorem CatIs.uniq {rs : List (Int × Nat)} {bs bs' : List Int} {er er' : Int} (h : CatIs rs bs er) (g : CatIs rs bs' er') : bs = bs' ∧ er = er' := by
  rcases h with ⟨k, hk, ho, hn, rfl, rfl⟩ | ⟨ho, hb, rfl, rfl⟩ | ⟨ho, hb, rfl, rfl⟩ <;>
  rcases g with ⟨k', hk', ho', hn', rfl, rfl⟩ | ⟨ho', hb', rfl, rfl⟩ | ⟨ho', hb', rfl, rfl⟩
  · have : k = k' := by
      rcases Nat.lt_trichotomy k k' with c | c | c
      · exact absurd (ho' k c) hn
      · exact c
      · exact absurd (ho k' c) hn'
    subst this
    exact ⟨rfl, rfl⟩
  · exact absurd (ho' k hk) hn
  · exact absurd (ho' k hk) hn
  · exact absurd (ho k' hk') hn'
  · exact ⟨rfl, rfl⟩
  · omega
  · exact absurd (ho k' hk') hn'
  · omega
  · exact ⟨rfl, rfl⟩

/-- A run is found at its place. -/
theorem cat_get (rs : List (Int × Nat)) (n k : Nat) (hk : k < n) (ho : allOk rs n) : accN (catRow rs (total rs n) n) (total rs k) (rN rs k).toNat = rV rs k := by
  have hok := runE_ok (ho k hk)
  refine accN_of (fun j hj => ?_) hok.2.2.2
  rw [bitN_catRow _ _ _ _ (Nat.le_refl _)]
  have key : ∀ n, k < n → (catBits rs n)[total rs k + j]? = some (bk (rV rs k) ((rN rs k).toNat - 1 - j)) := by
    intro n
    induction n with
    | zero => intro h; omega
    | succ n ih =>
      intro h
      rw [catBits]
      by_cases c : k = n
      · subst c
        rw [List.getElem?_append_right (by simp), catBits_length, show total rs k + j - total rs k = j by omega]
        simp [runBits, hj]
      · have hm := total_mono rs (k + 1) n (by omega)
        simp only [total] at hm
        rw [List.getElem?_append_left (by simp; omega)]
        exact ih (by omega)
  rw [key n hk]
  rfl

end Go.Proofs.YtloadmpappjceaaDoor.Fld

namespace Go.Proofs.YtloadmpappjceaaDoor.Fld
set_option linter.unusedVariables false
set_option linter.unusedSimpArgs false
open Go Go.RowKit
attribute [local go_sem] Oper.semAt_some

/-- The slice value v holds the runs rs, in a block below n₀. -/
structure RunsAt (n₀ : Nat) (W : World) (v : Value) (rs : List (Int × Nat)) : Prop where
  bnd : ∀ j, (-9223372036854775808 ≤ rN rs j ∧ rN rs j ≤ 9223372036854775807) ∧ rV rs j < 18446744073709551616
  val : ∃ a cap, v = .slice a rs.length cap ∧ (rs.length = 0 ∨ ∃ b off, a = some ⟨b, off, none⟩ ∧ b < n₀ ∧ ∀ j, j < rs.length → W.cell? ⟨b, off + j * 2, none⟩ = some (.int .i64 (rN rs j)) ∧ W.cell? ⟨b, off + j * 2 + 1, none⟩ = some (.int .u64 (rV rs j : Nat)))

theorem RunsAt.later {A B : World} {v : Value} {rs : List (Int × Nat)} (h : RunsAt A.heap.size A v rs) (hb : Below A.heap.size A B) : RunsAt B.heap.size B v rs := by
  obtain ⟨h1, a, cap, hv, hz⟩ := h
  refine ⟨h1, a, cap, hv, hz.imp id ?_⟩
  rintro ⟨b, off, rfl, hlt, hc⟩
  exact ⟨b, off, rfl, by have := hb.size; omega, fun j hj => ⟨(hb.cell (p := ⟨b, off + j * 2, none⟩) hlt).trans (hc j hj).1, (hb.cell (p := ⟨b, off + j * 2 + 1, none⟩) hlt).trans (hc j hj).2⟩⟩

set_option maxHeartbeats 1000000 in
theorem check_calls (n : Int) (v : Nat) (w : World) (hn : -9223372036854775808 ≤ n ∧ n ≤ 9223372036854775807) (hv : v < 18446744073709551616) :
    Calls Tryd.prog 95 #[.agg #[.int .i64 n, .int .u64 v]] w fun e w' => e = .returned (.int .i64 (runE n v)) ∧ Below w.heap.size w w' := by
  by_cases c : n < 0 ∨ 64 < n
  · have e : runE n v = 30 := by unfold runE; rw [if_pos c]
    rw [e]
    rcases c with c | c
    all_goals
      go_enter Tryd.func95, Tryd.ntmps95
      go_wp2
      go_ret
      exact ⟨rfl, (Below.refl _ w).alloc (Nat.le_refl _) _⟩
  · obtain ⟨m, rfl⟩ := Int.eq_ofNat_of_zero_le (by omega : 0 ≤ n)
    have hm : m ≤ 64 := by omega
    have hwc := fun w => wide_calls v m w hv hm
    have hB := (Below.refl w.heap.size w).alloc (Nat.le_refl _) (.cells #[.int .i64 m, .int .u64 v] 98)
    cases hw : wideB v m
    · have e : runE m v = 0 := by unfold runE; rw [if_neg c, Int.toNat_natCast, hw]; rfl
      rw [e]
      rw [hw] at hwc
      have HW : Hid _ := hwc
      clear hwc hw e
      go_enter Tryd.func95, Tryd.ntmps95
      go_wp2_with fail
      refine Calls.mono (HW.out _) ?_
      rintro e w1 ⟨rfl, rfl⟩
      go_wp2
      go_ret
      exact ⟨rfl, hB⟩
    · have e : runE m v = 1 := by unfold runE; rw [if_neg c, Int.toNat_natCast, hw]; rfl
      rw [e]
      rw [hw] at hwc
      have HW : Hid _ := hwc
      clear hwc hw e
      go_enter Tryd.func95, Tryd.ntmps95
      go_wp2_with fail
      refine Calls.mono (HW.out _) ?_
      rintro e w1 ⟨rfl, rfl⟩
      go_wp2
      go_ret
      exact ⟨rfl, hB⟩

def CatPost (rs : List (Int × Nat)) (w : World) (e : Ending) (w' : World) : Prop :=
  ∃ r bs er, e = .returned (.tuple #[r, .int .i64 er]) ∧ BytesAt w'.heap.size w' r bs ∧ Below w.heap.size w w' ∧ CatIs rs bs er

set_option maxHeartbeats 4000000 in
set_option maxRecDepth 100000 in
theorem cat_calls (v : Value) (rs : List (Int × Nat)) (w : World) (h : RunsAt w.heap.size w v rs) (hl : rs.length ≤ 1200) :
    Calls Tryd.prog 83 #[v] w fun e w' => CatPost rs w e w' := by
  obtain ⟨hbnd, a, cap, rfl, hz⟩ := h
  go_enter Tryd.func83, Tryd.ntmps83
  go_wp2
  go_loopw [4, 14] (fun x i wr => ∃ k : Nat, k ≤ rs.length ∧ i = .int .i64 k ∧ allOk rs k ∧ x = .int .i64 (total rs k : Nat) ∧ Below w.heap.size w wr) (fun _ i _ => rs.length - (intOf i).toNat)
  case atStart => exact ⟨0, Nat.zero_le _, rfl, fun j hj => absurd hj (by omega), rfl, Below.refl _ _⟩
  case round =>
    obtain ⟨k, hk, rfl, hall, rfl, hB⟩ := hrel
    have htl := total_le hall
    by_cases hlt : k < rs.length
    · have hz' := hz
      rcases hz' with hz' | ⟨b, off, rfl, hbn, hc⟩
      · omega
      have c1 := (hB.cell (p := ⟨b, off + k * 2, none⟩) hbn).trans (hc k hlt).1
      have c2 := (hB.cell (p := ⟨b, off + k * 2 + 1, none⟩) hbn).trans (hc k hlt).2
      have hbk := hbnd k
      have hck := fun w => check_calls (rN rs k) (rV rs k) w hbk.1 hbk.2
      have HC : Hid _ := hck
      have hsucc := allOk_succ (k := k) hall
      have htot : total rs (k + 1) = total rs k + (rN rs k).toNat := rfl
      have hok := @runE_ok (rN rs k) (rV rs k)
      have hbad : runE (rN rs k) (rV rs k) ≠ 0 → CatIs rs [] (runE (rN rs k) (rV rs k)) := fun hne => .inl ⟨k, hlt, hall, hne, rfl, rfl⟩
      generalize hT1 : total rs (k + 1) = T1 at *
      generalize hT : total rs k = T at *
      generalize rN rs k = N at *
      generalize rV rs k = V at *
      have HS : Hid _ := hsucc
      have HB : Hid _ := hbad
      have HO : Hid _ := hok
      have HT : Hid _ := hT1
      clear hck hsucc hbad hok hT1 hT hc hz hbnd
      have hA := hB.alloc hB.size (.cells #[.int .i64 N, .int .u64 V] 98)
      have hnew : (wr.alloc (.cells #[.int .i64 N, .int .u64 V] 98)).cell? ⟨wr.heap.size, 0, none⟩ = some (.int .i64 N) := by
        rw [World.cell?_alloc_new]; rfl
      have hsz : wr.heap.size < (wr.alloc (.cells #[.int .i64 N, .int .u64 V] 98)).heap.size := by simp
      go_wp2_with fail
      refine Calls.mono (HC.out _) ?_
      rintro e w1 ⟨rfl, hB1⟩
      have cN := (hB1.cell (p := ⟨wr.heap.size, 0, none⟩) hsz).trans hnew
      have hBB := hA.trans (hB1.mono hA.size)
      clear hA hnew hsz hB1 HC c1 c2
      by_cases hr : runE N V = 0
      · obtain ⟨n0, n64, _, _⟩ := HO.out hr
        obtain ⟨m, rfl⟩ := Int.eq_ofNat_of_zero_le n0
        rw [hr]
        have htot2 : ((T1 : Nat) : Int) = (T : Int) + m := by omega
        have HT2 : Hid _ := htot2
        have HR : Hid _ := hr
        clear htot htot2 hr
        go_wp2
        refine ⟨⟨k + 1, by omega, by simp, HS.out HR.out, ?_, hBB⟩, by simp [intOf]; omega⟩
        rw [HT.out, HT2.out]
      · have hq : (runE N V != 0) = true := by simpa using hr
        have HRR : Hid _ := hr
        clear hr
        go_wp2
        go_ret2
        exact ⟨_, [], _, rfl, nil_bytes _ _, hBB, HB.out HRR.out⟩
    · obtain rfl : k = rs.length := by omega
      have hmany : 65536 < total rs rs.length → CatIs rs [] 3 := fun hm => .inr (.inl ⟨hall, hm, rfl, rfl⟩)
      have hgood : total rs rs.length ≤ 65536 → CatIs rs (catRow rs (total rs rs.length) rs.length) 0 := fun hm => .inr (.inr ⟨hall, hm, rfl, rfl⟩)
      have hmono := fun k hk => total_mono rs k rs.length hk
      obtain ⟨T, hT⟩ : ∃ T, T = total rs rs.length := ⟨_, rfl⟩
      rw [← hT] at hmany hgood htl hmono
      rw [← hT]
      have HM : Hid _ := hmany
      have HG : Hid _ := hgood
      have HMO : Hid _ := hmono
      have HTT : Hid _ := hT
      clear hmany hgood hmono hT
      by_cases hbig : 65536 < T
      · go_wp2
        go_ret2
        exact ⟨_, [], 3, rfl, nil_bytes _ _, hB, HM.out hbig⟩
      · obtain ⟨i, hi, hz0, hs, hby⟩ := info_parts info_u8
        obtain ⟨f, hfd⟩ : ∃ f, f = (T + 7) / 8 := ⟨_, rfl⟩
        have hroom := fun w => room_calls T w (by omega)
        simp only [← hfd] at hroom
        have HR : Hid _ := hroom
        have hf2 : f ≤ 10000 := by omega
        have hf3 : T ≤ 8 * f := by omega
        have HFD : Hid _ := hfd
        clear hroom hfd
        go_wp2_with (first
          | (go_at_call 96; refine Calls.mono (HR.out _) ?_; rintro e w2 ⟨rfl, rfl⟩)
          | (at_make; refine wpList_make_full _ rfl _ _ _ rfl _ 5 i (.int .u8 0) 1 Tryd.underlying75 hi hz0 hs .i64 .i64 _ _ f rfl rfl rfl rfl (by rw [hby]; omega) (by unfold maxLen; omega) (Nat.le_refl _) ?_; intro X hown hgr; have hG := own_made hown; have hB1 := (Below.refl _ _).grown hgr (Nat.le_refl _) (fun k hk => by cases hk); clear hown hgr))
        have hB2 := hB.trans (hB1.mono hB.size)
        have hsz0 := hB.size
        clear hB hB1
        generalize hgg : w2.heap.size = g at *
        go_loopw [9, 35] (fun x i wr => ∃ k : Nat, k ≤ rs.length ∧ i = .int .i64 k ∧ x = .int .i64 (total rs k : Nat) ∧ OwnG g wr g (catRow rs T k) ∧ Below w.heap.size w wr) (fun _ i _ => rs.length - (intOf i).toNat)
        case atStart =>
          refine ⟨0, Nat.zero_le _, rfl, rfl, ?_, hB2⟩
          have : catRow rs T 0 = List.replicate f 0 := by rw [HFD.out]; rfl
          rw [this]
          exact hG
        case round =>
          clear hG hB2
          obtain ⟨k, hk, rfl, rfl, hG, hB⟩ := hrel
          by_cases hlt2 : k < rs.length
          · have hz' := hz
            rcases hz' with hz' | ⟨b, off, rfl, hbn, hc⟩
            · omega
            have c1 := (hB.cell (p := ⟨b, off + k * 2, none⟩) hbn).trans (hc k hlt2).1
            have c2 := (hB.cell (p := ⟨b, off + k * 2 + 1, none⟩) hbn).trans (hc k hlt2).2
            have hbk := hbnd k
            obtain ⟨n0, n64, _, _⟩ := runE_ok (hall k hlt2)
            have htot : total rs (k + 1) = total rs k + (rN rs k).toNat := rfl
            have hmo := HMO.out (k + 1) (by omega)
            have hlen : (catRow rs T k).length = f := by rw [HFD.out]; simp
            have hfit := catRow_fit rs T k
            have hrow : catRow rs T (k + 1) = writeL (catRow rs T k) (total rs k) (rN rs k).toNat (rV rs k) (rN rs k).toNat := rfl
            have hgl := hG.block
            generalize rV rs k = V at *
            obtain ⟨m, hm⟩ := Int.eq_ofNat_of_zero_le n0
            rw [hm] at c1 htot hrow n64
            rw [Int.toNat_natCast] at htot hrow
            clear hm n0
            have hA := hB.alloc hB.size (.cells #[.int .i64 m, .int .u64 V] 98)
            have hGA := hG.keep ((Below.refl _ wr).alloc (Nat.le_refl _) (.cells #[.int .i64 m, .int .u64 V] 98))
            have hnew : (wr.alloc (.cells #[.int .i64 m, .int .u64 V] 98)).cell? ⟨wr.heap.size, 0, none⟩ = some (.int .i64 m) := by
              rw [World.cell?_alloc_new]; rfl
            have hw := write_only g f g (catRow rs T k) (total rs k) m V _ hfit (by omega) hGA (by omega) (by omega) hbk.2
            rw [← hrow, hlen] at hw
            generalize hT1 : total rs (k + 1) = T1 at *
            generalize hT0 : total rs k = T0 at *
            generalize hR1 : catRow rs T (k + 1) = R1 at *
            have HW : Hid _ := hw
            have HT1 : Hid _ := hT1
            have HR1 : Hid _ := hR1
            have htot2 : ((T1 : Nat) : Int) = (T0 : Int) + m := by omega
            have HT2 : Hid _ := htot2
            have hb6 : T0 + m ≤ 65536 := by omega
            clear hw hT1 hT0 hR1 hrow htot htot2 hfit hc hz hall hbnd hGA
            go_wp2_with fail
            refine Calls.mono HW.out ?_
            rintro e w3 ⟨rfl, hG3, hB3, hs3, hoth⟩
            have cN := (World.cell?_of_block (a := ⟨wr.heap.size, 0, none⟩) (hoth wr.heap.size (by omega))).trans hnew
            have hBB := hA.trans (hB3.mono hsz0)
            clear hoth HW hnew hA c1 c2
            go_wp2
            refine ⟨⟨k + 1, by omega, by simp, ?_, ?_, hBB⟩, by simp [intOf]; omega⟩
            · rw [HT1.out, HT2.out]
            · rw [HR1.out]; exact hG3
          · obtain rfl : k = rs.length := by omega
            have hbt := (hG.own (cap := f) (catRow_fit rs T rs.length) (by rw [catRow_length]; omega)).bytes
            rw [catRow_length, ← HFD.out] at hbt
            have HBT : Hid _ := hbt
            clear hbt
            have hgd := HG.out (by omega)
            go_wp2
            go_ret2
            exact ⟨_, _, 0, rfl, HBT.out, hB, hgd⟩

end Go.Proofs.YtloadmpappjceaaDoor.Fld
