/-
  Bits of rows of bytes as plain functions: one bit, one bit set, runs of them, and rows told by their bits.
  Prefixes: a byte's first bits, all bits behind the first ones set to 0.
  The document's Low4 and Check4: all bits behind the first n are 0.
  Parse6.
-/
import Derived.Test.YtaebknkjhhcneaaGreatDoorRows
import Derived.Test.YtaebknkjhhcneaaGreatDoorFold00
import Derived.Laws.BitsAllLaws
import Derived.Deep.RegionWith
import Derived.Test.YtaebknkjhhcneaaGreatDoorProg
import Derived.WalkKit
import Derived.Below
import Derived.Test.YtaebknkjhhcneaaGreatDoorAddrGaddr
import Derived.Test.YtaebknkjhhcneaaGreatDoorAddrGgapA
import Derived.Test.YtaebknkjhhcneaaGreatDoorAddrGgapB
import Derived.Test.YtaebknkjhhcneaaGreatDoorAddrGgapC
import Derived.Test.YtaebknkjhhcneaaGreatDoorFold03
namespace Go.Proofs.YtaebknkjhhcneaaGreatDoor
set_option linter.unusedVariables false
open Go

/-- Bit k of a number. -/
def bk (z k : Nat) : Nat := z / 2 ^ k % 2
/-- A number whose bit k is b. -/
def setN (z k b : Nat) : Nat := z - bk z k * 2 ^ k + b * 2 ^ k

theorem bk_lt (z k : Nat) : bk z k < 2 := Nat.mod_lt _ (by decide)
theorem tab_or : ∀ k, k < 8 → ∀ z, z < 256 → z ||| 2 ^ k = setN z k 1 := by decide +kernel
theorem tab_an : ∀ k, k < 8 → ∀ z, z < 256 → z &&& (255 - 2 ^ k) = setN z k 0 := by decide +kernel
theorem tab_lt : ∀ k, k < 8 → ∀ b, b < 2 → ∀ z, z < 256 → setN z k b < 256 := by decide +kernel
theorem tab_bit : ∀ j, j < 8 → ∀ k, k < 8 → ∀ b, b < 2 → ∀ z, z < 256 → bk (setN z k b) j = if j = k then b else bk z j := by decide +kernel
theorem tab_add (z k : Nat) (h : bk z k = 0) : z + 2 ^ k = setN z k 1 := by simp [setN, h]
theorem tab_same (z k : Nat) (h : bk z k = 0) : z = setN z k 0 := by simp [setN, h]
theorem tab_ext (z y : Nat) (hz : z < 256) (hy : y < 256) (h : ∀ k, k < 8 → bk z k = bk y k) : z = y := by
  have h0 := h 0 (by omega); have h1 := h 1 (by omega); have h2 := h 2 (by omega); have h3 := h 3 (by omega)
  have h4 := h 4 (by omega); have h5 := h 5 (by omega); have h6 := h 6 (by omega); have h7 := h 7 (by omega)
  simp only [bk] at h0 h1 h2 h3 h4 h5 h6 h7
  omega

def FitB (zs : List Int) : Prop := ∀ z ∈ zs, 0 ≤ z ∧ z < 256

/-- The bit at a place of a row of bytes. -/
def bitN (zs : List Int) (p : Nat) : Nat := bk (zs[p / 8]?.getD 0).toNat (7 - p % 8)
/-- The row with another bit at a place. -/
def setL (zs : List Int) (p b : Nat) : List Int := zs.set (p / 8) ((setN (zs[p / 8]?.getD 0).toNat (7 - p % 8) b : Nat) : Int)

theorem bitN_lt (zs : List Int) (p : Nat) : bitN zs p < 2 := bk_lt _ _
theorem fit_at {zs : List Int} (h : FitB zs) (i : Nat) : 0 ≤ zs[i]?.getD 0 ∧ zs[i]?.getD 0 < 256 := by
  rcases Nat.lt_or_ge i zs.length with hi | hi
  · simp only [List.getElem?_eq_getElem hi, Option.getD_some]; exact h _ (List.getElem_mem hi)
  · simp [List.getElem?_eq_none hi]
@[simp] theorem setL_length (zs : List Int) (p b : Nat) : (setL zs p b).length = zs.length := by simp [setL]
theorem setL_fit {zs : List Int} (h : FitB zs) (p b : Nat) (hb : b < 2) : FitB (setL zs p b) := by
  intro z hz
  rcases List.mem_or_eq_of_mem_set hz with hz | rfl
  · exact h z hz
  · have := fit_at h (p / 8)
    have := tab_lt (7 - p % 8) (by omega) b hb (zs[p / 8]?.getD 0).toNat (by omega)
    omega
theorem bitN_setL {zs : List Int} (h : FitB zs) (p b q : Nat) (hb : b < 2) (hp : p < 8 * zs.length) : bitN (setL zs p b) q = if q = p then b else bitN zs q := by
  have hf := fit_at h (p / 8)
  unfold bitN setL
  by_cases e : p / 8 = q / 8
  · have hl : q / 8 < zs.length := by omega
    rw [e, List.getElem?_set_self (by omega)]
    simp only [Option.getD_some, Int.toNat_natCast]
    rw [tab_bit (7 - q % 8) (by omega) (7 - p % 8) (by omega) b hb _ (by rw [← e]; omega)]
    by_cases c : q = p
    · subst c; simp
    · have : ¬ (7 - q % 8 = 7 - p % 8) := by omega
      simp [c, this]
  · rw [List.getElem?_set_ne e]
    have : q ≠ p := by intro c; subst c; exact e rfl
    simp [this]

theorem row_ext {zs ys : List Int} (hl : zs.length = ys.length) (hz : FitB zs) (hy : FitB ys) (h : ∀ p, p < 8 * zs.length → bitN zs p = bitN ys p) : zs = ys := by
  refine List.ext_getElem hl fun i h1 h2 => ?_
  have z1 := hz _ (List.getElem_mem h1)
  have y1 := hy _ (List.getElem_mem h2)
  have : zs[i].toNat = ys[i].toNat := by
    refine tab_ext _ _ (by omega) (by omega) fun k hk => ?_
    have := h (8 * i + (7 - k)) (by omega)
    unfold bitN at this
    rw [show (8 * i + (7 - k)) / 8 = i by omega, show 7 - (8 * i + (7 - k)) % 8 = k by omega] at this
    simpa [List.getElem?_eq_getElem h1, List.getElem?_eq_getElem h2] using this
  omega

/-- n bits of v written from a place on, i rounds of it. -/
def writeL (zs : List Int) (at' n v : Nat) : Nat → List Int
  | 0 => zs
  | i + 1 => setL (writeL zs at' n v i) (at' + i) (bk v (n - 1 - i))
@[simp] theorem writeL_length (zs : List Int) (at' n v i : Nat) : (writeL zs at' n v i).length = zs.length := by
  induction i with
  | zero => rfl
  | succ i ih => simp [writeL, ih]
theorem writeL_fit {zs : List Int} (h : FitB zs) (at' n v i : Nat) : FitB (writeL zs at' n v i) := by
  induction i with
  | zero => exact h
  | succ i ih => exact setL_fit ih _ _ (bk_lt _ _)
theorem bitN_writeL {zs : List Int} (h : FitB zs) (at' n v i q : Nat) (hp : at' + i ≤ 8 * zs.length) : bitN (writeL zs at' n v i) q = if at' ≤ q ∧ q < at' + i then bk v (n - 1 - (q - at')) else bitN zs q := by
  induction i with
  | zero => have : ¬ (at' ≤ q ∧ q < at' + 0) := by omega
            simp [writeL]; omega
  | succ i ih =>
    rw [writeL, bitN_setL (writeL_fit h _ _ _ _) _ _ _ (bk_lt _ _) (by simp; omega), ih (by omega)]
    by_cases c : q = at' + i
    · subst c
      rw [if_pos rfl, if_pos (by omega), show at' + i - at' = i by omega]
    · rw [if_neg c]
      by_cases d : at' ≤ q ∧ q < at' + i
      · rw [if_pos d, if_pos (by omega)]
      · rw [if_neg d, if_neg (by omega)]

/-- n bits as a number. -/
def accN (zs : List Int) (at' : Nat) : Nat → Nat
  | 0 => 0
  | i + 1 => 2 * accN zs at' i + bitN zs (at' + i)
theorem accN_lt (zs : List Int) (at' i : Nat) : accN zs at' i < 2 ^ i := by
  induction i with
  | zero => simp [accN]
  | succ i ih => have := bitN_lt zs (at' + i); simp only [accN]; rw [Nat.pow_succ]; omega
theorem accN_congr {zs ys : List Int} {at' at2 : Nat} (i : Nat) (h : ∀ j, j < i → bitN zs (at' + j) = bitN ys (at2 + j)) : accN zs at' i = accN ys at2 i := by
  induction i with
  | zero => rfl
  | succ i ih => simp only [accN]; rw [ih (fun j hj => h j (by omega)), h i (by omega)]
theorem accN_of {zs : List Int} {at' n v : Nat} (h : ∀ j, j < n → bitN zs (at' + j) = bk v (n - 1 - j)) (hv : v < 2 ^ n) : accN zs at' n = v := by
  have key : ∀ i, i ≤ n → accN zs at' i = v / 2 ^ (n - i) := by
    intro i hi
    induction i with
    | zero => simp [accN, Nat.div_eq_of_lt hv]
    | succ i ih =>
      simp only [accN]
      rw [ih (by omega), h i (by omega)]
      unfold bk
      rw [show n - i = (n - 1 - i) + 1 by omega, show n - (i + 1) = n - 1 - i by omega, Nat.pow_succ, ← Nat.div_div_eq_div_mul]
      omega
  simpa using key n (Nat.le_refl _)

/-- Bytes of bits, 0 behind them: i rounds over zeros. -/
def packL (l : List Nat) : Nat → List Int
  | 0 => List.replicate ((l.length + 7) / 8) 0
  | i + 1 => setL (packL l i) i (if l[i]?.getD 0 = 1 then 1 else 0)
@[simp] theorem packL_length (l : List Nat) (i : Nat) : (packL l i).length = (l.length + 7) / 8 := by
  induction i with
  | zero => simp [packL]
  | succ i ih => simp [packL, ih]
theorem packL_fit (l : List Nat) (i : Nat) : FitB (packL l i) := by
  induction i with
  | zero => intro z hz; have := List.eq_of_mem_replicate hz; subst this; decide
  | succ i ih => exact setL_fit ih _ _ (by split <;> decide)
theorem bitN_zero (n p : Nat) : bitN (List.replicate n 0) p = 0 := by
  have : ((List.replicate n (0 : Int))[p / 8]?.getD 0) = 0 := by
    rw [List.getElem?_replicate]; split <;> rfl
  unfold bitN
  rw [this]
  simp [bk]
theorem bitN_packL (l : List Nat) (i q : Nat) (hi : i ≤ l.length) : bitN (packL l i) q = if q < i ∧ l[q]?.getD 0 = 1 then 1 else 0 := by
  induction i with
  | zero => simp [packL, bitN_zero]
  | succ i ih =>
    rw [packL, bitN_setL (packL_fit _ _) _ _ _ (by split <;> decide) (by simp; omega), ih (by omega)]
    by_cases c : q = i
    · subst c; simp
    · rw [if_neg c]
      by_cases d : q < i
      · simp [d, show q < i + 1 by omega]
      · simp [d, show ¬ q < i + 1 by omega]

/-- All bits of a row. -/
def bitsL (zs : List Int) : List Nat := (List.range (8 * zs.length)).map (bitN zs)
@[simp] theorem bitsL_length (zs : List Int) : (bitsL zs).length = 8 * zs.length := by simp [bitsL]
theorem bitsL_get (zs : List Int) (q : Nat) (h : q < 8 * zs.length) : (bitsL zs)[q]? = some (bitN zs q) := by simp [bitsL, h]

end Go.Proofs.YtaebknkjhhcneaaGreatDoor

namespace Go.Proofs.YtaebknkjhhcneaaGreatDoor
open Go Go.RowKit
set_option linter.unusedVariables false
set_option linter.unusedSimpArgs false

/-- A byte whose first n bits are 1. -/
def msk (n : Int) : Nat := 255 - 255 / 2 ^ (min (max n 0) 8).toNat
theorem msk_lt (n : Int) : msk n < 256 := by
  unfold msk
  exact Nat.lt_of_le_of_lt (Nat.sub_le _ _) (by decide)
theorem not_u8 : ∀ k, k < 9 → bits .xor .u8 IntKind.u8.max ((255 : Int) / 2 ^ k) = ((255 - 255 / 2 ^ k : Nat) : Int) := by decide

set_option maxHeartbeats 400000 in
theorem first_calls (n : Int) (w : World) (hn : -1000 ≤ n ∧ n ≤ 1000) : Calls Tryz.prog 186 #[.int .i64 n] w fun e w' => e = .returned (.int .u8 (msk n : Nat)) ∧ w' = w := by
  by_cases h0 : n < 0
  · have hm : msk n = 0 := by unfold msk; rw [show (min (max n 0) 8).toNat = 0 by omega]
    have hx : bits .xor .u8 IntKind.u8.max 255 = 0 := by decide
    rw [hm]
    clear hm
    go_enter Tryz.func186, Tryz.ntmps186
    go_wp2
    all_goals first
      | (exfalso; omega)
      | (go_ret; exact ⟨rfl, rfl⟩)
  · obtain ⟨k, rfl⟩ := Int.eq_ofNat_of_zero_le (by omega : 0 ≤ n)
    by_cases h8 : k ≤ 8
    · have hm : msk k = 255 - 255 / 2 ^ k := by unfold msk; rw [show (min (max (k : Int) 0) 8).toNat = k by omega]
      have hx := not_u8 k (by omega)
      rw [hm]
      clear hm
      generalize (255 - 255 / 2 ^ k) = r at *
      go_enter Tryz.func186, Tryz.ntmps186
      go_wp2
      all_goals first
        | (exfalso; omega)
        | (go_ret; exact ⟨rfl, rfl⟩)
    · have hm : msk k = 255 := by unfold msk; rw [show (min (max (k : Int) 0) 8).toNat = 8 by omega]
      have hx : bits .xor .u8 IntKind.u8.max 0 = 255 := by decide
      rw [hm]
      clear hm
      go_enter Tryz.func186, Tryz.ntmps186
      go_wp2
      all_goals first
        | (exfalso; omega)
        | (go_ret; exact ⟨rfl, rfl⟩)

theorem wrap_i64 (x : Int) (h : -9223372036854775808 ≤ x ∧ x ≤ 9223372036854775807) : IntKind.i64.wrap x = x := by
  have e : IntKind.i64.wrap x = (x + 9223372036854775808) % 18446744073709551616 - 9223372036854775808 := by
    simp [IntKind.wrap, IntKind.bits, IntKind.signed]
    split <;> omega
  rw [e]
  omega

/-- Bytes, all bits behind the first n set to 0, k of them done. -/
def blankL (zs : List Int) (n : Int) : Nat → List Int
  | 0 => zs
  | k + 1 => (blankL zs n k).set k (((((blankL zs n k)[k]?.getD 0).toNat &&& msk (n - 8 * k) : Nat) : Int))
@[simp] theorem blankL_length (zs : List Int) (n : Int) (k : Nat) : (blankL zs n k).length = zs.length := by
  induction k with
  | zero => rfl
  | succ k ih => simp [blankL, ih]
theorem blankL_fit {zs : List Int} (h : FitB zs) (n : Int) (k : Nat) : FitB (blankL zs n k) := by
  induction k with
  | zero => exact h
  | succ k ih =>
    intro z hz
    rcases List.mem_or_eq_of_mem_set hz with hz | rfl
    · exact ih z hz
    · have := fit_at ih k
      have h2 : ((blankL zs n k)[k]?.getD 0).toNat &&& msk (n - 8 * k) ≤ ((blankL zs n k)[k]?.getD 0).toNat := Nat.and_le_left
      omega

/-- Bytes that begin block b, which is open. -/
structure OwnG (w : World) (b : Nat) (zs : List Int) : Prop where
  typed : ∃ cs t, w.heap[b]? = some (.cells cs t (0, 0))
  cell : ∀ j, j < zs.length → w.cell? ⟨b, j, none⟩ = some (.int .u8 (zs[j]?.getD 0))
theorem OwnG.open {b : Nat} {w : World} {zs : List Int} (h : OwnG w b zs) (i : Nat) : w.frozen? ⟨b, i, none⟩ = false := by
  obtain ⟨cs, t, hc⟩ := h.typed
  simp [World.frozen?, hc]
theorem OwnG.set {b : Nat} {w : World} {zs : List Int} (h : OwnG w b zs) (j : Nat) (hj : j < zs.length) (z : Int) : OwnG (w.setCell ⟨b, j, none⟩ (.int .u8 z)) b (zs.set j z) := by
  refine ⟨?_, fun i hi => ?_⟩
  · obtain ⟨cs, t, hc⟩ := h.typed
    exact ⟨cs.setIfInBounds j (.int .u8 z), t, by simp [World.setCell, Array.getElem?_modify, hc]⟩
  · by_cases e : i = j
    · subst e
      rw [List.getElem?_set_self hj]
      have := h.cell i hj
      obtain ⟨cs, t, hc⟩ := h.typed
      simp only [World.cell?, hc] at this
      simp only [World.cell?, World.setCell, Array.getElem?_modify, hc]
      have hlt := (Array.getElem?_eq_some_iff.1 this).1
      simp [hlt]
    · rw [List.getElem?_set_ne (by omega), World.cell?_setCell_other _ _ _ _ (by intro c; injection c; omega)]
      exact h.cell i (by simpa using hi)

/-- Nothing but block b is turned. -/
structure Only (b : Nat) (w w' : World) : Prop where
  os : w'.os = w.os
  tape : w'.tape = w.tape
  output : w'.output = w.output
  size : w'.heap.size = w.heap.size
  other : ∀ j, j ≠ b → w'.heap[j]? = w.heap[j]?
theorem Only.refl (b : Nat) (w : World) : Only b w w := ⟨rfl, rfl, rfl, rfl, fun _ _ => rfl⟩
theorem Only.set {b : Nat} {u w : World} (h : Only b u w) (i : Nat) (v : Value) : Only b u (w.setCell ⟨b, i, none⟩ v) :=
  ⟨h.os, h.tape, h.output, by rw [← h.size]; simp [World.setCell], fun j hj => (Below.heap_setCell _ _ _ _ hj).trans (h.other j hj)⟩
theorem Only.drew {b : Nat} {u w : World} (h : Only b u w) : Only b u w.drew := ⟨h.os, h.tape, h.output, h.size, h.other⟩
theorem Only.below {b B : Nat} {u w : World} (h : Only b u w) (hB : B ≤ b) : Below B u w := ⟨h.os, h.tape, h.output, by rw [h.size]; exact Nat.le_refl _, fun j hj => h.other j (by omega)⟩

set_option maxHeartbeats 2000000 in
set_option maxRecDepth 100000 in
theorem blank_calls (b cap : Nat) (zs : List Int) (n : Int) (w : World) (hf : FitB zs) (hl : zs.length ≤ 16) (hn : 0 ≤ n ∧ n ≤ 128) (h : OwnG w b zs) :
    Calls Tryz.prog 169 #[.slice (some ⟨b, 0, none⟩) zs.length cap, .int .i64 n] w fun e w' => e = .returned (.tuple #[]) ∧ OwnG w' b (blankL zs n zs.length) ∧ Only b w w' := by
  go_enter Tryz.func169, Tryz.ntmps169
  go_wp2
  go_loopw [7] (fun i wr => ∃ k : Nat, k ≤ zs.length ∧ i = .int .i64 k ∧ OwnG wr b (blankL zs n k) ∧ Only b w wr) (fun i _ => zs.length - (intOf i).toNat)
  case atStart => exact ⟨0, Nat.zero_le _, rfl, h, Only.refl _ _⟩
  case round =>
    obtain ⟨k, hk, rfl, ho, hB⟩ := hrel
    by_cases hlt : k < zs.length
    · have hset : blankL zs n (k + 1) = (blankL zs n k).set k (((((blankL zs n k)[k]?.getD 0).toNat &&& msk (n - 8 * k) : Nat) : Int)) := rfl
      have hfit := fit_at (blankL_fit hf n k) k
      have hlen : (blankL zs n k).length = zs.length := blankL_length ..
      have hcc := ho.cell k (by omega)
      have hop := ho.open k
      have hos := ho.set k (by omega)
      have hfc := fun w => first_calls (n - 8 * k) w (by omega)
      have hml := msk_lt (n - 8 * k)
      generalize hy : blankL zs n (k + 1) = y at *
      have HY : Hid _ := hy
      clear hy
      generalize blankL zs n k = x at *
      generalize x[k]?.getD 0 = z at *
      generalize msk (n - 8 * k) = mk at *
      have hand := u8_and z (mk : Int) hfit.1 hfit.2 (by omega) (by omega)
      rw [Int.toNat_natCast] at hand
      generalize z.toNat &&& mk = s at *
      have HS : Hid _ := hset
      have HO : Hid _ := hos
      have HF : Hid _ := hfc
      clear hset hos hfc
      have hw1 := wrap_i64 (8 * (k : Int)) (by omega)
      have hw2 := wrap_i64 (n - 8 * (k : Int)) (by omega)
      go_wp2_with fail
      go_region_with (go_at_call 186; refine Calls.mono (HF.out _) ?_; rintro e w1 ⟨rfl, rfl⟩)
      all_goals
        go_wp2
        refine ⟨⟨k + 1, by omega, by simp, ?_, (hB.set _ _).drew⟩, by simp [intOf]; omega⟩
        rw [HY.out, HS.out]
        have ho2 := HO.out (s : Int)
        exact ⟨ho2.typed, ho2.cell⟩
    · obtain rfl : k = zs.length := by omega
      go_wp2
      exact bodyPost_end (results_none rfl _ _ _) rfl ⟨rfl, ho, hB⟩

end Go.Proofs.YtaebknkjhhcneaaGreatDoor

namespace Go.Proofs.YtaebknkjhhcneaaGreatDoor
open Go Go.RowKit
set_option linter.unusedVariables false
set_option linter.unusedSimpArgs false

theorem lbit_u8 (z : Int) (k : Nat) (h0 : 0 ≤ z) (h1 : z < 256) : bits .and .u8 (z / 2 ^ k) 1 = ((bk z.toNat k : Nat) : Int) := by
  have e : z / 2 ^ k = ((z.toNat / 2 ^ k : Nat) : Int) := by
    obtain ⟨n, rfl⟩ := Int.eq_ofNat_of_zero_le h0
    simp
  have hlt : z.toNat / 2 ^ k < 256 := Nat.lt_of_le_of_lt (Nat.div_le_self _ _) (by omega)
  have h := u8_and_nat (z.toNat / 2 ^ k) 1 hlt (by decide)
  rw [e]
  rw [show ((1 : Nat) : Int) = 1 from rfl] at h
  rw [h, Nat.and_one_is_mod]
  rfl

/-- All bits from n on are 0. -/
def lowB (zs : List Int) (n : Nat) : Bool := decide (∀ i, i < 8 * zs.length → n ≤ i → bitN zs i = 0)

set_option maxHeartbeats 1000000 in
set_option maxRecDepth 100000 in
theorem Low4_calls (a0 a1 a2 a3 : Int) (n : Nat) (w : World) (hf : FitB [a0, a1, a2, a3]) (hn : n ≤ 32) :
    Calls Tryz.prog 111 #[.agg #[.int .u8 a0, .int .u8 a1, .int .u8 a2, .int .u8 a3], .int .i64 n] w fun e w' => e = .returned (.bool (lowB [a0, a1, a2, a3] n)) ∧ Below w.heap.size w w' := by
  have hB := (Below.refl w.heap.size w).alloc (Nat.le_refl _) (.cells #[.int .u8 a0, .int .u8 a1, .int .u8 a2, .int .u8 a3] 61)
  have hc : ∀ j, j < 4 → (w.alloc (.cells #[.int .u8 a0, .int .u8 a1, .int .u8 a2, .int .u8 a3] 61)).cell? ⟨w.heap.size, j, none⟩ = some (.int .u8 ([a0, a1, a2, a3][j]?.getD 0)) := by
    intro j hj
    rw [World.cell?_alloc_new]
    match j, hj with
    | 0, _ => rfl
    | 1, _ => rfl
    | 2, _ => rfl
    | 3, _ => rfl
    | n + 4, hj => omega
  have HC : Hid _ := hc
  have HB : Hid _ := hB
  clear hc hB
  go_enter Tryz.func111, Tryz.ntmps111
  go_wp2
  generalize w.alloc (.cells #[.int .u8 a0, .int .u8 a1, .int .u8 a2, .int .u8 a3] 61) = w1 at *
  go_loopw [5] (fun i wr => ∃ k : Nat, n ≤ k ∧ k ≤ 32 ∧ i = .int .i64 k ∧ (∀ i, n ≤ i → i < k → bitN [a0, a1, a2, a3] i = 0) ∧ wr = w1) (fun i _ => 32 - (intOf i).toNat)
  case atStart => exact ⟨n, Nat.le_refl _, hn, rfl, fun i h1 h2 => by omega, rfl⟩
  case round =>
    obtain ⟨k, hk1, hk2, rfl, hal, rfl⟩ := hrel
    have HA : Hid _ := hal
    clear hal
    by_cases hlt : k < 32
    · have hcc := HC.out (k / 8) (by omega)
      have hfit := fit_at hf (k / 8)
      have hbit := lbit_u8 ([a0, a1, a2, a3][k / 8]?.getD 0) (7 - k % 8) hfit.1 hfit.2
      have hbn : bitN [a0, a1, a2, a3] k = bk ([a0, a1, a2, a3][k / 8]?.getD 0).toNat (7 - k % 8) := rfl
      have hb2 := bitN_lt [a0, a1, a2, a3] k
      have hyes : bitN [a0, a1, a2, a3] k = 0 → ∀ i, n ≤ i → i < k + 1 → bitN [a0, a1, a2, a3] i = 0 := fun h0 i h1 h2 => by
        by_cases c : i = k
        · rw [c]; exact h0
        · exact HA.out i h1 (by omega)
      have hno : bitN [a0, a1, a2, a3] k ≠ 0 → lowB [a0, a1, a2, a3] n = false := fun h0 => by
        unfold lowB
        exact decide_eq_false (fun h => h0 (h k (by simp; omega) hk1))
      rw [← hbn] at hbit
      generalize [a0, a1, a2, a3][k / 8]?.getD 0 = z at *
      generalize bitN [a0, a1, a2, a3] k = bb at *
      have HY : Hid _ := hyes
      have HN : Hid _ := hno
      clear hyes hno hbn HA
      have hbb : bb = 0 ∨ bb = 1 := by omega
      rcases hbb with rfl | rfl
      · go_wp2
        exact ⟨⟨k + 1, by omega, by omega, by simp, HY.out rfl, trivial⟩, by simp [intOf]; omega⟩
      · go_wp2
        go_ret
        rw [HN.out (by decide)]
        exact ⟨rfl, HB.out⟩
    · have hlow : lowB [a0, a1, a2, a3] n = true := by
        unfold lowB
        exact decide_eq_true (fun i hi hn' => HA.out i hn' (by simp at hi; omega))
      have HL : Hid _ := hlow
      clear hlow
      go_wp2
      go_ret
      rw [HL.out]
      exact ⟨rfl, HB.out⟩

end Go.Proofs.YtaebknkjhhcneaaGreatDoor

namespace Go.Proofs.YtaebknkjhhcneaaGreatDoor
open Go Go.RowKit
set_option linter.unusedVariables false
set_option linter.unusedSimpArgs false

theorem store_zero {w : World} {R : Nat} (hc : ∀ i, i < 16 → (w.cell? ⟨R, i, none⟩).isSome = true) (hf : ∀ i, w.frozen? ⟨R, i, none⟩ = false) :
    (Instr.storeAt 24 (.pointer (some ⟨R, 0, none⟩)) (.agg #[.int .u8 0, .int .u8 0, .int .u8 0, .int .u8 0, .int .u8 0, .int .u8 0, .int .u8 0, .int .u8 0, .int .u8 0, .int .u8 0, .int .u8 0, .int .u8 0, .int .u8 0, .int .u8 0, .int .u8 0, .int .u8 0])).run Tryz.prog w = .ok () (w.setCells R 0 ((List.replicate 16 (0 : Int)).map (fun z => Value.int .u8 z))) := store16 (List.replicate 16 0) rfl hc hf

theorem grp_addr {B b : Nat} {g : Grp} {w : World} (h : GrpAt B b g w) (hk : g.Ok) (hfull : g.gapped = false → g.given.length = 16) :
    Calls Tryz.prog 154 #[.pointer (some ⟨b, 0, none⟩)] w fun e w' => e = .returned (addrV g.addr) ∧ Below w.heap.size w w' := by
  by_cases hgp : g.gapped = true
  · by_cases hd : g.dots = true
    · exact grp_addr_gapA h hk hgp hd
    · by_cases hp : g.part = []
      · exact grp_addr_gapB h hk hgp hd hp
      · exact grp_addr_gapC h hk hgp hd hp
  · have hgp' : g.gapped = false := by simpa using hgp
    exact grp_addr_full h hk hgp' (hfull hgp')

set_option maxHeartbeats 2000000 in
set_option maxRecDepth 100000 in
theorem parse6_calls (s : ByteArray) (hs : s.size ≤ 140737488355328) (w : World) :
    Calls Tryz.prog 123 #[.string s] w fun e w' => e = .returned (.tuple #[addrV (parse6 s.data.toList).1, .int .i64 (parse6 s.data.toList).2.1, .int .i64 (parse6 s.data.toList).2.2]) ∧ Below w.heap.size w w' := by
  have hh : ((w.alloc (.cells #[.int .u8 0, .int .u8 0, .int .u8 0, .int .u8 0, .int .u8 0, .int .u8 0, .int .u8 0, .int .u8 0, .int .u8 0, .int .u8 0, .int .u8 0, .int .u8 0, .int .u8 0, .int .u8 0, .int .u8 0, .int .u8 0] 24)).alloc (.cells #[.slice none 0 0, .string ⟨#[]⟩, .int .u16 0, .int .i64 0, .bool false, .int .i64 0, .bool false, .int .u8 0, .int .u8 0, .int .u8 0, .int .i64 0, .int .i64 0, .bool false] 221)).heap[w.heap.size + 1]? = some (.cells #[.slice none 0 0, .string ⟨#[]⟩, .int .u16 0, .int .i64 0, .bool false, .int .i64 0, .bool false, .int .u8 0, .int .u8 0, .int .u8 0, .int .i64 0, .int .i64 0, .bool false] 221) := by
    have := heap_alloc_new (w.alloc (.cells #[.int .u8 0, .int .u8 0, .int .u8 0, .int .u8 0, .int .u8 0, .int .u8 0, .int .u8 0, .int .u8 0, .int .u8 0, .int .u8 0, .int .u8 0, .int .u8 0, .int .u8 0, .int .u8 0, .int .u8 0, .int .u8 0] 24)) (.cells #[.slice none 0 0, .string ⟨#[]⟩, .int .u16 0, .int .i64 0, .bool false, .int .i64 0, .bool false, .int .u8 0, .int .u8 0, .int .u8 0, .int .i64 0, .int .i64 0, .bool false] 221)
    simpa using this
  have hnew : GrpIn (w.heap.size + 1) (w.heap.size + 1) Grp.new ((w.alloc (.cells #[.int .u8 0, .int .u8 0, .int .u8 0, .int .u8 0, .int .u8 0, .int .u8 0, .int .u8 0, .int .u8 0, .int .u8 0, .int .u8 0, .int .u8 0, .int .u8 0, .int .u8 0, .int .u8 0, .int .u8 0, .int .u8 0] 24)).alloc (.cells #[.slice none 0 0, .string ⟨#[]⟩, .int .u16 0, .int .i64 0, .bool false, .int .i64 0, .bool false, .int .u8 0, .int .u8 0, .int .u8 0, .int .i64 0, .int .i64 0, .bool false] 221)) := by
    refine ⟨⟨⟨_, hh⟩, Nat.le_refl _, ⟨.slice none 0 0, ?_, World.ownsRow_nil _ _ _ _⟩, ?_, ?_, ?_, ?_, ?_, ?_, ⟨?_, ?_, ?_, ?_, ?_, ?_⟩⟩, Grp.ok_new⟩ <;> (unfold World.cell?; rw [hh]; rfl)
  have hB0 : Below w.heap.size w ((w.alloc (.cells #[.int .u8 0, .int .u8 0, .int .u8 0, .int .u8 0, .int .u8 0, .int .u8 0, .int .u8 0, .int .u8 0, .int .u8 0, .int .u8 0, .int .u8 0, .int .u8 0, .int .u8 0, .int .u8 0, .int .u8 0, .int .u8 0] 24)).alloc (.cells #[.slice none 0 0, .string ⟨#[]⟩, .int .u16 0, .int .i64 0, .bool false, .int .i64 0, .bool false, .int .u8 0, .int .u8 0, .int .u8 0, .int .i64 0, .int .i64 0, .bool false] 221)) := ((Below.refl _ w).alloc (Nat.le_refl _) _).alloc (by simp) _
  have hty : Typed ((w.alloc (.cells #[.int .u8 0, .int .u8 0, .int .u8 0, .int .u8 0, .int .u8 0, .int .u8 0, .int .u8 0, .int .u8 0, .int .u8 0, .int .u8 0, .int .u8 0, .int .u8 0, .int .u8 0, .int .u8 0, .int .u8 0, .int .u8 0] 24)).alloc (.cells #[.slice none 0 0, .string ⟨#[]⟩, .int .u16 0, .int .i64 0, .bool false, .int .i64 0, .bool false, .int .u8 0, .int .u8 0, .int .u8 0, .int .i64 0, .int .i64 0, .bool false] 221)) w.heap.size 24 := Typed.alloc ⟨_, heap_alloc_new w _⟩ _
  have harr : ∀ i, i < 16 → (((w.alloc (.cells #[.int .u8 0, .int .u8 0, .int .u8 0, .int .u8 0, .int .u8 0, .int .u8 0, .int .u8 0, .int .u8 0, .int .u8 0, .int .u8 0, .int .u8 0, .int .u8 0, .int .u8 0, .int .u8 0, .int .u8 0, .int .u8 0] 24)).alloc (.cells #[.slice none 0 0, .string ⟨#[]⟩, .int .u16 0, .int .i64 0, .bool false, .int .i64 0, .bool false, .int .u8 0, .int .u8 0, .int .u8 0, .int .i64 0, .int .i64 0, .bool false] 221)).cell? ⟨w.heap.size, i, none⟩).isSome = true := fun i hi => by
    rw [World.cell?_alloc_lt _ _ _ (by simp)]
    have := (arr_new w).cell i 0 (by rw [List.getElem?_replicate, if_pos hi])
    rw [this]
    rfl
  have hC := read_calls (grp_kind (B := w.heap.size + 1) (b := w.heap.size + 1)) s hs Grp.new _ hnew (by simp) (by simp)
  unfold parse6
  have hgood := read_good (R := grpReader) s.data.toList 0 Grp.new
  generalize grpReader.read s.data.toList 0 Grp.new = x at hC hgood
  have HG : Hid _ := hgood
  clear hgood hh
  go_enter Tryz.func123, Tryz.ntmps123
  go_wp2_with fail
  generalize (w.alloc (.cells #[.int .u8 0, .int .u8 0, .int .u8 0, .int .u8 0, .int .u8 0, .int .u8 0, .int .u8 0, .int .u8 0, .int .u8 0, .int .u8 0, .int .u8 0, .int .u8 0, .int .u8 0, .int .u8 0, .int .u8 0, .int .u8 0] 24)).alloc (.cells #[.slice none 0 0, .string ⟨#[]⟩, .int .u16 0, .int .i64 0, .bool false, .int .i64 0, .bool false, .int .u8 0, .int .u8 0, .int .u8 0, .int .i64 0, .int .i64 0, .bool false] 221) = W0 at hC hnew hB0 hty harr ⊢
  refine hC.mono ?_
  rintro e W1 ⟨hT, hx⟩
  clear hC hnew
  have hty1 : Typed W1 w.heap.size 24 := by
    obtain ⟨cs, hc⟩ := hty
    exact ⟨cs, (hT.below.block w.heap.size (Nat.lt_succ_self _)).trans hc⟩
  have harr1 : ∀ i, i < 16 → (W1.cell? ⟨w.heap.size, i, none⟩).isSome = true := fun i hi => by
    rw [hT.below.cell (p := ⟨w.heap.size, i, none⟩) (Nat.lt_succ_self _)]
    exact harr i hi
  have hB1 : Below w.heap.size w W1 := hB0.trans (hT.below.mono (Nat.le_succ _))
  clear hT hB0 hty harr
  cases x with
  | bad n =>
    subst hx
    have hfz := hty1.open
    have H1 : Hid _ := harr1
    have hst : (Instr.storeAt 24 (.pointer (some ⟨w.heap.size, 0, none⟩)) _).run Tryz.prog W1 = _ := store_zero harr1 hfz
    have HV : Hid _ := Below.setCells (Nat.le_refl _) ((List.replicate 16 (0 : Int)).map (fun z => Value.int .u8 z)) 0 W1 hB1
    have HA5 : Hid _ := arr_stored (l := List.replicate 16 0) rfl harr1 hty1
    generalize W1.setCells w.heap.size 0 ((List.replicate 16 (0 : Int)).map (fun z => Value.int .u8 z)) = V at hst HV HA5
    clear harr1 hfz
    have HST : Hid _ := hst
    clear hst
    go_wp2_with ((with_reducible show wpList _ _ _ _ _ _); refine wpList_store_run rfl (.tmp 2) (.tmp 16) 24 rfl rfl rfl HST.out ?_)
    exact bodyPost_ret (results_cell3 Tryz.results123 rfl (loadVar16 HA5.out)) rfl ⟨rfl, HV.out⟩
  | good g =>
    obtain ⟨rfl, hD⟩ := hx
    have hA := grp_addr hD.cells hD.ok (fun e => Grp.whole_full hD.ok (HG.out g rfl) e)
    go_wp2_with fail
    refine hA.mono ?_
    rintro e W2 ⟨rfl, hB2⟩
    clear hA
    have hlt : w.heap.size < W1.heap.size := by obtain ⟨cs, hc⟩ := hty1; exact (Array.getElem?_eq_some_iff.1 hc).1
    have hty2 : Typed W2 w.heap.size 24 := by
      obtain ⟨cs, hc⟩ := hty1
      exact ⟨cs, (hB2.block w.heap.size hlt).trans hc⟩
    have harr2 : ∀ i, i < 16 → (W2.cell? ⟨w.heap.size, i, none⟩).isSome = true := fun i hi => by
      rw [hB2.cell (p := ⟨w.heap.size, i, none⟩) hlt]
      exact harr1 i hi
    have hB3 : Below w.heap.size w W2 := hB1.trans (hB2.mono hB1.size)
    have hl16 : g.addr.length = 16 := Grp.addr_len hD.ok (HG.out g rfl)
    have hfz := hty2.open
    go_wp2_with (refine wpList_store_run rfl (.tmp 2) (.tmp 18) 24 rfl rfl rfl (store16 g.addr hl16 harr2 hfz) ?_)
    have hV := Below.setCells (Nat.le_refl _) (g.addr.map (fun z => Value.int .u8 z)) 0 W2 hB3
    have hA5 := arr_stored (l := g.addr) hl16 harr2 hty2
    exact bodyPost_ret (results_cell3 Tryz.results123 rfl (loadVar16 hA5)) rfl ⟨rfl, hV⟩

end Go.Proofs.YtaebknkjhhcneaaGreatDoor
