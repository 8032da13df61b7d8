/-
  Bits of rows of bytes as plain functions: one bit, one bit set, runs of them, and rows told by their bits.
  What a call of package addr turns in memory: cells of one block; or own blocks and own rows of bytes.
  Prefixes: a byte's first bits, all bits behind the first ones set to 0.
  IPv4 prefixes: cut, which may be, which covers which.
  IPv4 prefixes: Cut4, Check4 of the program.
  Two addresses are the same byte by byte.
  IPv4 prefixes: Check4 of the program.
  Slices that a call makes by itself and appends to: what an append leaves, and where its row lies.
-/
import Derived.Test.YtloadmpappjceaaDoorRows
import Derived.WalkKit
import Derived.Lib.OthersKept
import Derived.Below
import Derived.Deep.Draws
import Derived.Laws.AppendOwn
import Derived.Laws.BitsAllLaws
import Derived.Deep.RegionWith
import Derived.Handy
import Derived.Stop.BytesEq
import Derived.Deep.AppendSrc
import Derived.Laws.BytesArg
import Derived.Deep.RegionLaw
namespace Go.Proofs.YtloadmpappjceaaDoor
set_option linter.unusedVariables false
open Go

/-- Bit k of a number. -/
def bk (z k : Nat) : Nat := z / 2 ^ k % 2
/-- A number whose bit k is b. -/
def setN (z k b : Nat) : Nat := z - bk z k * 2 ^ k + b * 2 ^ k

theorem bk_lt (z k : Nat) : bk z k < 2 := Nat.mod_lt _ (by decide)
theorem tab_or : ∀ k, k < 8 → ∀ z, z < 256 → z ||| 2 ^ k = setN z k 1 := by decide +kernel
theorem tab_an : ∀ k, k < 8 → ∀ z, z < 256 → z &&& (255 - 2 ^ k) = setN z k 0 := by decide +kernel
theorem tab_lt : ∀ k, k < 8 → ∀ b, b < 2 → ∀ z, z < 256 → setN z k b < 256 := by decide +kernel
theorem tab_bit : ∀ j, j < 8 → ∀ k, k < 8 → ∀ b, b < 2 → ∀ z, z < 256 → bk (setN z k b) j = if j = k then b else bk z j := by decide +kernel
theorem tab_add (z k : Nat) (h : bk z k = 0) : z + 2 ^ k = setN z k 1 := by simp [setN, h]
theorem tab_same (z k : Nat) (h : bk z k = 0) : z = setN z k 0 := by simp [setN, h]
theorem tab_ext (z y : Nat) (hz : z < 256) (hy : y < 256) (h : ∀ k, k < 8 → bk z k = bk y k) : z = y := by
  have h0 := h 0 (by omega); have h1 := h 1 (by omega); have h2 := h 2 (by omega); have h3 := h 3 (by omega)
  have h4 := h 4 (by omega); have h5 := h 5 (by omega); have h6 := h 6 (by omega); have h7 := h 7 (by omega)
  simp only [bk] at h0 h1 h2 h3 h4 h5 h6 h7
  omega

def FitB (zs : List Int) : Prop := ∀ z ∈ zs, 0 ≤ z ∧ z < 256

/-- The bit at a place of a row of bytes. -/
def bitN (zs : List Int) (p : Nat) : Nat := bk (zs[p / 8]?.getD 0).toNat (7 - p % 8)
/-- The row with another bit at a place. -/
def setL (zs : List Int) (p b : Nat) : List Int := zs.set (p / 8) ((setN (zs[p / 8]?.getD 0).toNat (7 - p % 8) b : Nat) : Int)

theorem bitN_lt (zs : List Int) (p : Nat) : bitN zs p < 2 := bk_lt _ _
theorem fit_at {zs : List Int} (h : FitB zs) (i : Nat) : 0 ≤ zs[i]?.getD 0 ∧ zs[i]?.getD 0 < 256 := by
  rcases Nat.lt_or_ge i zs.length with hi | hi
  · simp only [List.getElem?_eq_getElem hi, Option.getD_some]; exact h _ (List.getElem_mem hi)
  · simp [List.getElem?_eq_none hi]
@[simp] theorem setL_length (zs : List Int) (p b : Nat) : (setL zs p b).length = zs.length := by simp [setL]
theorem setL_fit {zs : List Int} (h : FitB zs) (p b : Nat) (hb : b < 2) : FitB (setL zs p b) := by
  intro z hz
  rcases List.mem_or_eq_of_mem_set hz with hz | rfl
  · exact h z hz
  · have := fit_at h (p / 8)
    have := tab_lt (7 - p % 8) (by omega) b hb (zs[p / 8]?.getD 0).toNat (by omega)
    omega
theorem bitN_setL {zs : List Int} (h : FitB zs) (p b q : Nat) (hb : b < 2) (hp : p < 8 * zs.length) : bitN (setL zs p b) q = if q = p then b else bitN zs q := by
  have hf := fit_at h (p / 8)
  unfold bitN setL
  by_cases e : p / 8 = q / 8
  · have hl : q / 8 < zs.length := by omega
    rw [e, List.getElem?_set_self (by omega)]
    simp only [Option.getD_some, Int.toNat_natCast]
    rw [tab_bit (7 - q % 8) (by omega) (7 - p % 8) (by omega) b hb _ (by rw [← e]; omega)]
    by_cases c : q = p
    · subst c; simp
    · have : ¬ (7 - q % 8 = 7 - p % 8) := by omega
      simp [c, this]
  · rw [List.getElem?_set_ne e]
    have : q ≠ p := by intro c; subst c; exact e rfl
    simp [this]

theorem row_ext {zs ys : List Int} (hl : zs.length = ys.length) (hz : FitB zs) (hy : FitB ys) (h : ∀ p, p < 8 * zs.length → bitN zs p = bitN ys p) : zs = ys := by
  refine List.ext_getElem hl fun i h1 h2 => ?_
  have z1 := hz _ (List.getElem_mem h1)
  have y1 := hy _ (List.getElem_mem h2)
  have : zs[i].toNat = ys[i].toNat := by
    refine tab_ext _ _ (by omega) (by omega) fun k hk => ?_
    have := h (8 * i + (7 - k)) (by omega)
    unfold bitN at this
    rw [show (8 * i + (7 - k)) / 8 = i by omega, show 7 - (8 * i + (7 - k)) % 8 = k by omega] at this
    simpa [List.getElem?_eq_getElem h1, List.getElem?_eq_getElem h2] using this
  omega

/-- n bits of v written from a place on, i rounds of it. -/
def writeL (zs : List Int) (at' n v : Nat) : Nat → List Int
  | 0 => zs
  | i + 1 => setL (writeL zs at' n v i) (at' + i) (bk v (n - 1 - i))
@[simp] theorem writeL_length (zs : List Int) (at' n v i : Nat) : (writeL zs at' n v i).length = zs.length := by
  induction i with
  | zero => rfl
  | succ i ih => simp [writeL, ih]
theorem writeL_fit {zs : List Int} (h : FitB zs) (at' n v i : Nat) : FitB (writeL zs at' n v i) := by
  induction i with
  | zero => exact h
  | succ i ih => exact setL_fit ih _ _ (bk_lt _ _)
theorem bitN_writeL {zs : List Int} (h : FitB zs) (at' n v i q : Nat) (hp : at' + i ≤ 8 * zs.length) : bitN (writeL zs at' n v i) q = if at' ≤ q ∧ q < at' + i then bk v (n - 1 - (q - at')) else bitN zs q := by
  induction i with
  | zero => have : ¬ (at' ≤ q ∧ q < at' + 0) := by omega
            simp [writeL]; omega
  | succ i ih =>
    rw [writeL, bitN_setL (writeL_fit h _ _ _ _) _ _ _ (bk_lt _ _) (by simp; omega), ih (by omega)]
    by_cases c : q = at' + i
    · subst c
      rw [if_pos rfl, if_pos (by omega), show at' + i - at' = i by omega]
    · rw [if_neg c]
      by_cases d : at' ≤ q ∧ q < at' + i
      · rw [if_pos d, if_pos (by omega)]
      · rw [if_neg d, if_neg (by omega)]

/-- n bits as a number. -/
def accN (zs : List Int) (at' : Nat) : Nat → Nat
  | 0 => 0
  | i + 1 => 2 * accN zs at' i + bitN zs (at' + i)
theorem accN_lt (zs : List Int) (at' i : Nat) : accN zs at' i < 2 ^ i := by
  induction i with
  | zero => simp [accN]
  | succ i ih => have := bitN_lt zs (at' + i); simp only [accN]; rw [Nat.pow_succ]; omega
theorem accN_congr {zs ys : List Int} {at' at2 : Nat} (i : Nat) (h : ∀ j, j < i → bitN zs (at' + j) = bitN ys (at2 + j)) : accN zs at' i = accN ys at2 i := by
  induction i with
  | zero => rfl
  | succ i ih => simp only [accN]; rw [ih (fun j hj => h j (by omega)), h i (by omega)]
theorem accN_of {zs : List Int} {at' n v : Nat} (h : ∀ j, j < n → bitN zs (at' + j) = bk v (n - 1 - j)) (hv : v < 2 ^ n) : accN zs at' n = v := by
  have key : ∀ i, i ≤ n → accN zs at' i = v / 2 ^ (n - i) := by
    intro i hi
    induction i with
    | zero => simp [accN, Nat.div_eq_of_lt hv]
    | succ i ih =>
      simp only [accN]
      rw [ih (by omega), h i (by omega)]
      unfold bk
      rw [show n - i = (n - 1 - i) + 1 by omega, show n - (i + 1) = n - 1 - i by omega, Nat.pow_succ, ← Nat.div_div_eq_div_mul]
      omega
  simpa using key n (Nat.le_refl _)

/-- Bytes of bits, 0 behind them: i rounds over zeros. -/
def packL (l : List Nat) : Nat → List Int
  | 0 => List.replicate ((l.length + 7) / 8) 0
  | i + 1 => setL (packL l i) i (if l[i]?.getD 0 = 1 then 1 else 0)
@[simp] theorem packL_length (l : List Nat) (i : Nat) : (packL l i).length = (l.length + 7) / 8 := by
  induction i with
  | zero => simp [packL]
  | succ i ih => simp [packL, ih]
theorem packL_fit (l : List Nat) (i : Nat) : FitB (packL l i) := by
  induction i with
  | zero => intro z hz; have := List.eq_of_mem_replicate hz; subst this; decide
  | succ i ih => exact setL_fit ih _ _ (by split <;> decide)
theorem bitN_zero (n p : Nat) : bitN (List.replicate n 0) p = 0 := by
  have : ((List.replicate n (0 : Int))[p / 8]?.getD 0) = 0 := by
    rw [List.getElem?_replicate]; split <;> rfl
  unfold bitN
  rw [this]
  simp [bk]
theorem bitN_packL (l : List Nat) (i q : Nat) (hi : i ≤ l.length) : bitN (packL l i) q = if q < i ∧ l[q]?.getD 0 = 1 then 1 else 0 := by
  induction i with
  | zero => simp [packL, bitN_zero]
  | succ i ih =>
    rw [packL, bitN_setL (packL_fit _ _) _ _ _ (by split <;> decide) (by simp; omega), ih (by omega)]
    by_cases c : q = i
    · subst c; simp
    · rw [if_neg c]
      by_cases d : q < i
      · simp [d, show q < i + 1 by omega]
      · simp [d, show ¬ q < i + 1 by omega]

/-- All bits of a row. -/
def bitsL (zs : List Int) : List Nat := (List.range (8 * zs.length)).map (bitN zs)
@[simp] theorem bitsL_length (zs : List Int) : (bitsL zs).length = 8 * zs.length := by simp [bitsL]
theorem bitsL_get (zs : List Int) (q : Nat) (h : q < 8 * zs.length) : (bitsL zs)[q]? = some (bitN zs q) := by simp [bitsL, h]

end Go.Proofs.YtloadmpappjceaaDoor

namespace Go.Proofs.YtloadmpappjceaaDoor
set_option linter.unusedVariables false
set_option linter.unusedSimpArgs false
open Go Go.RowKit

/-- Nothing is turned but k cells of block b, from o on, and how much of the tape is drawn. -/
structure Wrote (b o k : Nat) (w w' : World) : Prop where
  os : w'.os = w.os
  tape : w'.tape = w.tape
  output : w'.output = w.output
  size : w'.heap.size = w.heap.size
  other : ∀ j, j ≠ b → w'.heap[j]? = w.heap[j]?
  typed : ∀ cs t fz, w.heap[b]? = some (.cells cs t fz) → ∃ cs', w'.heap[b]? = some (.cells cs' t fz)
  cell : ∀ i, (i < o ∨ o + k ≤ i) → w'.cell? ⟨b, i, none⟩ = w.cell? ⟨b, i, none⟩

theorem Wrote.refl (b o k : Nat) (w : World) : Wrote b o k w w := ⟨rfl, rfl, rfl, rfl, fun _ _ => rfl, fun cs _ _ h => ⟨cs, h⟩, fun _ _ => rfl⟩

theorem Wrote.trans {b o k : Nat} {u v w : World} (h : Wrote b o k u v) (g : Wrote b o k v w) : Wrote b o k u w :=
  ⟨g.os.trans h.os, g.tape.trans h.tape, g.output.trans h.output, g.size.trans h.size, fun j hj => (g.other j hj).trans (h.other j hj),
    fun cs t fz hc => by obtain ⟨c2, h2⟩ := h.typed cs t fz hc; exact g.typed c2 t fz h2, fun i hi => (g.cell i hi).trans (h.cell i hi)⟩

theorem Wrote.drew {b o k : Nat} {u w : World} (h : Wrote b o k u w) : Wrote b o k u w.drew := ⟨h.os, h.tape, h.output, h.size, h.other, h.typed, h.cell⟩
theorem Wrote.drewN {b o k : Nat} {u w : World} (h : Wrote b o k u w) (n : Nat) : Wrote b o k u (w.drewN n) := ⟨h.os, h.tape, h.output, h.size, h.other, h.typed, h.cell⟩

theorem Wrote.set {b o k : Nat} {u w : World} (h : Wrote b o k u w) {i : Nat} (hi : o ≤ i ∧ i < o + k) (v : Value) : Wrote b o k u (w.setCell ⟨b, i, none⟩ v) := by
  refine h.trans ⟨rfl, rfl, rfl, by simp [World.setCell], fun j hj => Below.heap_setCell _ _ _ _ hj, ?_, fun x hx => World.cell?_setCell_other _ _ _ _ (fun e => ?_)⟩
  · intro cs t fz hc
    have hlt : b < w.heap.size := (Array.getElem?_eq_some_iff.1 hc).1
    refine ⟨cs.setIfInBounds i v, ?_⟩
    simp [World.setCell, Array.getElem?_modify, hc]
  · injection e with e1 e2 e3
    omega

theorem Wrote.mono {b o k o' k' : Nat} {u w : World} (h : Wrote b o k u w) (h1 : o' ≤ o) (h2 : o + k ≤ o' + k') : Wrote b o' k' u w :=
  ⟨h.os, h.tape, h.output, h.size, h.other, h.typed, fun i hi => h.cell i (by omega)⟩

theorem Wrote.below {b o k B : Nat} {u w : World} (h : Wrote b o k u w) (hB : B ≤ b) : Below B u w :=
  ⟨h.os, h.tape, h.output, by rw [h.size]; exact Nat.le_refl _, fun j hj => h.other j (by omega)⟩

/-- Block b is one of n cells of that type, none of them frozen. -/
def Typed (w : World) (b : Nat) (t : TypeId) : Prop := ∃ cs, w.heap[b]? = some (.cells cs t (0, 0))

theorem Typed.wrote {b o k c : Nat} {t : TypeId} {u w : World} (h : Typed u c t) (g : Wrote b o k u w) : Typed w c t := by
  obtain ⟨cs, hc⟩ := h
  by_cases e : c = b
  · subst e; exact g.typed cs t _ hc
  · exact ⟨cs, (g.other c e).trans hc⟩

theorem Typed.open {w : World} {b : Nat} {t : TypeId} (h : Typed w b t) : ∀ i, w.frozen? ⟨b, i, none⟩ = false := by
  obtain ⟨cs, hc⟩ := h
  intro i
  simp [World.frozen?, hc]

/-- Below B all stands, and so does every block but those of one's own and rows of bytes. -/
structure Turns (B : Nat) (own : Nat → Prop) (w w' : World) : Prop where
  below : Below B w w'
  kept : ∀ k o, w.heap[k]? = some o → ¬ own k → (∀ c fz, o ≠ .cells c 5 fz) → w'.heap[k]? = some o

theorem Turns.refl (B : Nat) (own : Nat → Prop) (w : World) : Turns B own w w := ⟨Below.refl _ _, fun _ _ h _ _ => h⟩
theorem Turns.trans {B : Nat} {own : Nat → Prop} {u v w : World} (h : Turns B own u v) (g : Turns B own v w) : Turns B own u w :=
  ⟨h.below.trans g.below, fun k o hk hn ho => g.kept k o (h.kept k o hk hn ho) hn ho⟩
theorem Turns.drewN {B : Nat} {own : Nat → Prop} {u w : World} (h : Turns B own u w) (n : Nat) : Turns B own u (w.drewN n) := ⟨⟨h.below.os, h.below.tape, h.below.output, h.below.size, h.below.block⟩, h.kept⟩
theorem Turns.drew {B : Nat} {own : Nat → Prop} {u w : World} (h : Turns B own u w) : Turns B own u w.drew := ⟨h.below.drew, h.kept⟩
theorem Turns.mono {B : Nat} {own own' : Nat → Prop} {u w : World} (h : Turns B own u w) (ho : ∀ k, own k → own' k) : Turns B own' u w :=
  ⟨h.below, fun k o hk hn hx => h.kept k o hk (fun e => hn (ho k e)) hx⟩
theorem Turns.less {B B' : Nat} {own : Nat → Prop} {u w : World} (h : Turns B own u w) (hB : B' ≤ B) : Turns B' own u w := ⟨h.below.mono hB, h.kept⟩

theorem Wrote.turns {b o k B : Nat} {u w : World} (h : Wrote b o k u w) (hB : B ≤ b) : Turns B (fun j => j = b) u w :=
  ⟨h.below hB, fun j x hj hn _ => (h.other j hn).trans hj⟩

theorem Turns.alloc {B : Nat} {own : Nat → Prop} {u w : World} (h : Turns B own u w) (hB : B ≤ w.heap.size) (o : Obj) : Turns B own u (w.alloc o) :=
  ⟨h.below.alloc hB o, fun k x hk hn hx => by
    have h1 := h.kept k x hk hn hx
    rw [Below.heap_alloc w o k (Array.getElem?_eq_some_iff.1 h1).1]
    exact h1⟩

/-- What an append to an own row of bytes does. -/
theorem Turns.grown {B : Nat} {own : Nat → Prop} {u w w' : World} {n : Nat} {v : Value} {xs : List Value} (h : Turns B own u w) (hown : w.ownsRow B 5 1 v n xs) (hg : w.grownBy w' v.ownBlock) (hB : B ≤ w.heap.size) : Turns B own u w' := by
  refine ⟨h.below.grown hg hB (fun k hk => (hown.lt k hk).1), fun k o hk hn hx => ?_⟩
  have h1 := h.kept k o hk hn hx
  rw [hg.block k (Array.getElem?_eq_some_iff.1 h1).1]
  · exact h1
  · intro e
    rcases hown.2 with ⟨rfl, _⟩ | ⟨g, cap, cur, rfl, _, hgg, _⟩
    · simp [Value.ownBlock] at e
    · simp only [Value.ownBlock, Option.some.injEq] at e
      subst e
      rw [h1] at hgg
      exact hx _ _ (Option.some.inj hgg)

end Go.Proofs.YtloadmpappjceaaDoor

namespace Go.Proofs.YtloadmpappjceaaDoor
open Go Go.RowKit
set_option linter.unusedVariables false
set_option linter.unusedSimpArgs false

/-- A byte whose first n bits are 1. -/
def msk (n : Int) : Nat := 255 - 255 / 2 ^ (min (max n 0) 8).toNat
theorem msk_lt (n : Int) : msk n < 256 := by
  unfold msk
  exact Nat.lt_of_le_of_lt (Nat.sub_le _ _) (by decide)
theorem not_u8 : ∀ k, k < 9 → bits .xor .u8 IntKind.u8.max ((255 : Int) / 2 ^ k) = ((255 - 255 / 2 ^ k : Nat) : Int) := by decide

set_option maxHeartbeats 400000 in
theorem first_calls (n : Int) (w : World) (hn : -1000 ≤ n ∧ n ≤ 1000) : Calls Tryd.prog 98 #[.int .i64 n] w fun e w' => e = .returned (.int .u8 (msk n : Nat)) ∧ w' = w := by
  by_cases h0 : n < 0
  · have hm : msk n = 0 := by unfold msk; rw [show (min (max n 0) 8).toNat = 0 by omega]
    have hx : bits .xor .u8 IntKind.u8.max 255 = 0 := by decide
    rw [hm]
    clear hm
    go_enter Tryd.func98, Tryd.ntmps98
    go_wp2
    all_goals first
      | (exfalso; omega)
      | (go_ret; exact ⟨rfl, rfl⟩)
  · obtain ⟨k, rfl⟩ := Int.eq_ofNat_of_zero_le (by omega : 0 ≤ n)
    by_cases h8 : k ≤ 8
    · have hm : msk k = 255 - 255 / 2 ^ k := by unfold msk; rw [show (min (max (k : Int) 0) 8).toNat = k by omega]
      have hx := not_u8 k (by omega)
      rw [hm]
      clear hm
      generalize (255 - 255 / 2 ^ k) = r at *
      go_enter Tryd.func98, Tryd.ntmps98
      go_wp2
      all_goals first
        | (exfalso; omega)
        | (go_ret; exact ⟨rfl, rfl⟩)
    · have hm : msk k = 255 := by unfold msk; rw [show (min (max (k : Int) 0) 8).toNat = 8 by omega]
      have hx : bits .xor .u8 IntKind.u8.max 0 = 255 := by decide
      rw [hm]
      clear hm
      go_enter Tryd.func98, Tryd.ntmps98
      go_wp2
      all_goals first
        | (exfalso; omega)
        | (go_ret; exact ⟨rfl, rfl⟩)

theorem wrap_i64 (x : Int) (h : -9223372036854775808 ≤ x ∧ x ≤ 9223372036854775807) : IntKind.i64.wrap x = x := by
  have e : IntKind.i64.wrap x = (x + 9223372036854775808) % 18446744073709551616 - 9223372036854775808 := by
    simp [IntKind.wrap, IntKind.bits, IntKind.signed]
    split <;> omega
  rw [e]
  omega

/-- Bytes, all bits behind the first n set to 0, k of them done. -/
def blankL (zs : List Int) (n : Int) : Nat → List Int
  | 0 => zs
  | k + 1 => (blankL zs n k).set k (((((blankL zs n k)[k]?.getD 0).toNat &&& msk (n - 8 * k) : Nat) : Int))
@[simp] theorem blankL_length (zs : List Int) (n : Int) (k : Nat) : (blankL zs n k).length = zs.length := by
  induction k with
  | zero => rfl
  | succ k ih => simp [blankL, ih]
theorem blankL_fit {zs : List Int} (h : FitB zs) (n : Int) (k : Nat) : FitB (blankL zs n k) := by
  induction k with
  | zero => exact h
  | succ k ih =>
    intro z hz
    rcases List.mem_or_eq_of_mem_set hz with hz | rfl
    · exact ih z hz
    · have := fit_at ih k
      have h2 : ((blankL zs n k)[k]?.getD 0).toNat &&& msk (n - 8 * k) ≤ ((blankL zs n k)[k]?.getD 0).toNat := Nat.and_le_left
      omega

/-- Bytes that begin block b, which is open. -/
structure OwnG (w : World) (b : Nat) (zs : List Int) : Prop where
  typed : ∃ cs t, w.heap[b]? = some (.cells cs t (0, 0))
  cell : ∀ j, j < zs.length → w.cell? ⟨b, j, none⟩ = some (.int .u8 (zs[j]?.getD 0))
theorem OwnG.open {b : Nat} {w : World} {zs : List Int} (h : OwnG w b zs) (i : Nat) : w.frozen? ⟨b, i, none⟩ = false := by
  obtain ⟨cs, t, hc⟩ := h.typed
  simp [World.frozen?, hc]
theorem OwnG.set {b : Nat} {w : World} {zs : List Int} (h : OwnG w b zs) (j : Nat) (hj : j < zs.length) (z : Int) : OwnG (w.setCell ⟨b, j, none⟩ (.int .u8 z)) b (zs.set j z) := by
  refine ⟨?_, fun i hi => ?_⟩
  · obtain ⟨cs, t, hc⟩ := h.typed
    exact ⟨cs.setIfInBounds j (.int .u8 z), t, by simp [World.setCell, Array.getElem?_modify, hc]⟩
  · by_cases e : i = j
    · subst e
      rw [List.getElem?_set_self hj]
      have := h.cell i hj
      obtain ⟨cs, t, hc⟩ := h.typed
      simp only [World.cell?, hc] at this
      simp only [World.cell?, World.setCell, Array.getElem?_modify, hc]
      have hlt := (Array.getElem?_eq_some_iff.1 this).1
      simp [hlt]
    · rw [List.getElem?_set_ne (by omega), World.cell?_setCell_other _ _ _ _ (by intro c; injection c; omega)]
      exact h.cell i (by simpa using hi)

/-- Nothing but block b is turned. -/
structure Only (b : Nat) (w w' : World) : Prop where
  os : w'.os = w.os
  tape : w'.tape = w.tape
  output : w'.output = w.output
  size : w'.heap.size = w.heap.size
  other : ∀ j, j ≠ b → w'.heap[j]? = w.heap[j]?
theorem Only.refl (b : Nat) (w : World) : Only b w w := ⟨rfl, rfl, rfl, rfl, fun _ _ => rfl⟩
theorem Only.set {b : Nat} {u w : World} (h : Only b u w) (i : Nat) (v : Value) : Only b u (w.setCell ⟨b, i, none⟩ v) :=
  ⟨h.os, h.tape, h.output, by rw [← h.size]; simp [World.setCell], fun j hj => (Below.heap_setCell _ _ _ _ hj).trans (h.other j hj)⟩
theorem Only.drew {b : Nat} {u w : World} (h : Only b u w) : Only b u w.drew := ⟨h.os, h.tape, h.output, h.size, h.other⟩
theorem Only.below {b B : Nat} {u w : World} (h : Only b u w) (hB : B ≤ b) : Below B u w := ⟨h.os, h.tape, h.output, by rw [h.size]; exact Nat.le_refl _, fun j hj => h.other j (by omega)⟩

set_option maxHeartbeats 2000000 in
set_option maxRecDepth 100000 in
theorem blank_calls (b cap : Nat) (zs : List Int) (n : Int) (w : World) (hf : FitB zs) (hl : zs.length ≤ 16) (hn : 0 ≤ n ∧ n ≤ 128) (h : OwnG w b zs) :
    Calls Tryd.prog 84 #[.slice (some ⟨b, 0, none⟩) zs.length cap, .int .i64 n] w fun e w' => e = .returned (.tuple #[]) ∧ OwnG w' b (blankL zs n zs.length) ∧ Only b w w' := by
  go_enter Tryd.func84, Tryd.ntmps84
  go_wp2
  go_loopw [7] (fun i wr => ∃ k : Nat, k ≤ zs.length ∧ i = .int .i64 k ∧ OwnG wr b (blankL zs n k) ∧ Only b w wr) (fun i _ => zs.length - (intOf i).toNat)
  case atStart => exact ⟨0, Nat.zero_le _, rfl, h, Only.refl _ _⟩
  case round =>
    obtain ⟨k, hk, rfl, ho, hB⟩ := hrel
    by_cases hlt : k < zs.length
    · have hset : blankL zs n (k + 1) = (blankL zs n k).set k (((((blankL zs n k)[k]?.getD 0).toNat &&& msk (n - 8 * k) : Nat) : Int)) := rfl
      have hfit := fit_at (blankL_fit hf n k) k
      have hlen : (blankL zs n k).length = zs.length := blankL_length ..
      have hcc := ho.cell k (by omega)
      have hop := ho.open k
      have hos := ho.set k (by omega)
      have hfc := fun w => first_calls (n - 8 * k) w (by omega)
      have hml := msk_lt (n - 8 * k)
      generalize hy : blankL zs n (k + 1) = y at *
      have HY : Hid _ := hy
      clear hy
      generalize blankL zs n k = x at *
      generalize x[k]?.getD 0 = z at *
      generalize msk (n - 8 * k) = mk at *
      have hand := u8_and z (mk : Int) hfit.1 hfit.2 (by omega) (by omega)
      rw [Int.toNat_natCast] at hand
      generalize z.toNat &&& mk = s at *
      have HS : Hid _ := hset
      have HO : Hid _ := hos
      have HF : Hid _ := hfc
      clear hset hos hfc
      have hw1 := wrap_i64 (8 * (k : Int)) (by omega)
      have hw2 := wrap_i64 (n - 8 * (k : Int)) (by omega)
      go_wp2_with fail
      go_region_with (go_at_call 98; refine Calls.mono (HF.out _) ?_; rintro e w1 ⟨rfl, rfl⟩)
      all_goals
        go_wp2
        refine ⟨⟨k + 1, by omega, by simp, ?_, (hB.set _ _).drew⟩, by simp [intOf]; omega⟩
        rw [HY.out, HS.out]
        have ho2 := HO.out (s : Int)
        exact ⟨ho2.typed, ho2.cell⟩
    · obtain rfl : k = zs.length := by omega
      go_wp2
      exact bodyPost_end (results_none rfl _ _ _) rfl ⟨rfl, ho, hB⟩

end Go.Proofs.YtloadmpappjceaaDoor

namespace Go.Proofs.YtloadmpappjceaaDoor
open Go Go.RowKit
set_option linter.unusedVariables false
set_option linter.unusedSimpArgs false

/-- One byte whose bits behind the first n are 0. -/
def bl (z : Int) (n : Int) : Int := ((z.toNat &&& msk n : Nat) : Int)
theorem bl_fit (z n : Int) (h : 0 ≤ z ∧ z < 256) : 0 ≤ bl z n ∧ bl z n < 256 := by
  unfold bl
  have : z.toNat &&& msk n ≤ z.toNat := Nat.and_le_left
  omega

theorem blank4 (a0 a1 a2 a3 n : Int) : blankL [a0, a1, a2, a3] n 4 = [bl a0 n, bl a1 (n - 8), bl a2 (n - 16), bl a3 (n - 24)] := by
  simp [blankL, bl]

abbrev A4 (a0 a1 a2 a3 : Int) : Value := .agg #[.int .u8 a0, .int .u8 a1, .int .u8 a2, .int .u8 a3]
abbrev P4 (a0 a1 a2 a3 n : Int) : Value := .agg #[.int .u8 a0, .int .u8 a1, .int .u8 a2, .int .u8 a3, .int .i64 n]

theorem alloc_new (w : World) (o : Obj) : (w.alloc o).heap[w.heap.size]? = some o := by
  rw [← World.alloc_eq]
  simp
theorem alloc_new2 (w : World) (o o' : Obj) : ((w.alloc o).alloc o').heap[w.heap.size + 1]? = some o' := by
  have := alloc_new (w.alloc o) o'
  rwa [World.size_alloc] at this

theorem set_same {w : World} {a : Addr} {v : Value} (h : (w.cell? a).isSome = true) : (w.setCell a v).cell? a = some v := by
  cases hc : w.cell? a with
  | none => rw [hc] at h; cases h
  | some u => exact World.cell?_setCell_same _ _ _ hc
theorem set_some {w : World} {a p : Addr} {v : Value} (h : (w.cell? a).isSome = true) : ((w.setCell p v).cell? a).isSome = true := by
  cases hc : w.cell? a with
  | none => rw [hc] at h; cases h
  | some u => obtain ⟨v', hv⟩ := cell?_setCell_some (p := p) (x := v) hc; rw [hv]; rfl
theorem set_other {w : World} {b i j : Nat} {v u : Value} (h : i ≠ j) (hu : w.cell? ⟨b, i, none⟩ = some u) : (w.setCell ⟨b, j, none⟩ v).cell? ⟨b, i, none⟩ = some u := by
  rw [World.cell?_setCell_other _ _ _ _ (by intro e; injection e; omega)]
  exact hu
theorem set5 (w : World) (b : Nat) (v0 v1 v2 v3 v4 : Value) (h0 : (w.cell? ⟨b, 0, none⟩).isSome = true) (h1 : (w.cell? ⟨b, 1, none⟩).isSome = true) (h2 : (w.cell? ⟨b, 2, none⟩).isSome = true) (h3 : (w.cell? ⟨b, 3, none⟩).isSome = true) (h4 : (w.cell? ⟨b, 4, none⟩).isSome = true) :
    (((((w.setCell ⟨b, 0, none⟩ v0).setCell ⟨b, 1, none⟩ v1).setCell ⟨b, 2, none⟩ v2).setCell ⟨b, 3, none⟩ v3).setCell ⟨b, 4, none⟩ v4).cell? ⟨b, 0, none⟩ = some v0 ∧
    (((((w.setCell ⟨b, 0, none⟩ v0).setCell ⟨b, 1, none⟩ v1).setCell ⟨b, 2, none⟩ v2).setCell ⟨b, 3, none⟩ v3).setCell ⟨b, 4, none⟩ v4).cell? ⟨b, 1, none⟩ = some v1 ∧
    (((((w.setCell ⟨b, 0, none⟩ v0).setCell ⟨b, 1, none⟩ v1).setCell ⟨b, 2, none⟩ v2).setCell ⟨b, 3, none⟩ v3).setCell ⟨b, 4, none⟩ v4).cell? ⟨b, 2, none⟩ = some v2 ∧
    (((((w.setCell ⟨b, 0, none⟩ v0).setCell ⟨b, 1, none⟩ v1).setCell ⟨b, 2, none⟩ v2).setCell ⟨b, 3, none⟩ v3).setCell ⟨b, 4, none⟩ v4).cell? ⟨b, 3, none⟩ = some v3 ∧
    (((((w.setCell ⟨b, 0, none⟩ v0).setCell ⟨b, 1, none⟩ v1).setCell ⟨b, 2, none⟩ v2).setCell ⟨b, 3, none⟩ v3).setCell ⟨b, 4, none⟩ v4).cell? ⟨b, 4, none⟩ = some v4 := by
  refine ⟨?_, ?_, ?_, ?_, ?_⟩
  · exact set_other (by decide) (set_other (by decide) (set_other (by decide) (set_other (by decide) (set_same h0))))
  · exact set_other (by decide) (set_other (by decide) (set_other (by decide) (set_same (set_some h1))))
  · exact set_other (by decide) (set_other (by decide) (set_same (set_some (set_some h2))))
  · exact set_other (by decide) (set_same (set_some (set_some (set_some h3))))
  · exact set_same (set_some (set_some (set_some (set_some h4))))

theorem loadP4 {w : World} {R : Nat} {v0 v1 v2 v3 v4 : Value} (d0 : w.cell? ⟨R, 0, none⟩ = some v0) (d1 : w.cell? ⟨R, 1, none⟩ = some v1) (d2 : w.cell? ⟨R, 2, none⟩ = some v2) (d3 : w.cell? ⟨R, 3, none⟩ = some v3) (d4 : w.cell? ⟨R, 4, none⟩ = some v4) :
    (loadVar 29 ⟨R, 0, none⟩).run Tryd.prog w = .ok (.agg #[v0, v1, v2, v3, v4]) w := by
  simp [loadVar, go_sem, d0, d1, d2, d3, d4]
theorem res_cell1 {P : Program} {fn : Func} {a : Tmp} {t : TypeId} (h : fn.results = #[.cell a t]) {tmps : Array Value} {R : Addr} (hp : tmps.getD a undef = .pointer (some R)) {v : Value} {w : World} (hl : (loadVar t R).run P w = .ok v w) :
    (results fn tmps).run P w = .ok v w := by
  rw [Array.getD_eq_getD_getElem?] at hp
  simp [results, h, hp, asAddr, hl]
theorem res_cell2 {P : Program} {fn : Func} {a b : Tmp} {t : TypeId} (h : fn.results = #[.cell a t, .tmp b]) {tmps : Array Value} {R : Addr} (hp : tmps.getD a undef = .pointer (some R)) {v : Value} {w : World} (hl : (loadVar t R).run P w = .ok v w) :
    (results fn tmps).run P w = .ok (.tuple #[v, tmps.getD b undef]) w := by
  rw [Array.getD_eq_getD_getElem?] at hp
  simp [results, h, hp, asAddr, hl]

theorem fit4 {a0 a1 a2 a3 : Int} (h0 : 0 ≤ a0 ∧ a0 < 256) (h1 : 0 ≤ a1 ∧ a1 < 256) (h2 : 0 ≤ a2 ∧ a2 < 256) (h3 : 0 ≤ a3 ∧ a3 < 256) : FitB [a0, a1, a2, a3] := by
  intro z hz
  simp at hz
  rcases hz with rfl | rfl | rfl | rfl <;> assumption

set_option maxHeartbeats 2000000 in
set_option maxRecDepth 100000 in
theorem cut4_calls (a0 a1 a2 a3 n : Int) (w : World) (h0 : 0 ≤ a0 ∧ a0 < 256) (h1 : 0 ≤ a1 ∧ a1 < 256) (h2 : 0 ≤ a2 ∧ a2 < 256) (h3 : 0 ≤ a3 ∧ a3 < 256) (hn : 0 ≤ n ∧ n ≤ 128) :
    Calls Tryd.prog 76 #[A4 a0 a1 a2 a3, .int .i64 n] w fun e w' => e = .returned (P4 (bl a0 n) (bl a1 (n - 8)) (bl a2 (n - 16)) (bl a3 (n - 24)) n) ∧ Below w.heap.size w w' := by
  go_enter Tryd.func76, Tryd.ntmps76
  go_wp2_with fail
  have hG : OwnG ((w.alloc (.cells #[.int .u8 a0, .int .u8 a1, .int .u8 a2, .int .u8 a3] 27)).alloc (.cells #[.int .u8 0, .int .u8 0, .int .u8 0, .int .u8 0, .int .i64 0] 29)) w.heap.size [a0, a1, a2, a3] := by
    have e1 : ((w.alloc (.cells #[.int .u8 a0, .int .u8 a1, .int .u8 a2, .int .u8 a3] 27)).alloc (.cells #[.int .u8 0, .int .u8 0, .int .u8 0, .int .u8 0, .int .i64 0] 29)).heap[w.heap.size]? = some (.cells #[.int .u8 a0, .int .u8 a1, .int .u8 a2, .int .u8 a3] 27) := by
      rw [Below.heap_alloc _ _ _ (by simp)]
      exact alloc_new _ _
    refine ⟨⟨_, _, e1⟩, fun j hj => ?_⟩
    simp only [World.cell?, e1]
    match j, hj with
    | 0, _ => rfl
    | 1, _ => rfl
    | 2, _ => rfl
    | 3, _ => rfl
    | n + 4, hj => simp at hj; omega
  have hR : ((w.alloc (.cells #[.int .u8 a0, .int .u8 a1, .int .u8 a2, .int .u8 a3] 27)).alloc (.cells #[.int .u8 0, .int .u8 0, .int .u8 0, .int .u8 0, .int .i64 0] 29)).heap[w.heap.size + 1]? = some (.cells #[.int .u8 0, .int .u8 0, .int .u8 0, .int .u8 0, .int .i64 0] 29) := alloc_new2 _ _ _
  have hB : Below w.heap.size w ((w.alloc (.cells #[.int .u8 a0, .int .u8 a1, .int .u8 a2, .int .u8 a3] 27)).alloc (.cells #[.int .u8 0, .int .u8 0, .int .u8 0, .int .u8 0, .int .i64 0] 29)) := ((Below.refl _ w).alloc (Nat.le_refl _) _).alloc (by simp) _
  generalize (w.alloc (.cells #[.int .u8 a0, .int .u8 a1, .int .u8 a2, .int .u8 a3] 27)).alloc (.cells #[.int .u8 0, .int .u8 0, .int .u8 0, .int .u8 0, .int .i64 0] 29) = w1 at *
  refine (blank_calls w.heap.size 4 [a0, a1, a2, a3] n w1 (fit4 h0 h1 h2 h3) (by simp) hn hG).mono ?_
  rintro e w2 ⟨rfl, hG2, hO⟩
  have hR2 := (hO.other (w.heap.size + 1) (by omega)).trans hR
  have hB2 := hB.trans (hO.below (Nat.le_refl _))
  rw [show [a0, a1, a2, a3].length = 4 from rfl, blank4] at hG2
  have c0 := hG2.cell 0 (by simp)
  have c1 := hG2.cell 1 (by simp)
  have c2 := hG2.cell 2 (by simp)
  have c3 := hG2.cell 3 (by simp)
  simp only [List.getElem?_cons_zero, List.getElem?_cons_succ, Option.getD_some] at c0 c1 c2 c3
  have hfz : ∀ i, w2.frozen? ⟨w.heap.size + 1, i, none⟩ = false := fun i => by simp [World.frozen?, hR2]
  have r0 : w2.cell? ⟨w.heap.size + 1, 0, none⟩ = some (.int .u8 0) := by simp [World.cell?, hR2]
  have r1 : w2.cell? ⟨w.heap.size + 1, 1, none⟩ = some (.int .u8 0) := by simp [World.cell?, hR2]
  have r2 : w2.cell? ⟨w.heap.size + 1, 2, none⟩ = some (.int .u8 0) := by simp [World.cell?, hR2]
  have r3 : w2.cell? ⟨w.heap.size + 1, 3, none⟩ = some (.int .u8 0) := by simp [World.cell?, hR2]
  have r4 : w2.cell? ⟨w.heap.size + 1, 4, none⟩ = some (.int .i64 0) := by simp [World.cell?, hR2]
  generalize hx0 : bl a0 n = x0 at *
  have HX0 : Hid _ := hx0
  clear hx0
  generalize hx1 : bl a1 (n - 8) = x1 at *
  have HX1 : Hid _ := hx1
  clear hx1
  generalize hx2 : bl a2 (n - 16) = x2 at *
  have HX2 : Hid _ := hx2
  clear hx2
  generalize hx3 : bl a3 (n - 24) = x3 at *
  have HX3 : Hid _ := hx3
  clear hx3
  clear hR hR2 hG hG2 hB hO
  go_wp2
  obtain ⟨d0, d1, d2, d3, d4⟩ := set5 w2 (w.heap.size + 1) (.int .u8 x0) (.int .u8 x1) (.int .u8 x2) (.int .u8 x3) (.int .i64 n) (by rw [r0]; rfl) (by rw [r1]; rfl) (by rw [r2]; rfl) (by rw [r3]; rfl) (by rw [r4]; rfl)
  have hB3 := hB2.trans (((((((Only.refl (w.heap.size + 1) w2).set 0 (.int .u8 x0)).set 1 (.int .u8 x1)).set 2 (.int .u8 x2)).set 3 (.int .u8 x3)).set 4 (.int .i64 n)).below (show w.heap.size ≤ w.heap.size + 1 by omega))
  generalize ((((w2.setCell ⟨w.heap.size + 1, 0, none⟩ (.int .u8 x0)).setCell ⟨w.heap.size + 1, 1, none⟩ (.int .u8 x1)).setCell ⟨w.heap.size + 1, 2, none⟩ (.int .u8 x2)).setCell ⟨w.heap.size + 1, 3, none⟩ (.int .u8 x3)).setCell ⟨w.heap.size + 1, 4, none⟩ (.int .i64 n) = w5 at *
  clear r0 r1 r2 r3 r4 c0 c1 c2 c3 hfz hB2
  refine bodyPost_ret (res_cell1 rfl rfl (loadP4 d0 d1 d2 d3 d4)) rfl ?_
  refine ⟨?_, hB3⟩
  rw [HX0.out, HX1.out, HX2.out, HX3.out]

end Go.Proofs.YtloadmpappjceaaDoor

namespace Go.Proofs.YtloadmpappjceaaDoor
open Go Go.RowKit
set_option linter.unusedVariables false
set_option linter.unusedSimpArgs false

/-- A prefix as numbers. -/
structure Pf where
  a0 : Int
  a1 : Int
  a2 : Int
  a3 : Int
  n : Int
deriving DecidableEq
def Pf.val (p : Pf) : Value := .agg #[.int .u8 p.a0, .int .u8 p.a1, .int .u8 p.a2, .int .u8 p.a3, .int .i64 p.n]
def Pf.adr (p : Pf) : Value := .agg #[.int .u8 p.a0, .int .u8 p.a1, .int .u8 p.a2, .int .u8 p.a3]
structure Pf.Ok (p : Pf) : Prop where
  h0 : 0 ≤ p.a0 ∧ p.a0 < 256
  h1 : 0 ≤ p.a1 ∧ p.a1 < 256
  h2 : 0 ≤ p.a2 ∧ p.a2 < 256
  h3 : 0 ≤ p.a3 ∧ p.a3 < 256
  hn : -9223372036854775808 ≤ p.n ∧ p.n ≤ 9223372036854775807
def cutP (p : Pf) (n : Int) : Pf := ⟨bl p.a0 n, bl p.a1 (n - 8), bl p.a2 (n - 16), bl p.a3 (n - 24), n⟩
def inR (n : Int) : Bool := decide (0 ≤ n) && decide (n ≤ 32)
/-- May the prefix be? -/
def okP (p : Pf) : Bool := inR p.n && decide (p = cutP p p.n)

/-- A block for a prefix, in every world above. -/
structure Slot (w : World) (R : Nat) : Prop where
  fz : ∀ i, w.frozen? ⟨R, i, none⟩ = false
  r0 : w.cell? ⟨R, 0, none⟩ = some (.int .u8 0)
  r1 : w.cell? ⟨R, 1, none⟩ = some (.int .u8 0)
  r2 : w.cell? ⟨R, 2, none⟩ = some (.int .u8 0)
  r3 : w.cell? ⟨R, 3, none⟩ = some (.int .u8 0)
  r4 : w.cell? ⟨R, 4, none⟩ = some (.int .i64 0)
theorem Slot.of {w w' : World} {R : Nat} (h : w.heap[R]? = some (.cells #[.int .u8 0, .int .u8 0, .int .u8 0, .int .u8 0, .int .i64 0] 29)) (hb : Below w.heap.size w w') : Slot w' R := by
  have h' := (hb.block R (Array.getElem?_eq_some_iff.1 h).1).trans h
  exact ⟨fun i => by simp [World.frozen?, h'], by simp [World.cell?, h'], by simp [World.cell?, h'], by simp [World.cell?, h'], by simp [World.cell?, h'], by simp [World.cell?, h']⟩

set_option maxHeartbeats 2000000 in
set_option maxRecDepth 100000 in
theorem Cut4_yes (a0 a1 a2 a3 n : Int) (w : World) (h0 : 0 ≤ a0 ∧ a0 < 256) (h1 : 0 ≤ a1 ∧ a1 < 256) (h2 : 0 ≤ a2 ∧ a2 < 256) (h3 : 0 ≤ a3 ∧ a3 < 256) (hn : 0 ≤ n ∧ n ≤ 32) :
    Calls Tryd.prog 58 #[A4 a0 a1 a2 a3, .int .i64 n] w fun e w' => e = .returned (.tuple #[P4 (bl a0 n) (bl a1 (n - 8)) (bl a2 (n - 16)) (bl a3 (n - 24)) n, .int .i64 0]) ∧ Below w.heap.size w w' := by
  have hB : Below w.heap.size w ((w.alloc (.cells #[.int .u8 a0, .int .u8 a1, .int .u8 a2, .int .u8 a3] 27)).alloc (.cells #[.int .u8 0, .int .u8 0, .int .u8 0, .int .u8 0, .int .i64 0] 29)) := ((Below.refl _ w).alloc (Nat.le_refl _) _).alloc (by simp) _
  have hR : ((w.alloc (.cells #[.int .u8 a0, .int .u8 a1, .int .u8 a2, .int .u8 a3] 27)).alloc (.cells #[.int .u8 0, .int .u8 0, .int .u8 0, .int .u8 0, .int .i64 0] 29)).heap[w.heap.size + 1]? = some (.cells #[.int .u8 0, .int .u8 0, .int .u8 0, .int .u8 0, .int .i64 0] 29) := alloc_new2 _ _ _
  have hcut := cut4_calls a0 a1 a2 a3 n ((w.alloc (.cells #[.int .u8 a0, .int .u8 a1, .int .u8 a2, .int .u8 a3] 27)).alloc (.cells #[.int .u8 0, .int .u8 0, .int .u8 0, .int .u8 0, .int .i64 0] 29)) h0 h1 h2 h3 (by omega)
  have HC : Hid _ := hcut
  have HR : Hid _ := hR
  have HB : Hid _ := hB
  clear hcut hR hB
  go_enter Tryd.func58, Tryd.ntmps58
  go_wp2_with fail
  refine Calls.mono HC.out ?_
  rintro e w2 ⟨rfl, hB2⟩
  obtain ⟨hfz, r0, r1, r2, r3, r4⟩ := Slot.of HR.out hB2
  have hBB := HB.out.trans (hB2.mono HB.out.size)
  clear HC HR HB hB2
  generalize hx0 : bl a0 n = x0 at *
  generalize hx1 : bl a1 (n - 8) = x1 at *
  generalize hx2 : bl a2 (n - 16) = x2 at *
  generalize hx3 : bl a3 (n - 24) = x3 at *
  have HX0 : Hid _ := hx0
  have HX1 : Hid _ := hx1
  have HX2 : Hid _ := hx2
  have HX3 : Hid _ := hx3
  clear hx0 hx1 hx2 hx3
  go_wp2
  obtain ⟨d0, d1, d2, d3, d4⟩ := set5 w2 (w.heap.size + 1) (.int .u8 x0) (.int .u8 x1) (.int .u8 x2) (.int .u8 x3) (.int .i64 n) (by rw [r0]; rfl) (by rw [r1]; rfl) (by rw [r2]; rfl) (by rw [r3]; rfl) (by rw [r4]; rfl)
  have hB3 := hBB.trans (((((((Only.refl (w.heap.size + 1) w2).set 0 (.int .u8 x0)).set 1 (.int .u8 x1)).set 2 (.int .u8 x2)).set 3 (.int .u8 x3)).set 4 (.int .i64 n)).below (show w.heap.size ≤ w.heap.size + 1 by omega))
  generalize ((((w2.setCell ⟨w.heap.size + 1, 0, none⟩ (.int .u8 x0)).setCell ⟨w.heap.size + 1, 1, none⟩ (.int .u8 x1)).setCell ⟨w.heap.size + 1, 2, none⟩ (.int .u8 x2)).setCell ⟨w.heap.size + 1, 3, none⟩ (.int .u8 x3)).setCell ⟨w.heap.size + 1, 4, none⟩ (.int .i64 n) = w5 at *
  refine bodyPost_ret (res_cell2 rfl rfl (loadP4 d0 d1 d2 d3 d4)) rfl ?_
  refine ⟨?_, hB3⟩
  rw [HX0.out, HX1.out, HX2.out, HX3.out]
  rfl

set_option maxHeartbeats 2000000 in
set_option maxRecDepth 100000 in
theorem Cut4_no (a0 a1 a2 a3 n : Int) (w : World) (hn : n < 0 ∨ 32 < n) (hb : -9223372036854775808 ≤ n ∧ n ≤ 9223372036854775807) :
    Calls Tryd.prog 58 #[A4 a0 a1 a2 a3, .int .i64 n] w fun e w' => e = .returned (.tuple #[P4 0 0 0 0 0, .int .i64 5]) ∧ Below w.heap.size w w' := by
  have hB : Below w.heap.size w ((w.alloc (.cells #[.int .u8 a0, .int .u8 a1, .int .u8 a2, .int .u8 a3] 27)).alloc (.cells #[.int .u8 0, .int .u8 0, .int .u8 0, .int .u8 0, .int .i64 0] 29)) := ((Below.refl _ w).alloc (Nat.le_refl _) _).alloc (by simp) _
  have hR : ((w.alloc (.cells #[.int .u8 a0, .int .u8 a1, .int .u8 a2, .int .u8 a3] 27)).alloc (.cells #[.int .u8 0, .int .u8 0, .int .u8 0, .int .u8 0, .int .i64 0] 29)).heap[w.heap.size + 1]? = some (.cells #[.int .u8 0, .int .u8 0, .int .u8 0, .int .u8 0, .int .i64 0] 29) := alloc_new2 _ _ _
  obtain ⟨hfz, r0, r1, r2, r3, r4⟩ := Slot.of hR (Below.refl _ _)
  have hl := loadP4 r0 r1 r2 r3 r4
  have HL : Hid _ := hl
  clear hl hR hfz r0 r1 r2 r3 r4
  rcases hn with hn | hn
  all_goals
    go_enter Tryd.func58, Tryd.ntmps58
    go_wp2
    exact bodyPost_ret (res_cell2 rfl rfl HL.out) rfl ⟨rfl, hB⟩

end Go.Proofs.YtloadmpappjceaaDoor

namespace Go.Proofs.YtloadmpappjceaaDoor
open Go Go.RowKit
set_option linter.unusedVariables false
set_option linter.unusedSimpArgs false

theorem u8_back (z : Int) (h : 0 ≤ z ∧ z < 256) : (((UInt8.ofNat z.toNat).toNat : Nat) : Int) = z := by
  have : z.toNat % 256 = z.toNat := Nat.mod_eq_of_lt (by omega)
  simp only [UInt8.toNat_ofNat', this]
  omega
theorem cells_back (zs : List Int) (h : FitB zs) : (zs.map (fun z => UInt8.ofNat z.toNat)).map (fun u => Value.int .u8 (u.toNat : Int)) = zs.map (fun z => Value.int .u8 z) := by
  rw [List.map_map]
  refine List.map_congr_left fun z hz => ?_
  simp only [Function.comp_apply, u8_back z (h z hz)]
theorem bytes_inj (zs ys : List Int) (h : FitB zs) (g : FitB ys) : ((zs.map (fun z => UInt8.ofNat z.toNat)) == (ys.map (fun z => UInt8.ofNat z.toNat))) = decide (zs = ys) := by
  rw [Bool.eq_iff_iff]
  simp only [beq_iff_eq, decide_eq_true_eq]
  constructor
  · intro e
    have e2 := congrArg (List.map (fun u : UInt8 => ((u.toNat : Nat) : Int))) e
    rw [List.map_map, List.map_map] at e2
    have q1 : zs.map ((fun u : UInt8 => ((u.toNat : Nat) : Int)) ∘ fun z => UInt8.ofNat z.toNat) = zs := by
      conv => rhs; rw [← List.map_id zs]
      exact List.map_congr_left fun z hz => u8_back z (h z hz)
    have q2 : ys.map ((fun u : UInt8 => ((u.toNat : Nat) : Int)) ∘ fun z => UInt8.ofNat z.toNat) = ys := by
      conv => rhs; rw [← List.map_id ys]
      exact List.map_congr_left fun z hz => u8_back z (g z hz)
    rw [q1, q2] at e2
    exact e2
  · intro e; rw [e]

theorem eq_arr4 (d : Nat) (zs ys : List Int) (h : FitB zs) (g : FitB ys) (hl : zs.length = 4) (gl : ys.length = 4) (W : World) :
    (Op.equalIn (d + 2) 27 (.agg (zs.map (fun z => Value.int .u8 z)).toArray) (.agg (ys.map (fun z => Value.int .u8 z)).toArray)).run Tryd.prog W = .ok (decide (zs = ys)) W := by
  have := run_equalIn_bytes (P := Tryd.prog) W d 27 5 4 Tryd.underlying27 Tryd.underlying5 (fun w => by simp [go_sem]) (zs.map (fun z => UInt8.ofNat z.toNat)) (ys.map (fun z => UInt8.ofNat z.toNat)) (by simpa using hl) (by simpa using gl)
  rw [bytes_inj zs ys h g] at this
  have e1 := cells_back zs h
  have e2 := cells_back ys g
  rw [← e1, ← e2]
  exact this

end Go.Proofs.YtloadmpappjceaaDoor

namespace Go.Proofs.YtloadmpappjceaaDoor
open Go Go.RowKit
set_option linter.unusedVariables false
set_option linter.unusedSimpArgs false

/-- May the prefix be? -/
def pL (a0 a1 a2 a3 n : Int) : List Int := [bl a0 n, bl a1 (n - 8), bl a2 (n - 16), bl a3 (n - 24)]
def okP4 (a0 a1 a2 a3 n : Int) : Bool := decide (0 ≤ n ∧ n ≤ 32) && decide ([a0, a1, a2, a3] = pL a0 a1 a2 a3 n)

theorem box5 (w : World) (v0 v1 v2 v3 v4 : Value) (t : TypeId) {w' : World} (hb : Below (w.alloc (.cells #[v0, v1, v2, v3, v4] t)).heap.size (w.alloc (.cells #[v0, v1, v2, v3, v4] t)) w') :
    (w'.cell? ⟨w.heap.size, 0, none⟩ = some v0 ∧ w'.cell? ⟨w.heap.size, 1, none⟩ = some v1 ∧ w'.cell? ⟨w.heap.size, 2, none⟩ = some v2 ∧ w'.cell? ⟨w.heap.size, 3, none⟩ = some v3 ∧ w'.cell? ⟨w.heap.size, 4, none⟩ = some v4) := by
  have h : w'.heap[w.heap.size]? = some (.cells #[v0, v1, v2, v3, v4] t) := (hb.block w.heap.size (by simp)).trans (alloc_new w _)
  exact ⟨by simp [World.cell?, h], by simp [World.cell?, h], by simp [World.cell?, h], by simp [World.cell?, h], by simp [World.cell?, h]⟩

set_option maxHeartbeats 2000000 in
set_option maxRecDepth 100000 in
theorem Check4_in (a0 a1 a2 a3 n : Int) (w : World) (h0 : 0 ≤ a0 ∧ a0 < 256) (h1 : 0 ≤ a1 ∧ a1 < 256) (h2 : 0 ≤ a2 ∧ a2 < 256) (h3 : 0 ≤ a3 ∧ a3 < 256) (hn : 0 ≤ n ∧ n ≤ 32) :
    Calls Tryd.prog 37 #[P4 a0 a1 a2 a3 n] w fun e w' => e = .returned (.int .i64 (if okP4 a0 a1 a2 a3 n then 0 else 22)) ∧ Below w.heap.size w w' := by
  have hB := (Below.refl w.heap.size w).alloc (Nat.le_refl _) (.cells #[.int .u8 a0, .int .u8 a1, .int .u8 a2, .int .u8 a3, .int .i64 n] 29)
  have hcut := Cut4_yes a0 a1 a2 a3 n (w.alloc (.cells #[.int .u8 a0, .int .u8 a1, .int .u8 a2, .int .u8 a3, .int .i64 n] 29)) h0 h1 h2 h3 hn
  have hok : okP4 a0 a1 a2 a3 n = decide ([a0, a1, a2, a3] = [bl a0 n, bl a1 (n - 8), bl a2 (n - 16), bl a3 (n - 24)]) := by
    unfold okP4 pL
    rw [decide_eq_true hn, Bool.true_and]
  rw [hok]
  have f0 := bl_fit a0 n h0
  have f1 := bl_fit a1 (n - 8) h1
  have f2 := bl_fit a2 (n - 16) h2
  have f3 := bl_fit a3 (n - 24) h3
  generalize bl a0 n = x0 at *
  generalize bl a1 (n - 8) = x1 at *
  generalize bl a2 (n - 16) = x2 at *
  generalize bl a3 (n - 24) = x3 at *
  have heq : ∀ W, (Op.equalIn 9999 27 (.agg #[.int .u8 a0, .int .u8 a1, .int .u8 a2, .int .u8 a3]) (.agg #[.int .u8 x0, .int .u8 x1, .int .u8 x2, .int .u8 x3])).run Tryd.prog W = .ok (decide ([a0, a1, a2, a3] = [x0, x1, x2, x3])) W :=
    fun W => eq_arr4 9997 [a0, a1, a2, a3] [x0, x1, x2, x3] (fit4 h0 h1 h2 h3) (fit4 f0 f1 f2 f3) rfl rfl W
  generalize decide ([a0, a1, a2, a3] = [x0, x1, x2, x3]) = bb at *
  have HC : Hid _ := hcut
  have HB : Hid _ := hB
  clear hcut hB hok
  go_enter Tryd.func37, Tryd.ntmps37
  go_wp2_with fail
  refine Calls.mono HC.out ?_
  rintro e w2 ⟨rfl, hB2⟩
  have hq := fun o => box5 w (.int .u8 a0) (.int .u8 a1) (.int .u8 a2) (.int .u8 a3) (.int .i64 n) 29 (hB2.alloc hB2.size o)
  have k0 := fun o => (hq o).1
  have k1 := fun o => (hq o).2.1
  have k2 := fun o => (hq o).2.2.1
  have k3 := fun o => (hq o).2.2.2.1
  have k4 := fun o => (hq o).2.2.2.2
  have hBB := HB.out.trans (hB2.mono HB.out.size)
  clear hq HC HB hB2
  cases bb
  all_goals
    go_wp2
    go_ret
    exact ⟨rfl, hBB.alloc hBB.size _⟩

set_option maxHeartbeats 2000000 in
set_option maxRecDepth 100000 in
theorem Check4_calls (a0 a1 a2 a3 n : Int) (w : World) (h0 : 0 ≤ a0 ∧ a0 < 256) (h1 : 0 ≤ a1 ∧ a1 < 256) (h2 : 0 ≤ a2 ∧ a2 < 256) (h3 : 0 ≤ a3 ∧ a3 < 256) (hb : -9223372036854775808 ≤ n ∧ n ≤ 9223372036854775807) :
    Calls Tryd.prog 37 #[P4 a0 a1 a2 a3 n] w fun e w' => e = .returned (.int .i64 (if okP4 a0 a1 a2 a3 n then 0 else 22)) ∧ Below w.heap.size w w' := by
  by_cases hn : 0 ≤ n ∧ n ≤ 32
  · exact Check4_in a0 a1 a2 a3 n w h0 h1 h2 h3 hn
  · have hok : okP4 a0 a1 a2 a3 n = false := by unfold okP4; rw [decide_eq_false hn, Bool.false_and]
    rw [hok]
    have hB := (Below.refl w.heap.size w).alloc (Nat.le_refl _) (.cells #[.int .u8 a0, .int .u8 a1, .int .u8 a2, .int .u8 a3, .int .i64 n] 29)
    have hcut := Cut4_no a0 a1 a2 a3 n (w.alloc (.cells #[.int .u8 a0, .int .u8 a1, .int .u8 a2, .int .u8 a3, .int .i64 n] 29)) (by omega) hb
    have HC : Hid _ := hcut
    have HB : Hid _ := hB
    clear hcut hB hok
    go_enter Tryd.func37, Tryd.ntmps37
    go_wp2_with fail
    refine Calls.mono HC.out ?_
    rintro e w2 ⟨rfl, hB2⟩
    have hBB := HB.out.trans (hB2.mono HB.out.size)
    clear HC HB hB2
    go_wp2
    go_ret
    exact ⟨rfl, hBB.alloc hBB.size _⟩

end Go.Proofs.YtloadmpappjceaaDoor

namespace Go.Proofs.YtloadmpappjceaaDoor
open Go Go.RowKit
set_option linter.unusedVariables false

/-- t is the type of slices of e, whose elements take one cell and by' bytes. -/
structure Elem (t e : TypeId) (z : Value) (by' : Nat) : Prop where
  und : Tryd.prog.underlying t = some (.slice e)
  inf : (Tryd.prog.info? e).map (fun i => (i.zero, i.size, i.bytes)) = some (some z, 1, by')
  one : z.cells.size = 1

theorem elem_int : Elem 94 3 (.int .i64 0) 8 := ⟨Tryd.underlying94, by kernel_rfl, rfl⟩
theorem elem_string : Elem 130 9 (.string ⟨#[]⟩) 16 := ⟨Tryd.underlying130, by kernel_rfl, rfl⟩
theorem elem_u8 : Elem 75 5 (.int .u8 0) 1 := ⟨Tryd.underlying75, by kernel_rfl, rfl⟩

/-- An append to a slice of the call's own: a longer row of its own, in the same block or in a new one. -/
theorem own_append {t e : TypeId} {z : Value} {by' : Nat} (E : Elem t e z by') {w : World} {base n m c : Nat} {v : Value} {xs : List Value} (hown : w.ownsRow base e 1 v n xs) (a : Option Addr) (news : List Value) (hl : news.length = m)
    (ha : a = none → m = 0) (hnews : ∀ x, a = some x → ∀ (j : Nat) u, news[j]? = some u → w.cell? (x.add j) = some u) (h1 : ∀ u ∈ news, u.oneCell' = true) (h63 : n + m ≤ maxLen) (hby : (n + m) * by' ≤ 140737488355328) (hbase : base ≤ w.heap.size) (ty : TypeId) :
    ∃ v' w', (Builtin.append_ #[t, t] ty #[v, .slice a m c]).run Tryd.prog w = .ok v' w' ∧ w'.ownsRow base e 1 v' (n + m) (xs ++ news) ∧ w.grownBy w' v.ownBlock ∧ (v'.ownBlock = v.ownBlock ∨ ∀ k, v'.ownBlock = some k → w.heap.size ≤ k) := by
  obtain ⟨i, hi, hz, hs, hb⟩ := info_parts E.inf
  cases a with
  | none =>
    obtain rfl : m = 0 := ha rfl
    obtain rfl : news = [] := List.length_eq_zero_iff.1 hl
    refine ⟨v, w, ?_, by simpa using hown, ⟨rfl, rfl, rfl, Nat.le_refl _, fun _ _ _ => rfl⟩, .inl rfl⟩
    rcases hown.2 with ⟨rfl, rfl⟩ | ⟨g, cap, cur, rfl, _, hg, hnc, _, _, _⟩
    · simp [Builtin.append_, run_underlying E.und, sizeOf, typeInfo, hi, Builtin.lenOf, Builtin.firstCells]
    · simp [Builtin.append_, run_underlying E.und, sizeOf, typeInfo, hi, Builtin.lenOf, Builtin.firstCells, hnc, storeCells]
  | some x =>
    obtain ⟨v', w', hrun, r1, r2, r3⟩ := run_append_own (P := Tryd.prog) w base t ty e i z 1 by' E.und hi hz hs hb E.one (by decide) v n xs hown x m c news (by omega) (hnews x rfl) h1 h63 hby hbase
    refine ⟨v', w', hrun, r1, r2, ?_⟩
    rcases hown.2 with ⟨rfl, rfl⟩ | ⟨g, cap, cur, rfl, hbg, hg, hnc, hcm, hcs, htake⟩
    · obtain rfl : xs = [] := List.length_eq_zero_iff.1 (by simpa using hown.1)
      obtain ⟨v2, w2, hrun2, q1, _, _⟩ := run_append_own (P := Tryd.prog) w w.heap.size t ty e i z 1 by' E.und hi hz hs hb E.one (by decide) _ 0 [] (World.ownsRow_nil w _ e 1) x m c news (by omega) (hnews x rfl) h1 h63 hby (Nat.le_refl _)
      rw [hrun] at hrun2
      cases hrun2
      exact .inr (fun k hk => (q1.lt k hk).1)
    · by_cases hroom : n + m ≤ cap
      · have hr := run_append_room (P := Tryd.prog) w t ty e i E.und hi g n cap cur hg x m c news (by rw [hs]; omega) (hnews x rfl) h1 hroom (by rw [hs]; omega)
        rw [hrun] at hr
        cases hr
        exact .inl rfl
      · have holds : ∀ (j : Nat) u, xs[j]? = some u → w.cell? ((⟨g, 0, none⟩ : Addr).add j) = some u := hown.cells (g := g) rfl
        have hr := run_append_grow (P := Tryd.prog) w t ty e i z E.und hi hz ⟨g, 0, none⟩ n cap xs (by rw [hs]; exact hown.1) holds x m c news (by rw [hs]; omega) (hnews x rfl) (by omega) (by unfold maxLen at h63; omega) (growslice_fits (by omega) (by rw [hb]; exact hby))
        rw [hrun] at hr
        cases hr
        exact .inr (fun k hk => by simp [Value.ownBlock] at hk; omega)

/-- A row of the call's own, cell by cell. -/
theorem own_form {w : World} {base n : Nat} {e : TypeId} {v : Value} {xs : List Value} (h : w.ownsRow base e 1 v n xs) : ∃ a cap, v = .slice a n cap ∧ xs.length = n ∧
    (n = 0 ∨ ∃ g, a = some ⟨g, 0, none⟩ ∧ base ≤ g ∧ g < w.heap.size ∧ ∀ (j : Nat) u, xs[j]? = some u → w.cell? ⟨g, j, none⟩ = some u) := by
  have hl : xs.length = n := by simpa using h.1
  rcases h.2 with ⟨rfl, rfl⟩ | ⟨g, cap, cur, rfl, hb, hg, _⟩
  · exact ⟨none, 0, rfl, hl, .inl rfl⟩
  · refine ⟨_, cap, rfl, hl, .inr ⟨g, rfl, hb, (Array.getElem?_eq_some_iff.1 hg).1, fun j u hj => ?_⟩⟩
    have := h.cells (g := g) rfl j u hj
    rw [Go.WideShapes.add_plain] at this
    simpa using this



/-- A built-in append whose run is known. -/
theorem wpList_append_run {P : Program} {w w2 : World} {ops : Array Oper} {rest : List Oper} {o : Oper} {a : Act} {Q : Exit → Act → World → Prop} (hg : o.guard = none) (s x : Operand) (t u : TypeId)
    (hop : o.op = Op.call { callee := Callee.builtin Builtin.append, args := #[s, x], argTypes := #[t, u] }) {vs vx v : Value} (hs : a.eval s = vs) (hx : a.eval x = vx)
    (hrun : (Builtin.append_ #[t, u] o.type #[vs, vx]).run P w = .ok v w2) (hK : wpList P ops Q rest (a.put o.dst v) w2) : wpList P ops Q (o :: rest) a w := by
  refine wpList_plain hg fun K hK' => ?_
  unfold Oper.wp
  simp [execOp, hop, resolve, invoke, builtin, hs, hx, hrun, Result.andThen]
  exact hK' _ _ hK


/-- A built-in append of which it is known what it leaves. -/
theorem wpList_append_ex {P : Program} {w : World} {ops : Array Oper} {rest : List Oper} {o : Oper} {a : Act} {Q : Exit → Act → World → Prop} {R : Value → World → Prop} (hg : o.guard = none) (s x : Operand) (t u : TypeId)
    (hop : o.op = Op.call { callee := Callee.builtin Builtin.append, args := #[s, x], argTypes := #[t, u] }) {vs vx : Value} (hs : a.eval s = vs) (hx : a.eval x = vx)
    (hex : ∃ v w2, (Builtin.append_ #[t, u] o.type #[vs, vx]).run P w = .ok v w2 ∧ R v w2) (hK : ∀ v w2, R v w2 → wpList P ops Q rest (a.put o.dst v) w2) : wpList P ops Q (o :: rest) a w := by
  obtain ⟨v, w2, hrun, hr⟩ := hex
  exact wpList_append_run hg s x t u hop hs hx hrun (hK v w2 hr)


/-- A built-in append of which it is known what it leaves, in a region that draws its order. -/
theorem step_append_ex {P : Program} {ops : Array Oper} {o : Oper} {a : Act} {w : World} {K : Act → World → Prop} {Q : Exit → Act → World → Prop} {E : Prop} {R : Value → World → Prop} (hg : o.guard = none) (s x : Operand) (t u : TypeId)
    (hop : o.op = Op.call { callee := Callee.builtin Builtin.append, args := #[s, x], argTypes := #[t, u] }) {vs vx : Value} (hs : a.eval s = vs) (hx : a.eval x = vx)
    (hex : ∃ v w2, (Builtin.append_ #[t, u] o.type #[vs, vx]).run P w = .ok v w2 ∧ R v w2) (hK : ∀ v w2, R v w2 → K (a.put o.dst v) w2) :
    if Region.wanted o (yielded ops a.tmps) = true then Oper.wp P o a w K Q else E := by
  have hw : Region.wanted o (yielded ops a.tmps) = true := by simp [Region.wanted, hg]
  rw [if_pos hw]
  obtain ⟨v, w2, hrun, hr⟩ := hex
  unfold Oper.wp
  simp [execOp, hop, resolve, invoke, builtin, hs, hx, hrun, Result.andThen]
  exact hK _ _ hr

/-- An append of values written out. -/
theorem own_lit {t e : TypeId} {z : Value} {by' : Nat} (E : Elem t e z by') {w : World} {base n : Nat} {v : Value} {xs : List Value} (hown : w.ownsRow base e 1 v n xs) (hbase : base ≤ w.heap.size) (hn : n ≤ 1000000) (hby : by' ≤ 1000) (news : List Value) (m : Nat) (hm : news.length = m) (h9 : m ≤ 1000) (h1 : ∀ u ∈ news, u.oneCell' = true) (ty : TypeId) (arr : Array Value) (harr : arr = news.toArray) :
    ∃ v' w', (Builtin.append_ #[t, t] ty #[v, .slice (some ⟨w.heap.size, 0, none⟩) m m]).run Tryd.prog (w.alloc (.cells arr e)) = .ok v' w' ∧ w'.ownsRow base e 1 v' (n + m) (xs ++ news) ∧ w.grownBy w' v.ownBlock ∧ (v'.ownBlock = v.ownBlock ∨ ∀ k, v'.ownBlock = some k → w.heap.size ≤ k) := by
  subst harr
  have hmul : (n + m) * by' ≤ 1001000 * 1000 := Nat.mul_le_mul (by omega) hby
  obtain ⟨v', w', h1, h2, h3, h4⟩ := own_append E (c := m) (m := m) (hown.alloc (.cells news.toArray e)) (some ⟨w.heap.size, 0, none⟩) news hm (fun h => by cases h) (fun y hy j u hj => by
      cases hy
      rw [Go.WideShapes.add_plain]
      simp only [World.cell?, heap_alloc_new]
      simpa using hj) h1 (by unfold maxLen; omega) (by omega) (by simp; omega) ty
  refine ⟨v', w', h1, h2, ?_, h4.imp id (fun h k hk => by have := h k hk; simp at this; omega)⟩
  have h5 := World.grownBy_alloc w (.cells news.toArray e) v.ownBlock
  exact ⟨h3.os.trans h5.os, h3.tape.trans h5.tape, h3.output.trans h5.output, Nat.le_trans h5.size h3.size, fun k hk hne => (h3.block k (Nat.lt_of_lt_of_le hk h5.size) hne).trans (h5.block k hk hne)⟩

end Go.Proofs.YtloadmpappjceaaDoor
