/-
  What a datagram's bytes say: plain.
-/
import Derived.Test.YtmoogfdmlbalbaaIr3
import Derived.Laws.BitsAllLaws
namespace Go.Proofs.Ytmoogfdmlbalbaa
open Go Go.RowKit
set_option linter.unusedVariables false
set_option linter.unusedSimpArgs false

theorem u8_low4 (z : Int) (h : 0 ≤ z ∧ z < 256) : bits .and .u8 z 15 = z % 16 := by
  obtain ⟨x, rfl⟩ := Int.eq_ofNat_of_zero_le h.1
  have := u8_and_nat x 15 (by omega) (by omega)
  have e : x &&& 15 = x % 2 ^ 4 := Nat.and_two_pow_sub_one_eq_mod x 4
  rw [e] at this
  rw [show (15 : Int) = ((15 : Nat) : Int) from rfl, this]
  omega
theorem and_bit (x k : Nat) : x &&& 2 ^ k = x / 2 ^ k % 2 * 2 ^ k := by
  apply Nat.eq_of_testBit_eq
  intro i
  rw [Nat.testBit_and, Nat.testBit_two_pow, Nat.testBit_mul_two_pow]
  rcases Nat.mod_two_eq_zero_or_one (x / 2 ^ k) with e | e
  · rw [e]
    by_cases h : k = i
    · subst h
      simp [Nat.testBit, Nat.shiftRight_eq_div_pow, Nat.one_and_eq_mod_two, e]
    · simp [h]
  · rw [e]
    by_cases h : k = i
    · subst h
      simp [Nat.testBit, Nat.shiftRight_eq_div_pow, Nat.one_and_eq_mod_two, e]
    · by_cases h2 : k ≤ i
      · have : i - k ≠ 0 := by omega
        have h1 : Nat.testBit 1 (i - k) = false := by
          have := Nat.testBit_two_pow (n := 0) (m := i - k)
          simp only [Nat.pow_zero] at this
          rw [this]
          simp
          omega
        simp [h, h2, h1]
      · simp [h, h2]
theorem u8_bit (z : Int) (k : Nat) (h : 0 ≤ z ∧ z < 256) (hk : 2 ^ k < 256) : bits .and .u8 z ((2 ^ k : Nat) : Int) = z / ((2 ^ k : Nat) : Int) % 2 * ((2 ^ k : Nat) : Int) := by
  obtain ⟨x, rfl⟩ := Int.eq_ofNat_of_zero_le h.1
  have := u8_and_nat x (2 ^ k) (by omega) hk
  rw [and_bit] at this
  rw [this]
  simp
theorem u16_bit (z : Int) (k : Nat) (h : 0 ≤ z ∧ z < 65536) (hk : 2 ^ k < 65536) : bits .and .u16 z ((2 ^ k : Nat) : Int) = z / ((2 ^ k : Nat) : Int) % 2 * ((2 ^ k : Nat) : Int) := by
  obtain ⟨x, rfl⟩ := Int.eq_ofNat_of_zero_le h.1
  have := u16_and_nat x (2 ^ k) (by omega) hk
  rw [and_bit] at this
  rw [this]
  simp
theorem u16_low13 (z : Int) (h : 0 ≤ z ∧ z < 65536) : bits .and .u16 z 8191 = z % 8192 := by
  obtain ⟨x, rfl⟩ := Int.eq_ofNat_of_zero_le h.1
  have := u16_and_nat x 8191 (by omega) (by omega)
  have e : x &&& 8191 = x % 2 ^ 13 := Nat.and_two_pow_sub_one_eq_mod x 13
  rw [e] at this
  rw [show (8191 : Int) = ((8191 : Nat) : Int) from rfl, this]
  omega
theorem df_bit (x y : Int) (hx : 0 ≤ x ∧ x < 256) (hy : 0 ≤ y ∧ y < 256) : (bits .and .u16 (x * 256 + y) 16384 != 0) = decide (x / 64 % 2 = 1) := by
  have := u16_bit (x * 256 + y) 14 (by omega) (by decide)
  rw [show (((2 ^ 14 : Nat) : Int)) = 16384 from rfl] at this
  rw [this, Bool.eq_iff_iff, bne_iff_ne, decide_eq_true_eq]
  omega
theorem mf_bit (x y : Int) (hx : 0 ≤ x ∧ x < 256) (hy : 0 ≤ y ∧ y < 256) : (bits .and .u16 (x * 256 + y) 8192 != 0) = decide (x / 32 % 2 = 1) := by
  have := u16_bit (x * 256 + y) 13 (by omega) (by decide)
  rw [show (((2 ^ 13 : Nat) : Int)) = 8192 from rfl] at this
  rw [this, Bool.eq_iff_iff, bne_iff_ne, decide_eq_true_eq]
  omega
theorem off_bits (x y : Int) (hx : 0 ≤ x ∧ x < 256) (hy : 0 ≤ y ∧ y < 256) : bits .and .u16 (x * 256 + y) 8191 = x % 32 * 256 + y := by
  rw [u16_low13 _ (by omega)]
  omega
theorem df_ref (x : Int) (hx : 0 ≤ x ∧ x < 256) : (bits .and .u8 x 64 != 0) = decide (x / 64 % 2 = 1) := by
  have := u8_bit x 6 hx (by decide)
  rw [show (((2 ^ 6 : Nat) : Int)) = 64 from rfl] at this
  rw [this, Bool.eq_iff_iff, bne_iff_ne, decide_eq_true_eq]
  omega
theorem mf_ref (x : Int) (hx : 0 ≤ x ∧ x < 256) : (bits .and .u8 x 32 != 0) = decide (x / 32 % 2 = 1) := by
  have := u8_bit x 5 hx (by decide)
  rw [show (((2 ^ 5 : Nat) : Int)) = 32 from rfl] at this
  rw [this, Bool.eq_iff_iff, bne_iff_ne, decide_eq_true_eq]
  omega

/-- A byte by its place. -/
def gz (zs : List Int) (i : Nat) : Int := zs[i]?.getD 0
theorem Fit.gz {zs : List Int} (h : Fit zs) (j : Nat) : 0 ≤ gz zs j ∧ gz zs j < 256 := h.at j
def pHead (zs : List Int) : Int := gz zs 0 % 16 * 4
def pAll (zs : List Int) : Int := gz zs 2 * 256 + gz zs 3
/-- Where bytes are none, and by what; 0 and 0 where they are a datagram. -/
def pErr (zs : List Int) (part : Bool) : Int × Int :=
  if zs.length < 20 then (0, 40) else if gz zs 0 / 16 ≠ 4 then (0, 41) else if ¬ (20 ≤ pHead zs ∧ pHead zs ≤ zs.length) then (0, 42)
  else if pAll zs < zs.length ∨ (zs.length < pAll zs ∧ part = false) then (2, 43)
  else if part = false ∧ sumW 0 (wordsL (zs.take (pHead zs).toNat)) ≠ 65535 then (10, 44) else (0, 0)
/-- The datagram that bytes say. -/
def SaysD (zs : List Int) (W : World) (c : List Value) : Prop :=
  Dgram W c (gz zs 1) (gz zs 4 * 256 + gz zs 5) (decide (gz zs 6 / 64 % 2 = 1)) (decide (gz zs 6 / 32 % 2 = 1)) (gz zs 6 % 32 * 256 + gz zs 7) (gz zs 8) (gz zs 9) (gz zs 12) (gz zs 13) (gz zs 14) (gz zs 15) (gz zs 16) (gz zs 17) (gz zs 18) (gz zs 19) ((zs.drop 20).take ((pHead zs).toNat - 20)) (zs.drop (pHead zs).toNat)
def ParD (zs : List Int) (part : Bool) (W : World) (c : List Value) : Prop :=
  if pErr zs part = (0, 0) then SaysD zs W c else Dgram W c 0 0 false false 0 0 0 0 0 0 0 0 0 0 0 [] []
/-- Its lists lie in memory of its own. -/
def Apart (B : Nat) (c : List Value) : Prop := ∀ j, j = 15 ∨ j = 16 → (∃ a k, c[j]? = some (.slice a 0 k)) ∨ ∃ b off n k, c[j]? = some (.slice (some ⟨b, off, none⟩) n k) ∧ B ≤ b
/-- A slice that came in: what it holds, and that there is room. -/
structure RowC (w : World) (v : Value) (zs : List Int) : Prop where
  fit : Fit zs
  len : zs.length ≤ 140737488351232
  val : ∃ a cap, v = .slice a zs.length cap ∧ zs.length ≤ cap ∧ (zs.length = 0 ∨ ∃ b off, a = some ⟨b, off, none⟩ ∧ b < w.heap.size ∧ ∀ j, j < zs.length → w.cell? ⟨b, off + j, none⟩ = some (.int .u8 (zs[j]?.getD 0)))
theorem RowC.bytes {w : World} {v : Value} {zs : List Int} (h : RowC w v zs) : BytesAt w.heap.size w v zs := by
  obtain ⟨hf, hl, a, cap, rfl, hc, hz⟩ := h
  exact ⟨hf, hl, a, cap, rfl, hz⟩
theorem RowC.on {w W : World} {v : Value} {zs : List Int} (h : RowC w v zs) (hb : Below w.heap.size w W) : RowC W v zs := by
  obtain ⟨hf, hl, a, cap, rfl, hc, hz⟩ := h
  refine ⟨hf, hl, a, cap, rfl, hc, ?_⟩
  rcases hz with hz | ⟨b, off, rfl, hlt, hcell⟩
  · exact .inl hz
  · exact .inr ⟨b, off, rfl, Nat.lt_of_lt_of_le hlt hb.size, fun j hj => (hb.cell (p := ⟨b, off + j, none⟩) hlt).trans (hcell j hj)⟩
/-- Bytes that are at least one: their block. -/
theorem RowC.some {w : World} {v : Value} {zs : List Int} (h : RowC w v zs) (h0 : 0 < zs.length) : ∃ b off cap, v = .slice (some ⟨b, off, none⟩) zs.length cap ∧ zs.length ≤ cap ∧ b < w.heap.size ∧ ∀ j, j < zs.length → w.cell? ⟨b, off + j, none⟩ = .some (.int .u8 (gz zs j)) := by
  obtain ⟨hf, hl, a, cap, rfl, hc, hz⟩ := h
  rcases hz with hz | ⟨b, off, rfl, hlt, hcell⟩
  · omega
  · exact ⟨b, off, cap, rfl, hc, hlt, hcell⟩

end Go.Proofs.Ytmoogfdmlbalbaa
