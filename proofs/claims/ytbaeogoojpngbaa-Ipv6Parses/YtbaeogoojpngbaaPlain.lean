/-
  Plain mathematics for package sum: words of bytes, the sum of words in ones' complement, and what follows of it.
-/
import Derived.Laws.BitsAllLaws
namespace Go.Proofs.Ytbaeogoojpngbaa
open Go

theorem hi_word (c : Int) (h0 : 0 ≤ c) (h1 : c < 256) : IntKind.u16.wrap (IntKind.u16.wrap c * 256) = c * 256 := by
  rw [IntKind.wrap_u16, IntKind.wrap_u16]; omega

theorem or_word (a c : Int) (a0 : 0 ≤ a) (a1 : a < 256) (h0 : 0 ≤ c) (h1 : c < 256) : bits .or .u16 (a * 256) c = a * 256 + c := by
  obtain ⟨x, rfl⟩ := Int.eq_ofNat_of_zero_le a0
  obtain ⟨y, rfl⟩ := Int.eq_ofNat_of_zero_le h0
  rw [u16_or _ _ (by omega) (by omega) (by omega) (by omega)]
  have e1 : ((x : Int) * 256).toNat = 2 ^ 8 * x := by omega
  have e2 : (y : Int).toNat = y := by omega
  rw [e1, e2, ← Nat.two_pow_add_eq_or_of_lt (by omega) x]
  omega

theorem not_word (z : Int) (h0 : 0 ≤ z) (h1 : z ≤ 65535) : bits .xor .u16 IntKind.u16.max z = 65535 - z := by
  obtain ⟨x, rfl⟩ := Int.eq_ofNat_of_zero_le h0
  have hm : IntKind.u16.max = 65535 := by decide
  rw [hm, u16_xor _ _ (by omega) (by omega) (by omega) (by omega)]
  have hx : x < 65536 := by omega
  have e1 : (65535 : Int).toNat = 65535 := rfl
  have e2 : (x : Int).toNat = x := by omega
  have e3 : (65535 ^^^ x : Nat) = 65535 - x := by
    have h := BitVec.toNat_not (x := BitVec.ofNat 16 x)
    rw [BitVec.not_def, BitVec.toNat_xor, BitVec.toNat_allOnes, BitVec.toNat_ofNat, Nat.mod_eq_of_lt (by omega)] at h
    simpa using h
  rw [e1, e2, e3]
  omega

/-- The sum of two words in ones' complement. -/
def addW (a b : Int) : Int := if a + b ≤ 65535 then a + b else a + b - 65535
theorem addW_range (a b : Int) (ha : 0 ≤ a ∧ a ≤ 65535) (hb : 0 ≤ b ∧ b ≤ 65535) : 0 ≤ addW a b ∧ addW a b ≤ 65535 := by unfold addW; split <;> omega

theorem add_word (a b : Int) (ha : 0 ≤ a ∧ a ≤ 65535) (hb : 0 ≤ b ∧ b ≤ 65535) : IntKind.u16.wrap (IntKind.u16.wrap (a + b) + (a + b) / 65536) = addW a b := by
  rw [IntKind.wrap_u16, IntKind.wrap_u16]; unfold addW; split <;> omega

/-- The sum of the words xs, on top of s. -/
def sumW (s : Int) (xs : List Int) : Int := xs.foldl addW s
/-- All of them are words. -/
def Words (xs : List Int) : Prop := ∀ z ∈ xs, 0 ≤ z ∧ z ≤ 65535
theorem turn_words {xs : List Int} (h : Words xs) : Words (xs.map (fun z => 65535 - z)) := by
  intro z hz
  obtain ⟨y, hy, rfl⟩ := List.mem_map.1 hz
  have := h y hy
  omega
theorem sumW_range : ∀ (xs : List Int) (s : Int), 0 ≤ s ∧ s ≤ 65535 → Words xs → 0 ≤ sumW s xs ∧ sumW s xs ≤ 65535
  | [], s, hs, _ => hs
  | x :: xs, s, hs, hx => sumW_range xs (addW s x) (addW_range s x hs (hx x (by simp))) (fun z hz => hx z (by simp [hz]))
theorem sumW_snoc (s : Int) (xs : List Int) (k : Nat) (x : Int) (h : xs[k]? = some x) : sumW s (xs.take (k + 1)) = addW (sumW s (xs.take k)) x := by
  obtain ⟨hk, rfl⟩ := List.getElem?_eq_some_iff.1 h
  rw [List.take_succ_eq_append_getElem hk, sumW, List.foldl_append]; rfl

/-- All of them are bytes. -/
def Fit (zs : List Int) : Prop := ∀ z ∈ zs, 0 ≤ z ∧ z < 256
theorem Fit.at {zs : List Int} (h : Fit zs) (j : Nat) : 0 ≤ zs[j]?.getD 0 ∧ zs[j]?.getD 0 < 256 := by
  cases e : zs[j]? with
  | none => simp
  | some z => exact h z (List.mem_of_getElem? e)

/-- The k-th word of the bytes f. -/
def wd (f : List Int) (k : Nat) : Int := f[2 * k]?.getD 0 * 256 + f[2 * k + 1]?.getD 0
def wordsL (f : List Int) : List Int := (List.range ((f.length + 1) / 2)).map (wd f)

theorem wordsL_length (f : List Int) : (wordsL f).length = (f.length + 1) / 2 := by simp [wordsL]
theorem wordsL_at (f : List Int) (k : Nat) (h : 2 * k < f.length) : (wordsL f)[k]? = some (wd f k) := by
  unfold wordsL; rw [List.getElem?_map, List.getElem?_range (by omega)]; rfl

/-- How many bytes lie ahead of part k. -/
def pre (ps : List (List Int)) (k : Nat) : Nat := ((ps.take k).flatten).length

theorem pre_zero (ps : List (List Int)) : pre ps 0 = 0 := by simp [pre]
theorem pre_all (ps : List (List Int)) : pre ps ps.length = ps.flatten.length := by simp [pre]
theorem pre_succ (ps : List (List Int)) (k : Nat) (h : k < ps.length) : pre ps (k + 1) = pre ps k + (ps[k]?.getD []).length := by
  unfold pre
  rw [List.take_succ_eq_append_getElem h, List.flatten_append, List.length_append]
  simp [h]
theorem flat_at : ∀ (ps : List (List Int)) (k j : Nat), k < ps.length → j < (ps[k]?.getD []).length → ps.flatten[pre ps k + j]? = (ps[k]?.getD [])[j]?
  | [], k, _, h, _ => by simp at h
  | p :: ps, 0, j, _, hj => by
    simp at hj
    simp [pre, List.getElem?_append, hj]
  | p :: ps, k + 1, j, h, hj => by
    have hk : k < ps.length := by simpa using h
    have hj' : j < (ps[k]?.getD []).length := by simpa using hj
    have e := flat_at ps k j hk hj'
    have e2 : pre (p :: ps) (k + 1) = p.length + pre ps k := by simp [pre]
    rw [e2, List.flatten_cons, List.getElem?_append_right (by omega), show p.length + pre ps k + j - p.length = pre ps k + j from by omega, e]
    simp

end Go.Proofs.Ytbaeogoojpngbaa
