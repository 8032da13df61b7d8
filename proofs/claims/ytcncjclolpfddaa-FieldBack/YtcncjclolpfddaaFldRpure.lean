/-
  What Read answers, as plain functions: letters, the first that is none, and the bytes of all.
-/
import Derived.Test.YtcncjclolpfddaaFldText
import Derived.Test.YtcncjclolpfddaaFldWone
import Derived.Test.YtcncjclolpfddaaShelf
namespace Go.Proofs.Ytcncjclolpfddaa
set_option linter.unusedVariables false
set_option linter.unusedSimpArgs false
open Go Go.RowKit
attribute [local go_sem] Oper.semAt_some

/-- The byte at a place of a text. -/
def byteAt (s : ByteArray) (j : Nat) : Nat := (s.data.toList[j]?.getD 0).toNat
theorem byteAt_eq (s : ByteArray) (j : Nat) (h : j < s.size) : byteAt s j = (s[j]'h).toNat := by
  unfold byteAt
  have : s.data.toList[j]? = some (s[j]'h) := by
    rw [Array.getElem?_toList, Array.getElem?_eq_getElem h]
    rfl
  rw [this]
  rfl
def isLet (s : ByteArray) (j : Nat) : Prop := byteAt s j = 48 ∨ byteAt s j = 49
def goodTo (s : ByteArray) (k : Nat) : Prop := ∀ j, j < k → isLet s j

/-- The bits that letters are. -/
def numsOf (s : ByteArray) : List Nat := (List.range s.size).map (fun j => byteAt s j - 48)
@[simp] theorem numsOf_length (s : ByteArray) : (numsOf s).length = s.size := by simp [numsOf]
theorem numsOf_get (s : ByteArray) (j : Nat) (h : j < s.size) : (numsOf s)[j]? = some (byteAt s j - 48) := by simp [numsOf, h]

/-- What Read answers. -/
def ReadIs (s : ByteArray) (bs : List Int) (n i er : Int) : Prop :=
  (65536 < Lib.runeCount s ∧ bs = [] ∧ n = 0 ∧ i = 0 ∧ er = 2) ∨
  (Lib.runeCount s ≤ 65536 ∧ (∃ k, k < s.size ∧ goodTo s k ∧ ¬ isLet s k ∧ i = (k : Int)) ∧ bs = [] ∧ n = 0 ∧ er = 31) ∨
  (Lib.runeCount s ≤ 65536 ∧ goodTo s s.size ∧ bs = packL (numsOf s) s.size ∧ n = (s.size : Int) ∧ i = 0 ∧ er = 0)

theorem ReadIs.uniq {s : ByteArray} {bs bs' : List Int} {n i er n' i' er' : Int} (h : ReadIs s bs n i er) (g : ReadIs s bs' n' i' er') : bs = bs' ∧ n = n' ∧ i = i' ∧ er = er' := by
  rcases h with ⟨h0, rfl, rfl, rfl, rfl⟩ | ⟨h0, ⟨k, hk, hg, hb, rfl⟩, rfl, rfl, rfl⟩ | ⟨h0, hg, rfl, rfl, rfl, rfl⟩ <;>
  rcases g with ⟨g0, rfl, rfl, rfl, rfl⟩ | ⟨g0, ⟨k', hk', hg', hb', rfl⟩, rfl, rfl, rfl⟩ | ⟨g0, hg', rfl, rfl, rfl, rfl⟩
  · exact ⟨rfl, rfl, rfl, rfl⟩
  · omega
  · omega
  · omega
  · have : k = k' := by
      rcases Nat.lt_trichotomy k k' with c | c | c
      · exact absurd (hg' k c) hb
      · exact c
      · exact absurd (hg k' c) hb'
    subst this
    exact ⟨rfl, rfl, rfl, rfl⟩
  · exact absurd (hg' k hk) hb
  · omega
  · exact absurd (hg k' hk') hb'
  · exact ⟨rfl, rfl, rfl, rfl⟩

/-- As many runes as letters of one byte, and one more at the next. -/
theorem runes_from (s : ByteArray) (k : Nat) (hk : k ≤ s.size) (hg : goodTo s k) : ∀ j, j ≤ k → Lib.runeCount s = j + Lib.runeCountFrom s (s.size - j) j := by
  intro j
  induction j with
  | zero => intro _; simp [Lib.runeCount]
  | succ j ih =>
    intro hj
    rw [ih (by omega)]
    have hjs : j < s.size := by omega
    have e : s.size - j = (s.size - (j + 1)) + 1 := by omega
    rw [e, Lib.runeCountFrom, if_pos hjs]
    have hb := byteAt_eq s j hjs
    have hl := hg j (by omega)
    unfold isLet at hl
    rw [decode_ascii s j hjs (by omega)]
    show j + (1 + Lib.runeCountFrom s (s.size - (j + 1)) (j + 1)) = j + 1 + Lib.runeCountFrom s (s.size - (j + 1)) (j + 1)
    omega
theorem runes_more (s : ByteArray) (k : Nat) (hk : k < s.size) (hg : goodTo s k) : k + 1 ≤ Lib.runeCount s := by
  rw [runes_from s k (by omega) hg k (Nat.le_refl _)]
  have e : s.size - k = (s.size - (k + 1)) + 1 := by omega
  rw [e, Lib.runeCountFrom, if_pos hk]
  omega
theorem runes_all (s : ByteArray) (hg : goodTo s s.size) : Lib.runeCount s = s.size := by
  rw [runes_from s s.size (Nat.le_refl _) hg s.size (Nat.le_refl _), Lib.runeCountFrom_end _ _ _ (by omega)]
  rfl

/-- The row of the first k letters, over n zero bits. -/
def rowR (s : ByteArray) (n : Nat) : Nat → List Int
  | 0 => List.replicate ((n + 7) / 8) 0
  | k + 1 => writeL (rowR s n k) k 1 (byteAt s k - 48) 1
@[simp] theorem rowR_length (s : ByteArray) (n k : Nat) : (rowR s n k).length = (n + 7) / 8 := by
  induction k with
  | zero => simp [rowR]
  | succ k ih => simp [rowR, ih]
theorem rowR_fit (s : ByteArray) (n k : Nat) : FitB (rowR s n k) := by
  induction k with
  | zero => intro z hz; have := List.eq_of_mem_replicate hz; subst this; decide
  | succ k ih => exact writeL_fit ih _ _ _ _
theorem rowR_pack (s : ByteArray) (hg : goodTo s s.size) : ∀ k, k ≤ s.size → rowR s s.size k = packL (numsOf s) k := by
  intro k
  induction k with
  | zero => intro _; simp [rowR, packL]
  | succ k ih =>
    intro hk
    rw [rowR, packL, ← ih (by omega), numsOf_get s k (by omega)]
    have hl := hg k (by omega)
    have e : bk (byteAt s k - 48) (1 - 1 - 0) = if (some (byteAt s k - 48)).getD 0 = 1 then 1 else 0 := by
      rcases hl with h | h <;> rw [h] <;> decide
    rw [← e]
    rfl

theorem BytesAt.nilOf (w : World) : BytesAt w.heap.size w (.slice none 0 0) [] := nil_bytes _ _

/-- Four results. -/
theorem results_tmp4 {fn : Func} {t u v x : Tmp} (h : fn.results = #[.tmp t, .tmp u, .tmp v, .tmp x]) (tmps : Array Value) (P : Program) (w : World) :
    (results fn tmps).run P w = .ok (.tuple #[tmps.getD t undef, tmps.getD u undef, tmps.getD v undef, tmps.getD x undef]) w := by
  simp [results, h]

def ReadPost (s : ByteArray) (w : World) (e : Ending) (w' : World) : Prop :=
  ∃ r bs n i er, e = .returned (.tuple #[r, .int .i64 n, .int .i64 i, .int .i64 er]) ∧ BytesAt w'.heap.size w' r bs ∧ Below w.heap.size w w' ∧ ReadIs s bs n i er

end Go.Proofs.Ytcncjclolpfddaa
