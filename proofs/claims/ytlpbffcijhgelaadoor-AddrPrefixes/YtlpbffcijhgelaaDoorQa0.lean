/-
  The document's readers of addresses as plain functions on letters.
-/
import Derived.WalkKit
import Derived.Lib.Strings
namespace Go.Proofs.YtlpbffcijhgelaaDoor
set_option linter.unusedVariables false
set_option linter.unusedSimpArgs false
open Go

/-- The letters of a text. -/
def txt (s : ByteArray) : List Int := s.data.toList.map (fun b => ((b.toNat : Nat) : Int))

theorem txt_length (s : ByteArray) : (txt s).length = s.size := by rw [txt, List.length_map]; rfl
theorem txt_at (s : ByteArray) (k : Nat) (h : k < s.size) : (txt s)[k]? = some (((s[k]'h).toNat : Nat) : Int) := by
  have h' : k < s.data.size := h
  rw [txt, List.getElem?_map, Array.getElem?_toList, Array.getElem?_eq_getElem h']
  rfl
theorem txt_extract (s : ByteArray) (a b : Nat) : txt (s.extract a b) = ((txt s).drop a).take (b - a) := by
  unfold txt
  rw [Lib.extract_data, List.map_take, List.map_drop]
theorem txt_byte (s : ByteArray) {z : Int} (h : z ∈ txt s) : 0 ≤ z ∧ z < 256 := by
  obtain ⟨b, _, rfl⟩ := List.mem_map.1 h
  have := b.toNat_lt
  omega
theorem txt_empty (s : ByteArray) : txt s = [] ↔ s.size = 0 := by
  rw [← List.length_eq_zero_iff, txt_length]
theorem txt_append (s t : ByteArray) : txt (s ++ t) = txt s ++ txt t := by
  simp [txt, ByteArray.data_append]

def digB (c : Int) : Bool := decide (48 ≤ c) && decide (c ≤ 57)
def numF (n : Int) (l : List Int) : Int := l.foldl (fun n c => n * 10 + (c - 48)) n
def octB (l : List Int) (most : Int) : Bool :=
  l.isEmpty || (!((l.head? == some 48 && decide (1 < l.length)) || decide (3 < l.length)) && (l.all digB && decide (numF 0 l ≤ most)))

theorem numF_snoc (l : List Int) (k : Nat) (x : Int) (h : l[k]? = some x) : numF 0 (l.take (k + 1)) = numF 0 (l.take k) * 10 + (x - 48) := by
  obtain ⟨hk, rfl⟩ := List.getElem?_eq_some_iff.1 h
  rw [List.take_succ_eq_append_getElem hk, numF, List.foldl_append]
  rfl
theorem numF_range : ∀ (l : List Int) (n : Int), 0 ≤ n → l.all digB = true → 0 ≤ numF n l ∧ numF n l < (n + 1) * 10 ^ l.length := by
  intro l
  induction l with
  | nil => intro n hn _; simp [numF]; omega
  | cons x l ih =>
    intro n hn h
    simp only [List.all_cons, Bool.and_eq_true, digB, decide_eq_true_eq] at h
    obtain ⟨h1, h2⟩ := ih (n * 10 + (x - 48)) (by omega) (by simpa [digB] using h.2)
    have e : numF n (x :: l) = numF (n * 10 + (x - 48)) l := rfl
    rw [e]
    refine ⟨h1, Int.lt_of_lt_of_le h2 ?_⟩
    rw [List.length_cons, Int.pow_succ, Int.mul_comm (10 ^ l.length) 10, ← Int.mul_assoc]
    exact Int.mul_le_mul_of_nonneg_right (by omega) (Int.pow_nonneg (by decide))

def splitA (c : Int) : List Int → List Int → List (List Int)
  | cur, [] => [cur]
  | cur, x :: l => if x = c then cur :: splitA c [] l else splitA c (cur ++ [x]) l

def partsOk : List (List Int) → Bool
  | [] => true
  | [p] => octB p 255
  | p :: q :: r => (octB p 255 && !p.isEmpty) && partsOk (q :: r)

def begB (l : List Int) : Bool := decide ((splitA 46 [] l).length ≤ 4) && partsOk (splitA 46 [] l)
def whoB (l : List Int) : Bool := begB l && (decide ((splitA 46 [] l).length = 4) && !((splitA 46 [] l).getD 3 []).isEmpty)

def begN (l : List Int) : Nat → Nat → Nat
  | 0, n => n
  | f + 1, n => if begB (l.take (n + 1)) then begN l f (n + 1) else n

/-- Parse4 of the document. -/
def rparse4 (l : List Int) : List Int × Int × Int :=
  let n := begN l l.length 0
  if n < l.length ∨ whoB l = false then ([0, 0, 0, 0], (n : Int), 20) else ((splitA 46 [] l).map (numF 0), 0, 0)

def worthV (c : Int) : Int :=
  if 48 ≤ c ∧ c ≤ 57 then c - 48 else if 97 ≤ c ∧ c ≤ 102 then c - 97 + 10 else if 65 ≤ c ∧ c ≤ 70 then c - 65 + 10 else -1
def grpB (l : List Int) : Bool := l.all (fun c => decide (0 ≤ worthV c)) && (decide (1 ≤ l.length) && decide (l.length ≤ 4))
def valF (l : List Int) : Int := l.foldl (fun n c => n * 16 + worthV c) 0

structure SixS where
  L : List Int
  gap : Int
  part : List Int
deriving DecidableEq

def SixS.room (x : SixS) : Int := if 0 ≤ x.gap then 7 else 8

def SixS.step (l : List Int) (i : Nat) (c : Int) (x : SixS) : Option SixS :=
  if c = 58 ∧ x.part = [] then
    if i = 0 then some x
    else if l[i - 1]? = some 58 ∧ x.gap < 0 ∧ x.L.length ≤ 7 then some { x with gap := x.L.length } else none
  else if c = 58 then
    if grpB x.part = false ∨ x.room ≤ x.L.length + 1 then none else some { x with L := x.L ++ [valF x.part], part := [] }
  else if i = 1 ∧ l[0]? = some 58 then none
  else if (grpB (x.part ++ [c]) && decide ((x.L.length : Int) + 1 ≤ x.room)) || (begB (x.part ++ [c]) && (decide ((x.L.length : Int) + 2 ≤ x.room) && (decide (0 ≤ x.gap) || decide (x.L.length = 6)))) then some { x with part := x.part ++ [c] }
  else none

def read6 (l : List Int) : Nat → Nat → SixS → SixS × Nat
  | 0, i, x => (x, i)
  | f + 1, i, x => match x.step l i (l.getD i 0) with
    | none => (x, i)
    | some y => read6 l f (i + 1) y

/-- The groups that stand there, :: aside; none: they are no whole address. -/
def givenG (x : SixS) : Option (List Int) :=
  if grpB x.part then some (x.L ++ [valF x.part])
  else if x.part ≠ [] ∧ whoB x.part = true then some (x.L ++ (match (rparse4 x.part).1 with | [a, b, c, d] => [a * 256 + b, c * 256 + d] | _ => []))
  else if x.part = [] ∧ 0 ≤ x.gap ∧ x.gap = x.L.length then some x.L else none

def whole6 (x : SixS) : Option (List Int) :=
  match givenG x with
  | none => none
  | some l =>
    if x.gap < 0 then (if l.length = 8 then some l else none)
    else if l.length ≤ 7 then some (l.take x.gap.toNat ++ List.replicate (8 - l.length) 0 ++ l.drop x.gap.toNat) else none

def rparse6 (l : List Int) : List Int × Int × Int :=
  let r := read6 l l.length 0 ⟨[], -1, []⟩
  if r.2 < l.length then (List.replicate 16 0, (r.2 : Int), 20)
  else match whole6 r.1 with
    | none => (List.replicate 16 0, (r.2 : Int), 20)
    | some g => ((g.map (fun z => [z / 256, z % 256])).flatten, 0, 0)

def slashN (l : List Int) : Nat → Nat → Nat
  | 0, n => n
  | f + 1, n => if l.getD n 47 = 47 then n else slashN l f (n + 1)
def lenN (l : List Int) (most : Int) : Nat → Nat → Nat
  | 0, n => n
  | f + 1, n => if octB (l.take (n + 1)) most then lenN l most f (n + 1) else n

example : rparse6 ("2001:db8:122:344::".toList.map (fun c => (c.toNat : Int))) = ([32, 1, 13, 184, 1, 34, 3, 68, 0, 0, 0, 0, 0, 0, 0, 0], 0, 0) := by decide +kernel
example : rparse4 ("192.0.2.33".toList.map (fun c => (c.toNat : Int))) = ([192, 0, 2, 33], 0, 0) := by decide +kernel

end Go.Proofs.YtlpbffcijhgelaaDoor
