/-
  The document's readers of addresses as plain functions on letters.
  The document's digit, octet, number.
  The document's split: a text's parts between a letter.
  The document's Begins4, Whole4.
  The document's Whole4 and Parse4.
  The document's Parse4.
  The readers of IPv4 addresses, of the program and of the document, are one and the same plain function.
  The document's Parse4, of texts of any length.
  The document's Text4.
-/
import Derived.WalkKit
import Derived.Lib.Strings
import Derived.Test.YtopbbljnhnhpaaaDoorAddrOwn
import Derived.Test.YtopbbljnhnhpaaaDoorFoldB
import Derived.Test.YtopbbljnhnhpaaaDoorAddrPure
import Derived.Test.YtopbbljnhnhpaaaDoorFoldC
namespace Go.Proofs.YtopbbljnhnhpaaaDoor
set_option linter.unusedVariables false
set_option linter.unusedSimpArgs false
open Go

/-- The letters of a text. -/
def txt (s : ByteArray) : List Int := s.data.toList.map (fun b => ((b.toNat : Nat) : Int))

theorem txt_length (s : ByteArray) : (txt s).length = s.size := by rw [txt, List.length_map]; rfl
theorem txt_at (s : ByteArray) (k : Nat) (h : k < s.size) : (txt s)[k]? = some (((s[k]'h).toNat : Nat) : Int) := by
  have h' : k < s.data.size := h
  rw [txt, List.getElem?_map, Array.getElem?_toList, Array.getElem?_eq_getElem h']
  rfl
theorem txt_extract (s : ByteArray) (a b : Nat) : txt (s.extract a b) = ((txt s).drop a).take (b - a) := by
  unfold txt
  rw [Lib.extract_data, List.map_take, List.map_drop]
theorem txt_byte (s : ByteArray) {z : Int} (h : z ∈ txt s) : 0 ≤ z ∧ z < 256 := by
  obtain ⟨b, _, rfl⟩ := List.mem_map.1 h
  have := b.toNat_lt
  omega
theorem txt_empty (s : ByteArray) : txt s = [] ↔ s.size = 0 := by
  rw [← List.length_eq_zero_iff, txt_length]
theorem txt_append (s t : ByteArray) : txt (s ++ t) = txt s ++ txt t := by
  simp [txt, ByteArray.data_append]

def digB (c : Int) : Bool := decide (48 ≤ c) && decide (c ≤ 57)
def numF (n : Int) (l : List Int) : Int := l.foldl (fun n c => n * 10 + (c - 48)) n
def octB (l : List Int) (most : Int) : Bool :=
  l.isEmpty || (!((l.head? == some 48 && decide (1 < l.length)) || decide (3 < l.length)) && (l.all digB && decide (numF 0 l ≤ most)))

theorem numF_snoc (l : List Int) (k : Nat) (x : Int) (h : l[k]? = some x) : numF 0 (l.take (k + 1)) = numF 0 (l.take k) * 10 + (x - 48) := by
  obtain ⟨hk, rfl⟩ := List.getElem?_eq_some_iff.1 h
  rw [List.take_succ_eq_append_getElem hk, numF, List.foldl_append]
  rfl
theorem numF_range : ∀ (l : List Int) (n : Int), 0 ≤ n → l.all digB = true → 0 ≤ numF n l ∧ numF n l < (n + 1) * 10 ^ l.length := by
  intro l
  induction l with
  | nil => intro n hn _; simp [numF]; omega
  | cons x l ih =>
    intro n hn h
    simp only [List.all_cons, Bool.and_eq_true, digB, decide_eq_true_eq] at h
    obtain ⟨h1, h2⟩ := ih (n * 10 + (x - 48)) (by omega) (by simpa [digB] using h.2)
    have e : numF n (x :: l) = numF (n * 10 + (x - 48)) l := rfl
    rw [e]
    refine ⟨h1, Int.lt_of_lt_of_le h2 ?_⟩
    rw [List.length_cons, Int.pow_succ, Int.mul_comm (10 ^ l.length) 10, ← Int.mul_assoc]
    exact Int.mul_le_mul_of_nonneg_right (by omega) (Int.pow_nonneg (by decide))

def splitA (c : Int) : List Int → List Int → List (List Int)
  | cur, [] => [cur]
  | cur, x :: l => if x = c then cur :: splitA c [] l else splitA c (cur ++ [x]) l

def partsOk : List (List Int) → Bool
  | [] => true
  | [p] => octB p 255
  | p :: q :: r => (octB p 255 && !p.isEmpty) && partsOk (q :: r)

def begB (l : List Int) : Bool := decide ((splitA 46 [] l).length ≤ 4) && partsOk (splitA 46 [] l)
def whoB (l : List Int) : Bool := begB l && (decide ((splitA 46 [] l).length = 4) && !((splitA 46 [] l).getD 3 []).isEmpty)

def begN (l : List Int) : Nat → Nat → Nat
  | 0, n => n
  | f + 1, n => if begB (l.take (n + 1)) then begN l f (n + 1) else n

/-- Parse4 of the document. -/
def rparse4 (l : List Int) : List Int × Int × Int :=
  let n := begN l l.length 0
  if n < l.length ∨ whoB l = false then ([0, 0, 0, 0], (n : Int), 20) else ((splitA 46 [] l).map (numF 0), 0, 0)

def worthV (c : Int) : Int :=
  if 48 ≤ c ∧ c ≤ 57 then c - 48 else if 97 ≤ c ∧ c ≤ 102 then c - 97 + 10 else if 65 ≤ c ∧ c ≤ 70 then c - 65 + 10 else -1
def grpB (l : List Int) : Bool := l.all (fun c => decide (0 ≤ worthV c)) && (decide (1 ≤ l.length) && decide (l.length ≤ 4))
def valF (l : List Int) : Int := l.foldl (fun n c => n * 16 + worthV c) 0

structure SixS where
  L : List Int
  gap : Int
  part : List Int
deriving DecidableEq

def SixS.room (x : SixS) : Int := if 0 ≤ x.gap then 7 else 8

def SixS.step (l : List Int) (i : Nat) (c : Int) (x : SixS) : Option SixS :=
  if c = 58 ∧ x.part = [] then
    if i = 0 then some x
    else if l[i - 1]? = some 58 ∧ x.gap < 0 ∧ x.L.length ≤ 7 then some { x with gap := x.L.length } else none
  else if c = 58 then
    if grpB x.part = false ∨ x.room ≤ x.L.length + 1 then none else some { x with L := x.L ++ [valF x.part], part := [] }
  else if i = 1 ∧ l[0]? = some 58 then none
  else if (grpB (x.part ++ [c]) && decide ((x.L.length : Int) + 1 ≤ x.room)) || (begB (x.part ++ [c]) && (decide ((x.L.length : Int) + 2 ≤ x.room) && (decide (0 ≤ x.gap) || decide (x.L.length = 6)))) then some { x with part := x.part ++ [c] }
  else none

def read6 (l : List Int) : Nat → Nat → SixS → SixS × Nat
  | 0, i, x => (x, i)
  | f + 1, i, x => match x.step l i (l.getD i 0) with
    | none => (x, i)
    | some y => read6 l f (i + 1) y

/-- The groups that stand there, :: aside; none: they are no whole address. -/
def givenG (x : SixS) : Option (List Int) :=
  if grpB x.part then some (x.L ++ [valF x.part])
  else if x.part ≠ [] ∧ whoB x.part = true then some (x.L ++ (match (rparse4 x.part).1 with | [a, b, c, d] => [a * 256 + b, c * 256 + d] | _ => []))
  else if x.part = [] ∧ 0 ≤ x.gap ∧ x.gap = x.L.length then some x.L else none

def whole6 (x : SixS) : Option (List Int) :=
  match givenG x with
  | none => none
  | some l =>
    if x.gap < 0 then (if l.length = 8 then some l else none)
    else if l.length ≤ 7 then some (l.take x.gap.toNat ++ List.replicate (8 - l.length) 0 ++ l.drop x.gap.toNat) else none

def rparse6 (l : List Int) : List Int × Int × Int :=
  let r := read6 l l.length 0 ⟨[], -1, []⟩
  if r.2 < l.length then (List.replicate 16 0, (r.2 : Int), 20)
  else match whole6 r.1 with
    | none => (List.replicate 16 0, (r.2 : Int), 20)
    | some g => ((g.map (fun z => [z / 256, z % 256])).flatten, 0, 0)

def slashN (l : List Int) : Nat → Nat → Nat
  | 0, n => n
  | f + 1, n => if l.getD n 47 = 47 then n else slashN l f (n + 1)
def lenN (l : List Int) (most : Int) : Nat → Nat → Nat
  | 0, n => n
  | f + 1, n => if octB (l.take (n + 1)) most then lenN l most f (n + 1) else n

example : rparse6 ("2001:db8:122:344::".toList.map (fun c => (c.toNat : Int))) = ([32, 1, 13, 184, 1, 34, 3, 68, 0, 0, 0, 0, 0, 0, 0, 0], 0, 0) := by decide +kernel
example : rparse4 ("192.0.2.33".toList.map (fun c => (c.toNat : Int))) = ([192, 0, 2, 33], 0, 0) := by decide +kernel

end Go.Proofs.YtopbbljnhnhpaaaDoor

namespace Go.Proofs.YtopbbljnhnhpaaaDoor
set_option linter.unusedVariables false
set_option linter.unusedSimpArgs false
open Go Go.RowKit

theorem digit_ref (c : Int) (w : World) (h : 0 ≤ c ∧ c < 256) : Calls Tryd.prog 84 #[.int .u8 c] w fun e w' => e = .returned (.bool (digB c)) ∧ w' = w := by
  go_enter Tryd.func84, Tryd.ntmps84
  by_cases h1 : 48 ≤ c
  · by_cases h2 : c ≤ 57
    · go_wp2
      go_ret
      simp [digB, h1, h2]
    · go_wp2
      go_ret
      simp [digB, h1, h2]
  · go_wp2
    go_ret
    refine ⟨?_, rfl⟩
    have : decide (48 ≤ c) = false := by simpa using h1
    simp only [digB, this, Bool.false_and]
    rfl

theorem digB_bounds {c : Int} (h : digB c = true) : 48 ≤ c ∧ c ≤ 57 := by simpa [digB] using h

theorem all_snoc {l : List Int} {k : Nat} {x : Int} {p : Int → Bool} (hx : l[k]? = some x) : (l.take (k + 1)).all p = ((l.take k).all p && p x) := by
  obtain ⟨hk, rfl⟩ := List.getElem?_eq_some_iff.1 hx
  rw [List.take_succ_eq_append_getElem hk, List.all_append]
  simp
theorem all_not {l : List Int} {k : Nat} {x : Int} {p : Int → Bool} (hx : l[k]? = some x) (h : p x = false) : l.all p = false := by
  obtain ⟨hk, rfl⟩ := List.getElem?_eq_some_iff.1 hx
  rw [Bool.eq_false_iff]
  intro ha
  rw [List.all_eq_true] at ha
  rw [ha _ (List.getElem_mem hk)] at h
  cases h

theorem pow10_le : ∀ n, n ≤ 17 → (10 : Int) ^ n ≤ 100000000000000000 := by decide

theorem byte_at (s : ByteArray) (k : Nat) (h : k < s.size) : 0 ≤ (((s[k]'h).toNat : Nat) : Int) ∧ (((s[k]'h).toNat : Nat) : Int) < 256 := by
  have := (s[k]'h).toNat_lt
  omega

set_option maxHeartbeats 1000000 in
theorem number_ref (s : ByteArray) (w : World) (hd : (txt s).all digB = true) (hs : s.size ≤ 17) : Calls Tryd.prog 53 #[.string s] w fun e w' => e = .returned (.int .i64 (numF 0 (txt s))) ∧ w' = w := by
  have hl := txt_length s
  go_enter Tryd.func53, Tryd.ntmps53
  go_wp2
  go_loop [3, 4] (fun n i => ∃ k : Nat, k ≤ s.size ∧ i = .int .i64 k ∧ n = .int .i64 (numF 0 ((txt s).take k))) (fun _ i => s.size - (intOf i).toNat)
  case atStart => exact ⟨0, Nat.zero_le _, rfl, rfl⟩
  case round =>
    obtain ⟨k, hk, rfl, rfl⟩ := hrel
    by_cases hlt : k < s.size
    · have hx := txt_at s k hlt
      have hb := byte_at s k hlt
      have hr := numF_range ((txt s).take k) 0 (by decide) (by rw [List.all_eq_true] at hd ⊢; exact fun z hz => hd z (List.mem_of_mem_take hz))
      have hp := pow10_le ((txt s).take k).length (by rw [List.length_take]; omega)
      have hdg : digB (((s[k]'hlt).toNat : Nat) : Int) = true := by
        rw [List.all_eq_true] at hd
        exact hd _ (List.mem_of_getElem? hx)
      have hdg := digB_bounds hdg
      have HN : Hid _ := numF_snoc (txt s) k _ hx
      have hr2 : numF 0 ((txt s).take k) < 100000000000000000 := by
        have h2 := hr.2
        rw [Int.zero_add, Int.one_mul] at h2
        omega
      have hr1 := hr.1
      clear hr hp hx hd
      generalize numF 0 ((txt s).take k) = n at *
      go_wp2
      refine ⟨⟨k + 1, by omega, by simp, ?_⟩, by simp [intOf]; omega⟩
      rw [HN.out]
    · obtain rfl : k = s.size := by omega
      have ht : (txt s).take s.size = txt s := List.take_of_length_le (by omega)
      rw [ht]
      go_wp2
      go_ret
      exact ⟨rfl, rfl⟩

theorem toList_empty (s : ByteArray) (h : ¬ s.size = 0) : s.toList.isEmpty = false := by
  rw [Lib.toList_data]
  cases s with
  | mk d =>
    cases d with
    | mk l =>
      cases l with
      | nil => exact absurd rfl h
      | cons => rfl

/-- What octet asks ahead of its loop. -/
theorem octB_form (l : List Int) (most : Int) (h : l ≠ []) : octB l most = (!((l.head? == some 48 && decide (1 < l.length)) || decide (3 < l.length)) && (l.all digB && decide (numF 0 l ≤ most))) := by
  cases l with
  | nil => exact absurd rfl h
  | cons x l => rfl

set_option maxHeartbeats 2000000 in
theorem octet_ref (s : ByteArray) (most : Int) (w : World) (hm : 0 ≤ most ∧ most ≤ 1000000) : Calls Tryd.prog 72 #[.string s, .int .i64 most] w fun e w' => e = .returned (.bool (octB (txt s) most)) ∧ w' = w := by
  have hl := txt_length s
  by_cases h0 : s.size = 0
  · have e0 : txt s = [] := (txt_empty s).2 h0
    have e1 : octB (txt s) most = true := by rw [e0]; rfl
    rw [e1]
    have e2 : s = ⟨#[]⟩ := by
      cases s with
      | mk d => simp only [ByteArray.size] at h0; simp [Array.size_eq_zero_iff.1 h0]
    subst e2
    go_enter Tryd.func72, Tryd.ntmps72
    go_wp2
    go_ret
    exact ⟨rfl, rfl⟩
  · have hne : txt s ≠ [] := fun e => h0 ((txt_empty s).1 e)
    rw [octB_form _ _ hne]
    have hse := toList_empty s h0
    generalize hR : (!(((txt s).head? == some 48 && decide (1 < (txt s).length)) || decide (3 < (txt s).length)) && ((txt s).all digB && decide (numF 0 (txt s) ≤ most))) = R
    have HR : Hid _ := hR
    clear hR
    have hz : 0 < s.size := by omega
    have hh : (txt s).head? = some (((s[0]'hz).toNat : Nat) : Int) := by rw [List.head?_eq_getElem?]; exact txt_at s 0 hz
    have b0 := byte_at s 0 hz
    rw [hl, hh] at HR
    by_cases hlen : 3 < s.size
    · have eR : R = false := by rw [← HR.out]; simp [hlen]
      subst eR
      clear HR
      by_cases h48 : (((s[0]'hz).toNat : Nat) : Int) = 48
      · have q0 : ((((s[0]'hz).toNat : Nat) : Int) == 48) = true := by simpa using h48
        have q1 : (1 : Int) < (s.size : Nat) := by omega
        go_enter Tryd.func72, Tryd.ntmps72
        go_wp2
        go_ret
        exact ⟨rfl, rfl⟩
      · have q0 : ((((s[0]'hz).toNat : Nat) : Int) == 48) = false := by simpa using h48
        have q1 : (3 : Int) < (s.size : Nat) := by omega
        go_enter Tryd.func72, Tryd.ntmps72
        go_wp2
        go_ret
        exact ⟨rfl, rfl⟩
    · have hrest : ∀ (b : Bool), (((((s[0]'hz).toNat : Nat) : Int) == 48) && decide (1 < s.size)) = b → b = false → R = ((txt s).all digB && decide (numF 0 (txt s) ≤ most)) := by
        intro b hb hb'
        rw [← HR.out]
        subst hb'
        simp only [Option.some_beq_some, hb, Bool.false_or, decide_eq_false hlen, Bool.not_false, Bool.true_and]
      by_cases hbad : (((s[0]'hz).toNat : Nat) : Int) = 48 ∧ 1 < s.size
      · have eR : R = false := by
          rw [← HR.out, hbad.1]
          simp [hbad.2]
        subst eR
        clear HR hrest
        have q0 : ((((s[0]'hz).toNat : Nat) : Int) == 48) = true := by simpa using hbad.1
        have q1 : (1 : Int) < (s.size : Nat) := by omega
        go_enter Tryd.func72, Tryd.ntmps72
        go_wp2
        go_ret
        exact ⟨rfl, rfl⟩
      · have eR : R = ((txt s).all digB && decide (numF 0 (txt s) ≤ most)) := hrest _ rfl (by
          by_cases c : (((s[0]'hz).toNat : Nat) : Int) = 48
          · have : ¬ 1 < s.size := fun h => hbad ⟨c, h⟩
            simp [this]
          · simp [c])
        have q2 : ¬ ((3 : Int) < (s.size : Nat)) := by omega
        have HE : Hid _ := eR
        have hq : ((((s[0]'hz).toNat : Nat) : Int) == 48) = false ∨ (((((s[0]'hz).toNat : Nat) : Int) == 48) = true ∧ ¬ ((1 : Int) < (s.size : Nat))) := by
          by_cases c : (((s[0]'hz).toNat : Nat) : Int) = 48
          · exact .inr ⟨by simpa using c, fun h => hbad ⟨c, by omega⟩⟩
          · exact .inl (by simpa using c)
        clear HR hrest eR hbad
        rcases hq with q0 | ⟨q0, q1⟩
        all_goals
          go_enter Tryd.func72, Tryd.ntmps72
          go_wp2
          go_loop [5, 6] (fun n i => ∃ k : Nat, k ≤ s.size ∧ i = .int .i64 k ∧ n = .int .i64 (numF 0 ((txt s).take k)) ∧ ((txt s).take k).all digB = true) (fun _ i => s.size - (intOf i).toNat)
          case atStart => exact ⟨0, Nat.zero_le _, rfl, rfl, rfl⟩
          case round =>
            obtain ⟨k, hk, rfl, rfl, hall⟩ := hrel
            by_cases hlt : k < s.size
            · have hx := txt_at s k hlt
              have hb := byte_at s k hlt
              have hr := numF_range ((txt s).take k) 0 (by decide) hall
              have hp := pow10_le ((txt s).take k).length (by rw [List.length_take]; omega)
              have hr2 : numF 0 ((txt s).take k) < 100000000000000000 := by
                have h2 := hr.2
                rw [Int.zero_add, Int.one_mul] at h2
                omega
              have hr1 := hr.1
              have HN : Hid _ := numF_snoc (txt s) k _ hx
              have HA : Hid _ := all_snoc (p := digB) hx
              have HX : Hid _ := hx
              have HH : Hid _ := hall
              clear hr hp hx hall
              generalize numF 0 ((txt s).take k) = n at *
              by_cases hdg : digB (((s[k]'hlt).toNat : Nat) : Int) = true
              · have hdb := digB_bounds hdg
                go_wp2_with fail
                refine (digit_ref _ w hb).mono ?_
                rintro e w' ⟨rfl, rfl⟩
                rw [hdg]
                go_wp2
                refine ⟨⟨k + 1, by omega, by simp, ?_, ?_⟩, by simp [intOf]; omega⟩
                · rw [HN.out]
                · rw [HA.out, HH.out, hdg]; rfl
              · have hdf : digB (((s[k]'hlt).toNat : Nat) : Int) = false := by simpa using hdg
                have eF : R = false := by rw [HE.out, all_not HX.out hdf]; rfl
                subst eF
                clear HE
                go_wp2_with fail
                refine (digit_ref _ w hb).mono ?_
                rintro e w' ⟨rfl, rfl⟩
                rw [hdf]
                go_wp2
                go_ret
                exact ⟨rfl, rfl⟩
            · obtain rfl : k = s.size := by omega
              have ht : (txt s).take s.size = txt s := List.take_of_length_le (by omega)
              rw [ht] at hall ⊢
              have eF : R = decide (numF 0 (txt s) ≤ most) := by rw [HE.out, hall]; rfl
              subst eF
              clear HE hall
              generalize hn : numF 0 (txt s) = n
              have HN : Hid _ := hn
              clear hn
              go_wp2
              go_ret
              exact ⟨by rw [HN.out]; rfl, rfl⟩

end Go.Proofs.YtopbbljnhnhpaaaDoor

namespace Go.Proofs.YtopbbljnhnhpaaaDoor
set_option linter.unusedVariables false
set_option linter.unusedSimpArgs false
open Go Go.RowKit

def strsV (bs : List ByteArray) : List Value := bs.map (fun b => Value.string b)

theorem splitA_cons (c : Int) (cur l : List Int) (k : Nat) (x : Int) (h : l[k]? = some x) :
    splitA c cur (l.drop k) = if x = c then cur :: splitA c [] (l.drop (k + 1)) else splitA c (cur ++ [x]) (l.drop (k + 1)) := by
  obtain ⟨hk, rfl⟩ := List.getElem?_eq_some_iff.1 h
  rw [List.drop_eq_getElem_cons hk]
  rfl

theorem cur_next (l : List Int) (f k : Nat) (x : Int) (hf : f ≤ k) (h : l[k]? = some x) : (l.drop f).take (k + 1 - f) = (l.drop f).take (k - f) ++ [x] := by
  obtain ⟨hk, rfl⟩ := List.getElem?_eq_some_iff.1 h
  have e : k + 1 - f = (k - f) + 1 := by omega
  have hl : k - f < (l.drop f).length := by rw [List.length_drop]; omega
  rw [e, List.take_succ_eq_append_getElem hl]
  congr 2
  rw [List.getElem_drop]
  congr 1
  omega

theorem splitA_length (c : Int) : ∀ (l cur : List Int), (splitA c cur l).length ≤ l.length + 1 := by
  intro l
  induction l with
  | nil => intro cur; simp [splitA]
  | cons x l ih =>
    intro cur
    rw [splitA]
    split
    · have := ih []
      simp only [List.length_cons]
      omega
    · have := ih (cur ++ [x])
      simp only [List.length_cons]
      omega

structure SpAt (s : ByteArray) (c : Int) (w0 wr : World) (v : Value) (bs : List ByteArray) (f k : Nat) : Prop where
  own : wr.ownsRow w0.heap.size 9 1 v bs.length (strsV bs)
  below : Below w0.heap.size w0 wr
  few : bs.length ≤ k
  le : f ≤ k
  end_ : k ≤ s.size + 1
  now : k ≤ s.size → splitA c [] (txt s) = bs.map txt ++ splitA c (((txt s).drop f).take (k - f)) ((txt s).drop k)
  over : k = s.size + 1 → splitA c [] (txt s) = bs.map txt

/-- The parts as a new row of strings. -/
def SplitPost (s : ByteArray) (c : Int) (w : World) (e : Ending) (w' : World) : Prop := ∃ v bs, e = .returned v ∧ w'.ownsRow w.heap.size 9 1 v bs.length (strsV bs) ∧ bs.map txt = splitA c [] (txt s) ∧ Below w.heap.size w w'

set_option maxHeartbeats 2000000 in
theorem split_ref (s : ByteArray) (c : Int) (w : World) (hc : 0 ≤ c ∧ c < 256) (hs : s.size ≤ 100000) :
    Calls Tryd.prog 52 #[.string s, .int .u8 c] w fun e w' => SplitPost s c w e w' := by
  have hl := txt_length s
  go_enter Tryd.func52, Tryd.ntmps52
  go_wp2
  go_loopw [5, 6, 7] (fun v fr i wr => ∃ (bs : List ByteArray) (f k : Nat), i = .int .i64 k ∧ fr = .int .i64 f ∧ SpAt s c w wr v bs f k) (fun _ _ i _ => s.size + 2 - (intOf i).toNat)
  case atStart => exact ⟨[], 0, 0, rfl, rfl, World.ownsRow_nil _ _ _ _, Below.refl _ _, Nat.zero_le _, Nat.zero_le _, by omega, fun _ => rfl, fun h => by omega⟩
  case round =>
    obtain ⟨bs, f, k, rfl, rfl, ⟨hown, hB, hfew, hfk, hend, hnow, hover⟩⟩ := hrel
    have hsz := hB.size
    by_cases hlt : k ≤ s.size
    · have hnow' := hnow hlt
      obtain ⟨v', w1, hrun, hown', hgrow, _⟩ := own_lit elem_string hown hsz (by omega) (by decide) [.string (s.extract f k)] 1 rfl (by decide) (fun u hu => by simp at hu; subst hu; rfl) 76 #[.string (s.extract f k)] rfl
      have hB' := hB.grown hgrow hsz (fun j hj => (hown.lt j hj).1)
      have e2 : strsV bs ++ [.string (s.extract f k)] = strsV (bs ++ [s.extract f k]) := by simp [strsV]
      have e3 : bs.length + 1 = (bs ++ [s.extract f k]).length := by simp
      have e4 : (bs ++ [s.extract f k]).map txt = bs.map txt ++ [((txt s).drop f).take (k - f)] := by rw [List.map_append, List.map_cons, List.map_nil, txt_extract]
      rw [e2, e3] at hown'
      have H0 : Hid _ := hrun
      have HO : Hid _ := hown'
      have HB : Hid _ := hB'
      have HN : Hid _ := hnow'
      have H4 : Hid _ := e4
      clear hrun hown' hB' hnow' hnow hover e2 e3 e4 hgrow
      by_cases hk : k = s.size
      · subst hk
        go_wp2_with (at_builtin; refine wpList_append_run rfl _ _ _ _ rfl rfl rfl H0.out ?_; clear H0)
        refine ⟨⟨bs ++ [s.extract f s.size], s.size + 1, s.size + 1, by simp, by simp, HO.out, HB.out, by rw [List.length_append]; simp only [List.length_cons, List.length_nil]; omega, Nat.le_refl _, by omega, fun h => by omega, fun _ => ?_⟩, by simp [intOf]⟩
        have e5 : (txt s).drop s.size = [] := List.drop_eq_nil_of_le (by omega)
        rw [H4.out, HN.out, e5]
        rfl
      · have hlt' : k < s.size := by omega
        have hx := txt_at s k hlt'
        have hb := byte_at s k hlt'
        have HC : Hid _ := splitA_cons c (((txt s).drop f).take (k - f)) (txt s) k _ hx
        have HX : Hid _ := hx
        have q0 : ((k : Int) == (s.size : Int)) = false := by simp; omega
        clear hx
        by_cases hcc : (((s[k]'hlt').toNat : Nat) : Int) = c
        · have q1 : ((((s[k]'hlt').toNat : Nat) : Int) == c) = true := by simpa using hcc
          have HCC : Hid _ := hcc
          clear hcc
          go_wp2_with (at_builtin; refine wpList_append_run rfl _ _ _ _ rfl rfl rfl H0.out ?_; clear H0)
          refine ⟨⟨bs ++ [s.extract f k], k + 1, k + 1, by simp, by simp, HO.out, HB.out, by rw [List.length_append]; simp only [List.length_cons, List.length_nil]; omega, Nat.le_refl _, by omega, fun h => ?_, fun _ => by omega⟩, by simp [intOf]; omega⟩
          rw [H4.out, HN.out, HC.out, if_pos HCC.out]
          simp
        · have q1 : ((((s[k]'hlt').toNat : Nat) : Int) == c) = false := by simpa using hcc
          have HCC : Hid _ := hcc
          clear hcc H0
          go_wp2
          refine ⟨⟨bs, f, k + 1, by simp, rfl, hown, hB, by omega, by omega, by omega, fun h => ?_, fun _ => by omega⟩, by simp [intOf]; omega⟩
          rw [HN.out, HC.out, if_neg HCC.out, cur_next (txt s) f k _ hfk HX.out]
    · obtain rfl : k = s.size + 1 := by omega
      have hov := hover rfl
      clear hover hnow
      go_wp2
      go_ret
      exact ⟨_, bs, rfl, hown, hov.symm, hB⟩

end Go.Proofs.YtopbbljnhnhpaaaDoor

namespace Go.Proofs.YtopbbljnhnhpaaaDoor
set_option linter.unusedVariables false
set_option linter.unusedSimpArgs false
open Go Go.RowKit

theorem partsOk_bad (p : List Int) (r : List (List Int)) (h : octB p 255 = false) : partsOk (p :: r) = false := by
  cases r with
  | nil => exact h
  | cons q r => rw [partsOk, h]; rfl
theorem partsOk_empty (r : List (List Int)) (h : r ≠ []) : partsOk ([] :: r) = false := by
  cases r with
  | nil => exact absurd rfl h
  | cons q r => rw [partsOk]; simp
theorem partsOk_on (p : List Int) (r : List (List Int)) (h : octB p 255 = true) (g : r = [] ∨ p ≠ []) : partsOk (p :: r) = partsOk r := by
  cases r with
  | nil => exact h
  | cons q r =>
    rcases g with g | g
    · cases g
    · rw [partsOk, h]
      cases p with
      | nil => exact absurd rfl g
      | cons => rfl

theorem drop_at {α : Type} {l : List α} {k : Nat} {x : α} (h : l[k]? = some x) : l.drop k = x :: l.drop (k + 1) := by
  obtain ⟨hk, rfl⟩ := List.getElem?_eq_some_iff.1 h
  exact List.drop_eq_getElem_cons hk

theorem toList_none (s : ByteArray) (h : s.size = 0) : s.toList.isEmpty = true := by
  rw [Lib.toList_data]
  cases s with
  | mk d =>
    cases d with
    | mk l =>
      cases l with
      | nil => rfl
      | cons => simp [ByteArray.size] at h

set_option maxHeartbeats 2000000 in
theorem begins_ref (s : ByteArray) (w : World) (hs : s.size ≤ 100000) :
    Calls Tryd.prog 50 #[.string s] w fun e w' => e = .returned (.bool (begB (txt s))) ∧ Below w.heap.size w w' := by
  generalize hR : begB (txt s) = R
  have HR : Hid _ := hR
  clear hR
  go_enter Tryd.func50, Tryd.ntmps50
  go_wp2_with fail
  refine (split_ref s 46 w (by decide) hs).mono ?_
  rintro e w1 ⟨v, bs, rfl, hown, hbs, hB⟩
  obtain ⟨a, cap, rfl, hlen, hz⟩ := own_form hown
  have hll : (splitA 46 [] (txt s)).length = bs.length := by rw [← hbs, List.length_map]
  have hsl := splitA_length 46 (txt s) []
  rw [txt_length, hll] at hsl
  clear hown
  by_cases h4 : 4 < bs.length
  · have eR : R = false := by
      rw [← HR.out, begB, hll, decide_eq_false (by omega)]
      rfl
    subst eR
    clear HR
    have q0 : (4 : Int) < (bs.length : Nat) := by omega
    go_wp2
    go_ret
    exact ⟨rfl, hB⟩
  · have eR : R = partsOk (bs.map txt) := by
      rw [← HR.out, begB, hll, decide_eq_true (by omega), ← hbs]
      rfl
    have q0 : ¬ ((4 : Int) < (bs.length : Nat)) := by omega
    have HE : Hid _ := eR
    clear HR eR hll hsl
    have HBS : Hid _ := hbs
    clear hbs
    go_wp2
    go_loop [4] (fun i => ∃ k : Nat, k ≤ bs.length ∧ i = .int .i64 k ∧ partsOk (bs.map txt) = partsOk ((bs.map txt).drop k)) (fun i => bs.length - (intOf i).toNat)
    case atStart => exact ⟨0, Nat.zero_le _, rfl, rfl⟩
    case round =>
      obtain ⟨k, hk, rfl, hpk⟩ := hrel
      have HP : Hid _ := hpk
      clear hpk
      by_cases hlt : k < bs.length
      · rcases hz with hz | ⟨g, rfl, _, _, hc⟩
        · omega
        have hb : bs[k]? = some bs[k] := by simp [hlt]
        have hck := hc k (.string bs[k]) (by rw [strsV, List.getElem?_map, hb]; rfl)
        have hd : (bs.map txt).drop k = txt bs[k] :: (bs.map txt).drop (k + 1) := drop_at (by rw [List.getElem?_map, hb]; rfl)
        have HD : Hid _ := hd
        have hrest : ((bs.map txt).drop (k + 1) = []) ↔ k + 1 = bs.length := by
          rw [List.drop_eq_nil_iff, List.length_map]; omega
        have HRE : Hid _ := hrest
        have hbs0 : bs[k].size = 0 → k < bs.length := fun _ => hlt
        clear hc hd hb hrest hbs0
        generalize bs[k] = b at *
        have hoc := octet_ref b 255 w1 (by decide)
        by_cases ho : octB (txt b) 255 = true
        · rw [ho] at hoc
          have HOC : Hid _ := hoc
          clear hoc
          by_cases hlast : k + 1 = bs.length
          · have hq : ¬ ((k : Int) < (bs.length : Nat) - 1) := by omega
            go_wp2_with fail
            refine Calls.mono HOC.out ?_
            rintro e w2 ⟨rfl, rfl⟩
            go_wp2
            refine ⟨⟨k + 1, by omega, by simp, ?_⟩, by simp [intOf]; omega⟩
            rw [HP.out, HD.out, partsOk_on _ _ ho (.inl (HRE.out.2 hlast))]
          · have hq : ((k : Int) < (bs.length : Nat) - 1) := by omega
            by_cases he : b.size = 0
            · have hse := toList_none b he
              have eF : R = false := by
                rw [HE.out, HP.out, HD.out, (txt_empty b).2 he]
                exact partsOk_empty _ (fun h => hlast (HRE.out.1 h))
              subst eF
              clear HE
              go_wp2_with fail
              refine Calls.mono HOC.out ?_
              rintro e w2 ⟨rfl, rfl⟩
              go_wp2
              go_ret
              exact ⟨rfl, hB⟩
            · have hse := toList_empty b he
              go_wp2_with fail
              refine Calls.mono HOC.out ?_
              rintro e w2 ⟨rfl, rfl⟩
              go_wp2
              refine ⟨⟨k + 1, by omega, by simp, ?_⟩, by simp [intOf]; omega⟩
              rw [HP.out, HD.out, partsOk_on _ _ ho (.inr (fun h => he ((txt_empty b).1 h)))]
        · have hof : octB (txt b) 255 = false := by simpa using ho
          rw [hof] at hoc
          have HOC : Hid _ := hoc
          clear hoc
          have eF : R = false := by
            rw [HE.out, HP.out, HD.out]
            exact partsOk_bad _ _ hof
          subst eF
          clear HE
          go_wp2_with fail
          refine Calls.mono HOC.out ?_
          rintro e w2 ⟨rfl, rfl⟩
          go_wp2
          go_ret
          exact ⟨rfl, hB⟩
      · obtain rfl : k = bs.length := by omega
        have eT : R = true := by
          rw [HE.out, HP.out, List.drop_eq_nil_of_le (by rw [List.length_map]; exact Nat.le_refl _)]
          rfl
        subst eT
        clear HE HP
        go_wp2
        go_ret
        exact ⟨rfl, hB⟩

end Go.Proofs.YtopbbljnhnhpaaaDoor

namespace Go.Proofs.YtopbbljnhnhpaaaDoor
set_option linter.unusedVariables false
set_option linter.unusedSimpArgs false
open Go Go.RowKit

set_option maxHeartbeats 2000000 in
theorem whole_ref (s : ByteArray) (w : World) (hs : s.size ≤ 100000) :
    Calls Tryd.prog 51 #[.string s] w fun e w' => e = .returned (.bool (whoB (txt s))) ∧ Below w.heap.size w w' := by
  generalize hR : whoB (txt s) = R
  have HR : Hid _ := hR
  clear hR
  go_enter Tryd.func51, Tryd.ntmps51
  go_wp2_with fail
  refine (split_ref s 46 w (by decide) hs).mono ?_
  rintro e w1 ⟨v, bs, rfl, hown, hbs, hB⟩
  obtain ⟨a, cap, rfl, hlen, hz⟩ := own_form hown
  have hsl := splitA_length 46 (txt s) []
  rw [txt_length] at hsl
  have HBS : Hid _ := hbs
  have hR2 : R = (begB (txt s) && (decide (bs.length = 4) && !((bs.map txt).getD 3 []).isEmpty)) := by
    rw [← HR.out, whoB, ← hbs, List.length_map]
  have HR2 : Hid _ := hR2
  have hbl : bs.length ≤ 100001 := by
    have := congrArg List.length hbs
    rw [List.length_map] at this
    omega
  clear hown hbs HR hR2
  go_wp2_with fail
  refine (begins_ref s w1 hs).mono ?_
  rintro e w2 ⟨rfl, hB2⟩
  have hB3 : Below w.heap.size w w2 := hB.trans (hB2.mono hB.size)
  cases hbg : begB (txt s) with
  | false =>
    have eR : R = false := by rw [HR2.out, hbg]; rfl
    subst eR
    clear HR2
    go_wp2
    go_ret
    exact ⟨rfl, hB3⟩
  | true =>
    by_cases h4 : bs.length = 4
    · rcases hz with hz | ⟨g, rfl, _, hg, hc⟩
      · omega
      have hb : bs[3]? = some bs[3] := by simp [h4]
      have hck := (hB2.cell (p := ⟨g, 3, none⟩) hg).trans (hc 3 (.string bs[3]) (by rw [strsV, List.getElem?_map, hb]; rfl))
      have hg3 : (bs.map txt).getD 3 [] = txt bs[3] := by simp [h4]
      have eR : R = !(txt bs[3]).isEmpty := by rw [HR2.out, hbg, decide_eq_true h4, hg3]; rfl
      have HE : Hid _ := eR
      have q0 : ((bs.length : Int) == 4) = true := by simp; omega
      clear hc hb hg3 eR HR2
      generalize bs[3] = b at *
      by_cases he : b.size = 0
      · have hse := toList_none b he
        have eF : R = false := by rw [HE.out, (txt_empty b).2 he]; rfl
        subst eF
        clear HE
        go_wp2
        go_ret
        exact ⟨rfl, hB3⟩
      · have hse := toList_empty b he
        have eF : R = true := by
          rw [HE.out]
          cases ht : txt b with
          | nil => exact absurd ((txt_empty b).1 ht) he
          | cons => rfl
        subst eF
        clear HE
        go_wp2
        go_ret
        exact ⟨rfl, hB3⟩
    · have eR : R = false := by rw [HR2.out, decide_eq_false h4]; simp
      have q0 : ((bs.length : Int) == 4) = false := by simp; omega
      subst eR
      clear HR2
      go_wp2
      go_ret
      exact ⟨rfl, hB3⟩

theorem partsOk_each : ∀ (ps : List (List Int)), partsOk ps = true → ∀ p ∈ ps, octB p 255 = true
  | [], _, p, hp => by cases hp
  | [q], h, p, hp => by
    rcases List.mem_cons.1 hp with rfl | hp
    · exact h
    · cases hp
  | q :: r :: t, h, p, hp => by
    rw [partsOk] at h
    simp only [Bool.and_eq_true] at h
    rcases List.mem_cons.1 hp with rfl | hp
    · exact h.1.1
    · exact partsOk_each (r :: t) h.2 p hp

theorem octB_good {p : List Int} {most : Int} (h : octB p most = true) (hm : 0 ≤ most) : p.all digB = true ∧ p.length ≤ 3 ∧ 0 ≤ numF 0 p ∧ numF 0 p ≤ most := by
  cases p with
  | nil => exact ⟨rfl, by simp, by simp [numF], by simpa [numF] using hm⟩
  | cons x l =>
    rw [octB_form _ _ (by simp)] at h
    simp only [Bool.and_eq_true, Bool.not_eq_true', Bool.or_eq_false_iff, decide_eq_true_eq, decide_eq_false_iff_not] at h
    exact ⟨h.2.1, by omega, (numF_range _ 0 (by decide) h.2.1).1, h.2.2⟩

theorem whoB_parts {l : List Int} (h : whoB l = true) : (splitA 46 [] l).length = 4 ∧ ∀ p ∈ splitA 46 [] l, octB p 255 = true := by
  unfold whoB begB at h
  simp only [Bool.and_eq_true, decide_eq_true_eq] at h
  exact ⟨h.2.1, partsOk_each _ h.1.2⟩

theorem begN_le (l : List Int) : ∀ f n, n ≤ begN l f n
  | 0, n => Nat.le_refl _
  | f + 1, n => by
    unfold begN
    split
    · exact Nat.le_of_succ_le (begN_le l f (n + 1))
    · exact Nat.le_refl _

end Go.Proofs.YtopbbljnhnhpaaaDoor

namespace Go.Proofs.YtopbbljnhnhpaaaDoor
set_option linter.unusedVariables false
set_option linter.unusedSimpArgs false
open Go Go.RowKit

abbrev zero4L : List Value := [.int .u8 0, .int .u8 0, .int .u8 0, .int .u8 0]

/-- An address that a parser answers, the place of its fault, and its error. -/
def Par4 (r : List Int × Int × Int) : Value := .tuple #[.agg (b8 r.1).toArray, .int .i64 r.2.1, .int .i64 r.2.2]

def Par4Post (s : ByteArray) (w : World) (e : Ending) (w' : World) : Prop := e = .returned (Par4 (rparse4 (txt s))) ∧ Below w.heap.size w w'

/-- What four parts have become of, the first k of them. -/
def numK (ps : List (List Int)) (k : Nat) : List Int := (ps.map (numF 0)).take k ++ List.replicate (4 - k) 0

theorem numK_next (ps : List (List Int)) (k : Nat) (p : List Int) (h4 : ps.length = 4) (h : ps[k]? = some p) : (numK ps k).set k (numF 0 p) = numK ps (k + 1) := by
  obtain ⟨hk, rfl⟩ := List.getElem?_eq_some_iff.1 h
  match ps, h4, k, hk with
  | [a, b, c, d], _, 0, _ => rfl
  | [a, b, c, d], _, 1, _ => rfl
  | [a, b, c, d], _, 2, _ => rfl
  | [a, b, c, d], _, 3, _ => rfl
theorem numK_length (ps : List (List Int)) (k : Nat) (h4 : ps.length = 4) (hk : k ≤ 4) : (numK ps k).length = 4 := by
  simp [numK, h4]
  omega
theorem numK_all (ps : List (List Int)) (h4 : ps.length = 4) : numK ps 4 = ps.map (numF 0) := by
  match ps, h4 with
  | [a, b, c, d], _ => rfl

set_option maxHeartbeats 4000000 in
set_option maxRecDepth 100000 in
theorem Parse4_ref (s : ByteArray) (w : World) (hs : s.size ≤ 99999) :
    Calls Tryd.prog 14 #[.string s] w fun e w' => Par4Post s w e w' := by
  have hl := txt_length s
  generalize hQ : (fun e w' => Par4Post s w e w') = Q
  have HQ : Hid _ := hQ
  clear hQ
  go_enter Tryd.func14, Tryd.ntmps14
  go_wp2_with fail
  have hb0 := blk_new w (.cells zero4L.toArray 23)
  have hB0 := (Below.refl w.heap.size w).alloc (Nat.le_refl _) (.cells zero4L.toArray 23)
  have hz0 : (w.alloc (.cells zero4L.toArray 23)).heap.size = w.heap.size + 1 := by simp
  generalize hW : w.alloc (.cells zero4L.toArray 23) = W0 at *
  clear hW
  go_loopw [5] (fun i wr => ∃ k : Nat, k ≤ s.size ∧ i = .int .i64 k ∧ Below W0.heap.size W0 wr ∧ begN (txt s) s.size 0 = begN (txt s) (s.size - k) k) (fun i _ => s.size - (intOf i).toNat)
  case atStart => exact ⟨0, Nat.zero_le _, rfl, Below.refl _ _, rfl⟩
  case round =>
    obtain ⟨k, hk, rfl, hB, hN⟩ := hrel
    have HN : Hid _ := hN
    clear hN
    by_cases hlt : k < s.size
    · have hbg := begins_ref (s.extract 0 (k + 1)) wr (by rw [ByteArray.size_extract]; omega)
      rw [txt_extract, List.drop_zero, Nat.sub_zero] at hbg
      have hstep : begN (txt s) (s.size - k) k = if begB ((txt s).take (k + 1)) then begN (txt s) (s.size - (k + 1)) (k + 1) else k := by
        have e : s.size - k = (s.size - (k + 1)) + 1 := by omega
        rw [e, begN]
      cases hbb : begB ((txt s).take (k + 1)) with
      | true =>
        rw [hbb] at hbg
        have HS : Hid _ := hstep.trans (by rw [hbb, if_pos rfl] : _ = begN (txt s) (s.size - (k + 1)) (k + 1))
        have HBG : Hid _ := hbg
        clear hbg hstep hbb
        go_wp2_with fail
        refine Calls.mono HBG.out ?_
        rintro e w2 ⟨rfl, hB2⟩
        go_wp2
        exact ⟨⟨k + 1, by omega, by simp, hB.trans (hB2.mono hB.size), HN.out.trans HS.out⟩, by simp [intOf]; omega⟩
      | false =>
        rw [hbb] at hbg
        have hne : rparse4 (txt s) = ([0, 0, 0, 0], (k : Int), 20) := by
          have e : begN (txt s) (txt s).length 0 = k := by
            rw [hl, HN.out, hstep, hbb]
            rfl
          unfold rparse4
          rw [e]
          exact if_pos (.inl (by omega))
        have HNE : Hid _ := hne
        have HBG : Hid _ := hbg
        clear hbg hstep hbb hne
        go_wp2_with fail
        refine Calls.mono HBG.out ?_
        rintro e w2 ⟨rfl, hB2⟩
        have hbx := (hB2.block _ (Nat.lt_of_lt_of_le (by omega) hB.size)).trans ((hB.block w.heap.size (by omega)).trans hb0)
        have hBx : Below w.heap.size w w2 := (hB0.trans (hB.mono (by omega))).trans (hB2.mono (Nat.le_trans hB0.size hB.size))
        obtain ⟨wE, hst, bE, hon⟩ := box_store Tryd.sizeOf23 hbx rfl zero4L rfl (by simp [Value.oneCell'])
        have HST : Hid _ := hst
        have BE : Hid _ := bE
        have HBE : Hid (Below w.heap.size w wE) := hBx.trans (hon.below (Nat.le_refl _))
        clear hst bE hon hbx hBx
        go_wp2_with ((with_reducible show wpList _ _ _ _ _ _); refine arm_store rfl (.tmp 2) (.tmp 31) 23 rfl rfl rfl HST.out ?_)
        refine bodyPost_ret (res3c Tryd.results14 rfl (agg_loadVar Tryd.isAgg23 Tryd.sizeOf23 rfl (CellsAt.of_blk BE.out))) rfl ?_
        rw [← HQ.out]
        refine ⟨?_, HBE.out⟩
        rw [HNE.out]
        rfl
    · obtain rfl : k = s.size := by omega
      have hN2 : begN (txt s) (txt s).length 0 = s.size := by
        rw [hl, HN.out, Nat.sub_self]
        rfl
      have hwh := whole_ref s wr (by omega)
      cases hwb : whoB (txt s) with
      | false =>
        rw [hwb] at hwh
        have hne : rparse4 (txt s) = ([0, 0, 0, 0], (s.size : Int), 20) := by
          unfold rparse4
          rw [hN2]
          exact if_pos (.inr hwb)
        have HNE : Hid _ := hne
        have HWH : Hid _ := hwh
        clear hwh hwb hne HN hN2
        go_wp2_with fail
        refine Calls.mono HWH.out ?_
        rintro e w2 ⟨rfl, hB2⟩
        have hbx := (hB2.block _ (Nat.lt_of_lt_of_le (by omega) hB.size)).trans ((hB.block w.heap.size (by omega)).trans hb0)
        have hBx : Below w.heap.size w w2 := (hB0.trans (hB.mono (by omega))).trans (hB2.mono (Nat.le_trans hB0.size hB.size))
        obtain ⟨wE, hst, bE, hon⟩ := box_store Tryd.sizeOf23 hbx rfl zero4L rfl (by simp [Value.oneCell'])
        have HST : Hid _ := hst
        have BE : Hid _ := bE
        have HBE : Hid (Below w.heap.size w wE) := hBx.trans (hon.below (Nat.le_refl _))
        clear hst bE hon hbx hBx
        go_wp2_with ((with_reducible show wpList _ _ _ _ _ _); refine arm_store rfl (.tmp 2) (.tmp 31) 23 rfl rfl rfl HST.out ?_)
        refine bodyPost_ret (res3c Tryd.results14 rfl (agg_loadVar Tryd.isAgg23 Tryd.sizeOf23 rfl (CellsAt.of_blk BE.out))) rfl ?_
        rw [← HQ.out]
        refine ⟨?_, HBE.out⟩
        rw [HNE.out]
        rfl
      | true =>
        rw [hwb] at hwh
        have hne : rparse4 (txt s) = ((splitA 46 [] (txt s)).map (numF 0), 0, 0) := by
          unfold rparse4
          rw [hN2]
          exact if_neg (by simp [hwb, hl])
        have HNE : Hid _ := hne
        have HWH : Hid _ := hwh
        have hpp := whoB_parts hwb
        have HPP : Hid _ := hpp
        clear hwh hwb hne HN hN2 hpp
        go_wp2_with fail
        refine Calls.mono HWH.out ?_
        rintro e w2 ⟨rfl, hB2⟩
        have hbx := (hB2.block _ (Nat.lt_of_lt_of_le (by omega) hB.size)).trans ((hB.block w.heap.size (by omega)).trans hb0)
        have hBx : Below w.heap.size w w2 := (hB0.trans (hB.mono (by omega))).trans (hB2.mono (Nat.le_trans hB0.size hB.size))
        have hlt2 : w.heap.size < w2.heap.size := Nat.lt_of_lt_of_le (by omega) (Nat.le_trans hB.size hB2.size)
        go_wp2_with fail
        refine (split_ref s 46 w2 (by decide) (by omega)).mono ?_
        rintro e w3 ⟨v, bs, rfl, hown, hbs, hB3⟩
        obtain ⟨a, cap, rfl, hlen, hz⟩ := own_form hown
        have h4 : bs.length = 4 := by
          have := congrArg List.length hbs
          rw [List.length_map, HPP.out.1] at this
          exact this
        have hbx := (hB3.block _ hlt2).trans hbx
        have hBx := hBx.trans (hB3.mono hBx.size)
        have HBS : Hid _ := hbs
        clear hown hbs
        rcases hz with hz | ⟨g, rfl, hgb, hg, hc⟩
        · omega
        obtain ⟨w4, hst, b4, hB4⟩ := box_new Tryd.sizeOf23 w3 zero4L rfl zero4L rfl (by simp [Value.oneCell'])
        have HST : Hid _ := hst
        clear hst
        go_wp2_with ((with_reducible show wpList _ _ _ _ _ _); refine arm_store rfl (.tmp 7) (.tmp 35) 23 rfl rfl rfl HST.out ?_)
        have hps : (bs.map txt).length = 4 := by rw [List.length_map]; exact h4
        have hne : w.heap.size ≠ w3.heap.size := by have := hB3.size; omega
        have hlt3 : w.heap.size < w3.heap.size := by have := hB3.size; omega
        go_loopw [8] (fun i wr => ∃ k : Nat, k ≤ 4 ∧ i = .int .i64 k ∧ wr.heap[w3.heap.size]? = some (.cells (b8 (numK (bs.map txt) k)).toArray 23) ∧ Only w3.heap.size w4 wr) (fun i _ => 4 - (intOf i).toNat)
        case atStart => exact ⟨0, Nat.zero_le _, rfl, b4, Only.refl _ _⟩
        case round =>
          clear hB
          obtain ⟨k, hk, rfl, hbk, hon⟩ := hrel
          by_cases hlt4 : k < 4
          · have hb : bs[k]? = some bs[k] := by simp [h4, hlt4]
            have hcel := ((hon.below (Nat.le_refl _)).cell (p := ⟨g, k, none⟩) hg).trans ((hB4.cell (p := ⟨g, k, none⟩) hg).trans (hc k (.string bs[k]) (by rw [strsV, List.getElem?_map, hb]; rfl)))
            have hpk : (bs.map txt)[k]? = some (txt bs[k]) := by rw [List.getElem?_map, hb]; rfl
            have hgood := octB_good (HPP.out.2 (txt bs[k]) (by rw [← HBS.out]; exact List.mem_of_getElem? hpk)) (by decide)
            have HNX : Hid _ := numK_next (bs.map txt) k (txt bs[k]) hps hpk
            have hlen4 := numK_length (bs.map txt) k hps hk
            clear hb hpk
            generalize bs[k] = b at *
            have hnum := number_ref b wr hgood.1 (by have := hgood.2.1; rw [txt_length] at this; omega)
            have hr := hgood.2.2
            have HNU : Hid _ := hnum
            clear hgood hnum
            generalize numF 0 (txt b) = n at *
            have hfz := blk_open hbk k
            have hcl : wr.cell? ⟨w3.heap.size, k, none⟩ = some ((b8 (numK (bs.map txt) k))[k]'(by rw [b8_length]; omega)) := blk_cell hbk (List.getElem?_eq_getElem _)
            have hset := blk_set hbk k (.int .u8 n)
            rw [b8_set, HNX.out] at hset
            have hon' := hon.set k (.int .u8 n)
            generalize (b8 (numK (bs.map txt) k))[k]'(by rw [b8_length]; omega) = old at *
            have HSE : Hid _ := hset
            have HON : Hid _ := hon'
            clear hset hon' hon hbk
            have hwr : IntKind.u8.wrap n = n := by unfold IntKind.wrap; simp [IntKind.signed, IntKind.bits]; omega
            go_wp2_with fail
            refine Calls.mono HNU.out ?_
            rintro e w5 ⟨rfl, rfl⟩
            go_wp2
            exact ⟨⟨k + 1, by omega, by simp, HSE.out, HON.out⟩, by simp [intOf]; omega⟩
          · obtain rfl : k = 4 := by omega
            rw [numK_all _ hps, HBS.out] at hbk
            have hl4 := HPP.out.1
            have hbR := ((hon.below (B := w3.heap.size) (Nat.le_refl _)).block _ hlt3).trans ((hB4.block _ hlt3).trans hbx)
            have hBR : Below w.heap.size w wr := (hBx.trans (hB4.mono hBx.size)).trans (hon.below (by omega))
            have hL := agg_load (t := 23) Tryd.isAgg23 Tryd.sizeOf23 (vs := b8 ((splitA 46 [] (txt s)).map (numF 0))) (by rw [b8_length, List.length_map]; exact hl4) (CellsAt.of_blk hbk)
            obtain ⟨wE, hst, bE, honE⟩ := box_store Tryd.sizeOf23 hbR rfl (b8 ((splitA 46 [] (txt s)).map (numF 0))) (by rw [b8_length, List.length_map]; exact hl4) (b8_one _)
            have hlv := agg_loadVar (t := 23) Tryd.isAgg23 Tryd.sizeOf23 (vs := b8 ((splitA 46 [] (txt s)).map (numF 0))) (by rw [b8_length, List.length_map]; exact hl4) (CellsAt.of_blk bE)
            have HBE : Hid (Below w.heap.size w wE) := hBR.trans (honE.below (Nat.le_refl _))
            have HL : Hid _ := hL
            have HSQ : Hid _ := hst
            have HLV : Hid _ := hlv
            clear hL hst hlv bE honE hbR hBR hbk hon
            go_wp2_with first
              | ((with_reducible show wpList _ _ _ _ _ _); refine arm_load rfl (.tmp 7) 23 rfl rfl HL.out ?_)
              | ((with_reducible show wpList _ _ _ _ _ _); refine arm_store rfl (.tmp 2) (.tmp 48) 23 rfl rfl rfl HSQ.out ?_)
            refine bodyPost_ret (res3c Tryd.results14 rfl HLV.out) rfl ?_
            rw [← HQ.out]
            refine ⟨?_, HBE.out⟩
            rw [HNE.out]
            rfl

end Go.Proofs.YtopbbljnhnhpaaaDoor

namespace Go.Proofs.YtopbbljnhnhpaaaDoor
open Go
set_option linter.unusedVariables false
set_option linter.unusedSimpArgs false

theorem split_snoc (c x : Int) : ∀ (l cur : List Int) (P : List (List Int)) (q : List Int), splitA c cur l = P ++ [q] → splitA c cur (l ++ [x]) = if x = c then P ++ [q] ++ [[]] else P ++ [q ++ [x]]
  | [], cur, P, q, h => by
    simp only [splitA] at h
    have hP : P = [] := by
      cases P with
      | nil => rfl
      | cons a r => have := congrArg List.length h; simp at this
    subst hP
    simp at h
    subst h
    by_cases hx : x = c
    · simp [splitA, hx]
    · simp [splitA, hx]
  | y :: l, cur, P, q, h => by
    rw [splitA] at h
    rw [List.cons_append, splitA]
    by_cases hy : y = c
    · rw [if_pos hy] at h ⊢
      cases P with
      | nil =>
        have h2 := List.cons.inj h
        exfalso
        have : ∀ (l cur : List Int), splitA c cur l ≠ [] := by
          intro l
          induction l with
          | nil => intro cur; simp [splitA]
          | cons z r ih => intro cur; rw [splitA]; split <;> simp [ih]
        exact this l [] h2.2
      | cons a r =>
        have h2 := List.cons.inj h
        have ih := split_snoc c x l [] r q h2.2
        rw [ih, h2.1]
        split <;> simp
    · rw [if_neg hy] at h ⊢
      exact split_snoc c x l (cur ++ [y]) P q h
theorem parts_snoc : ∀ (P : List (List Int)) (q : List Int), partsOk (P ++ [q]) = (P.all (fun p => octB p 255 && !p.isEmpty) && octB q 255)
  | [], q => by simp [partsOk]
  | [p], q => by simp [partsOk]
  | p :: p2 :: r, q => by
    have ih := parts_snoc (p2 :: r) q
    simp only [List.cons_append, partsOk, List.all_cons, Bool.and_assoc] at ih ⊢
    rw [ih]

theorem oct_len {q : List Int} (h : octB q 255 = true) : q.length ≤ 3 := by
  unfold octB at h
  cases q with
  | nil => simp
  | cons a r =>
    simp at h
    simp
    omega
theorem oct_step (q : List Int) (x : Int) (h : octB q 255 = true) : octB (q ++ [x]) 255 = true ↔ (48 ≤ x ∧ x ≤ 57) ∧ ¬ (q ≠ [] ∧ numF 0 q = 0) ∧ 10 * numF 0 q + (x - 48) ≤ 255 := by
  have hl := oct_len h
  match q, hl with
  | [], _ =>
    simp [octB, numF, digB]
    try omega
  | [a], _ =>
    simp [octB, numF, digB] at h ⊢
    omega
  | [a, b], _ =>
    simp [octB, numF, digB] at h ⊢
    omega
  | [a, b, c], _ =>
    simp [octB, numF, digB] at h ⊢
    omega
theorem num_snoc (q : List Int) (x : Int) : numF 0 (q ++ [x]) = numF 0 q * 10 + (x - 48) := by simp [numF, List.foldl_append]

/-- What the program's reader has read of l. -/
structure Rel (d : Dot) (l : List Int) (P : List (List Int)) (q : List Int) : Prop where
  split : splitA 46 [] l = P ++ [q]
  len : P.length ≤ 3
  all : P.all (fun p => octB p 255 && !p.isEmpty) = true
  oct : octB q 255 = true
  count : d.count = P.length
  value : d.num.value = numF 0 q
  begun : d.num.begun = !q.isEmpty
  e0 : d.e0 = ((P[0]?).map (numF 0)).getD 0
  e1 : d.e1 = ((P[1]?).map (numF 0)).getD 0
  e2 : d.e2 = ((P[2]?).map (numF 0)).getD 0

theorem Rel.new : Rel Dot.new [] [] [] := ⟨rfl, by simp, rfl, rfl, rfl, rfl, rfl, rfl, rfl, rfl⟩
theorem Rel.beg {d : Dot} {l : List Int} {P : List (List Int)} {q : List Int} (h : Rel d l P q) : begB l = true := by
  unfold begB
  rw [h.split, parts_snoc, h.all, h.oct]
  have := h.len
  simp
  omega
theorem Rel.who {d : Dot} {l : List Int} {P : List (List Int)} {q : List Int} (h : Rel d l P q) : whoB l = d.whole := by
  unfold whoB Dot.whole
  rw [h.beg, h.split, h.begun, h.count]
  have hl := h.len
  match P, hl with
  | [], _ => simp
  | [a], _ => simp
  | [a, b], _ => simp
  | [a, b, c], _ => simp
theorem Rel.addr {d : Dot} {l : List Int} {P : List (List Int)} {q : List Int} (h : Rel d l P q) (hw : d.whole = true) : (splitA 46 [] l).map (numF 0) = d.addr := by
  unfold Dot.whole at hw
  simp at hw
  have h3 : P.length = 3 := by have := h.count; omega
  unfold Dot.addr
  rw [h.split, h.e0, h.e1, h.e2, h.value]
  match P, h3 with
  | [a, b, c], _ => simp
theorem Rel.take {d : Dot} {l : List Int} {P : List (List Int)} {q : List Int} (h : Rel d l P q) (x : Int) : (∃ d', d.take x = some d' ∧ begB (l ++ [x]) = true ∧ ∃ P' q', Rel d' (l ++ [x]) P' q') ∨ (d.take x = none ∧ begB (l ++ [x]) = false) := by
  have hs := split_snoc 46 x l [] P q h.split
  by_cases hx : x = 46
  · rw [if_pos hx] at hs
    unfold Dot.take
    rw [if_neg (by simpa using hx)]
    by_cases hc : d.num.begun = false ∨ d.count = 3
    · refine .inr ⟨if_pos hc, ?_⟩
      unfold begB
      rw [hs, parts_snoc]
      rcases hc with hc | hc
      · rw [h.begun] at hc
        simp at hc
        simp [hc]
      · have : P.length = 3 := by have := h.count; omega
        simp [this]
    · refine .inl ⟨d.put, if_neg hc, ?_⟩
      have hb : q.isEmpty = false := by
        have := h.begun
        cases hq : q.isEmpty with
        | false => rfl
        | true => exact absurd (.inl (by rw [this, hq]; rfl)) hc
      have hl : P.length ≤ 2 := by
        have h1 := h.count
        have h2 := h.len
        have h3 : ¬ d.count = 3 := fun k => hc (.inr k)
        omega
      have hR : Rel d.put (l ++ [x]) (P ++ [q]) [] := by
        have hcnt := h.count
        refine ⟨hs, by simp; omega, ?_, rfl, ?_, ?_, ?_, ?_, ?_, ?_⟩
        · rw [List.all_append, h.all]
          simp [h.oct, hb]
        all_goals
          unfold Dot.put
          match P, hl, h.e0, h.e1, h.e2 with
          | [], _, g0, g1, g2 => simp at hcnt; simp [hcnt, h.value, Num.new, numF, g0, g1, g2]
          | [a], _, g0, g1, g2 => simp at hcnt; simp [hcnt, h.value, Num.new, numF, g0, g1, g2]
          | [a, b], _, g0, g1, g2 => simp at hcnt; simp [hcnt, h.value, Num.new, numF, g0, g1, g2]
      exact ⟨hR.beg, _, _, hR⟩
  · rw [if_neg hx] at hs
    unfold Dot.take
    rw [if_pos hx]
    have ho := oct_step q x h.oct
    unfold Num.take
    by_cases hg : octB (q ++ [x]) 255 = true
    · obtain ⟨g1, g2, g3⟩ := ho.1 hg
      have e1 : ¬ (x < 48 ∨ 57 < x ∨ (d.num.begun = true ∧ d.num.value = 0)) := by
        rintro (k | k | ⟨k1, k2⟩)
        · omega
        · omega
        · refine g2 ⟨fun hq => ?_, by rw [← h.value]; exact k2⟩
          rw [h.begun, hq] at k1
          simp at k1
      have e2 : ¬ (255 < 10 * d.num.value + (x - 48)) := by rw [h.value]; omega
      refine .inl ⟨{ d with num := ⟨10 * d.num.value + (x - 48), true⟩ }, by rw [if_neg e1, if_neg e2]; rfl, ?_⟩
      have hR : Rel { d with num := ⟨10 * d.num.value + (x - 48), true⟩ } (l ++ [x]) P (q ++ [x]) := ⟨hs, h.len, h.all, hg, h.count, by show 10 * d.num.value + (x - 48) = _; rw [num_snoc, h.value]; omega, by simp, h.e0, h.e1, h.e2⟩
      exact ⟨hR.beg, _, _, hR⟩
    · refine .inr ⟨?_, ?_⟩
      · by_cases e1 : x < 48 ∨ 57 < x ∨ (d.num.begun = true ∧ d.num.value = 0)
        · rw [if_pos e1]; rfl
        · rw [if_neg e1]
          have e2 : 255 < 10 * d.num.value + (x - 48) := by
            apply Classical.byContradiction
            intro e2
            refine hg (ho.2 ⟨by omega, fun ⟨k1, k2⟩ => e1 (.inr (.inr ⟨?_, by rw [h.value]; exact k2⟩)), by rw [← h.value]; omega⟩)
            rw [h.begun]
            cases q with
            | nil => exact absurd rfl k1
            | cons a r => rfl
          rw [if_pos e2]
          rfl
      · unfold begB
        rw [hs, parts_snoc]
        simp at hg
        simp [hg]

/-- Both readers go as far, and say the same. -/
theorem read_both : ∀ (l : List UInt8) (pre : List Int) (d : Dot) (P : List (List Int)) (q : List Int), Rel d pre P q → ∀ L, L = pre ++ l.map (fun b => ((b.toNat : Nat) : Int)) →
    match dotReader.read l pre.length d with
    | .bad n => begN L l.length pre.length = n ∧ (n < L.length ∨ whoB L = false)
    | .good d' => begN L l.length pre.length = L.length ∧ whoB L = true ∧ (splitA 46 [] L).map (numF 0) = d'.addr
  | [], pre, d, P, q, h, L, hL => by
    simp at hL
    subst hL
    unfold Reader.read
    have hw := h.who
    have e : dotReader.whole d = d.whole := rfl
    rw [e]
    by_cases hwh : d.whole = true
    · rw [if_pos hwh]
      exact ⟨rfl, hw.trans hwh, h.addr hwh⟩
    · rw [if_neg hwh]
      exact ⟨rfl, .inr (by rw [hw]; simpa using hwh)⟩
  | c :: l, pre, d, P, q, h, L, hL => by
    have hLt : L.take (pre.length + 1) = pre ++ [((c.toNat : Nat) : Int)] := by
      rw [hL, List.map_cons]
      rw [List.take_append, List.take_of_length_le (by omega), Nat.add_sub_cancel_left]
      rfl
    unfold Reader.read
    have e : dotReader.take d ((c.toNat : Nat) : Int) = d.take ((c.toNat : Nat) : Int) := rfl
    rw [e]
    have hbn : begN L (c :: l).length pre.length = if begB (L.take (pre.length + 1)) then begN L l.length (pre.length + 1) else pre.length := by rw [List.length_cons, begN]
    rcases h.take ((c.toNat : Nat) : Int) with ⟨d', h1, h2, P', q', h3⟩ | ⟨h1, h2⟩
    · rw [h1]
      have ih := read_both l (pre ++ [((c.toNat : Nat) : Int)]) d' P' q' h3 L (by rw [hL]; simp)
      rw [hbn, hLt, h2, if_pos rfl]
      rw [List.length_append, List.length_singleton] at ih
      exact ih
    · rw [h1]
      refine ⟨by rw [hbn, hLt, h2]; rfl, .inl ?_⟩
      rw [hL]
      simp

theorem parse_both (l : List UInt8) : rparse4 (l.map (fun b => ((b.toNat : Nat) : Int))) = ((parse4 l).1, ((parse4 l).2.1 : Int), (parse4 l).2.2) := by
  have h := read_both l [] Dot.new [] [] Rel.new _ rfl
  unfold parse4 rparse4
  simp only [List.length_nil, List.nil_append, List.length_map] at h ⊢
  cases hr : dotReader.read l 0 Dot.new with
  | bad n =>
    rw [hr] at h
    simp only at h
    rw [if_pos (by rw [h.1]; exact h.2), h.1]
  | good d =>
    rw [hr] at h
    simp only at h
    rw [if_neg (by rw [h.1, h.2.1]; simp), h.2.2]
    rfl

theorem split_len (c : Int) : ∀ (l cur : List Int), (splitA c cur l).flatten.length + (splitA c cur l).length = cur.length + l.length + 1
  | [], cur => by simp [splitA]
  | y :: l, cur => by
    rw [splitA]
    split
    · have := split_len c l []
      simp at this ⊢
      omega
    · have := split_len c l (cur ++ [y])
      simp at this ⊢
      omega
theorem beg_len {l : List Int} (h : begB l = true) : l.length ≤ 15 := by
  have hl := split_len 46 l []
  unfold begB at h
  generalize splitA 46 [] l = L at *
  simp only [Bool.and_eq_true, decide_eq_true_eq] at h
  obtain ⟨h1, h2⟩ := h
  match L, h1 with
  | [], _ => simp at hl
  | [a], _ =>
    have := oct_len h2
    simp at hl
    omega
  | [a, b], _ =>
    simp only [partsOk, Bool.and_eq_true] at h2
    have := oct_len h2.1.1
    have := oct_len h2.2
    simp at hl
    omega
  | [a, b, c], _ =>
    simp only [partsOk, Bool.and_eq_true] at h2
    have := oct_len h2.1.1
    have := oct_len h2.2.1.1
    have := oct_len h2.2.2
    simp at hl
    omega
  | [a, b, c, d], _ =>
    simp only [partsOk, Bool.and_eq_true] at h2
    have := oct_len h2.1.1
    have := oct_len h2.2.1.1
    have := oct_len h2.2.2.1.1
    have := oct_len h2.2.2.2
    simp at hl
    omega

end Go.Proofs.YtopbbljnhnhpaaaDoor

namespace Go.Proofs.YtopbbljnhnhpaaaDoor
set_option linter.unusedVariables false
set_option linter.unusedSimpArgs false
open Go Go.RowKit

set_option maxHeartbeats 4000000 in
set_option maxRecDepth 100000 in
theorem Parse4_wide (s : ByteArray) (w : World) (hs : s.size ≤ 140737488355328) :
    Calls Tryd.prog 14 #[.string s] w fun e w' => Par4Post s w e w' := by
  have hl := txt_length s
  generalize hQ : (fun e w' => Par4Post s w e w') = Q
  have HQ : Hid _ := hQ
  clear hQ
  go_enter Tryd.func14, Tryd.ntmps14
  go_wp2_with fail
  have hb0 := blk_new w (.cells zero4L.toArray 23)
  have hB0 := (Below.refl w.heap.size w).alloc (Nat.le_refl _) (.cells zero4L.toArray 23)
  have hz0 : (w.alloc (.cells zero4L.toArray 23)).heap.size = w.heap.size + 1 := by simp
  generalize hW : w.alloc (.cells zero4L.toArray 23) = W0 at *
  clear hW
  go_loopw [5] (fun i wr => ∃ k : Nat, k ≤ s.size ∧ i = .int .i64 k ∧ Below W0.heap.size W0 wr ∧ begN (txt s) s.size 0 = begN (txt s) (s.size - k) k ∧ begB ((txt s).take k) = true) (fun i _ => s.size - (intOf i).toNat)
  case atStart => exact ⟨0, Nat.zero_le _, rfl, Below.refl _ _, rfl, rfl⟩
  case round =>
    obtain ⟨k, hk, rfl, hB, hN, hbk⟩ := hrel
    have hk15 : k ≤ 15 := by have := beg_len hbk; rw [List.length_take, hl] at this; omega
    clear hbk
    have HN : Hid _ := hN
    clear hN
    by_cases hlt : k < s.size
    · have hbg := begins_ref (s.extract 0 (k + 1)) wr (by rw [ByteArray.size_extract]; omega)
      rw [txt_extract, List.drop_zero, Nat.sub_zero] at hbg
      have hstep : begN (txt s) (s.size - k) k = if begB ((txt s).take (k + 1)) then begN (txt s) (s.size - (k + 1)) (k + 1) else k := by
        have e : s.size - k = (s.size - (k + 1)) + 1 := by omega
        rw [e, begN]
      cases hbb : begB ((txt s).take (k + 1)) with
      | true =>
        rw [hbb] at hbg
        have HS : Hid _ := hstep.trans (by rw [hbb, if_pos rfl] : _ = begN (txt s) (s.size - (k + 1)) (k + 1))
        have HBG : Hid _ := hbg
        have HBB : Hid (begB ((txt s).take (k + 1)) = true) := hbb
        clear hbg hstep hbb
        go_wp2_with fail
        refine Calls.mono HBG.out ?_
        rintro e w2 ⟨rfl, hB2⟩
        go_wp2
        exact ⟨⟨k + 1, by omega, by simp, hB.trans (hB2.mono hB.size), HN.out.trans HS.out, HBB.out⟩, by simp [intOf]; omega⟩
      | false =>
        rw [hbb] at hbg
        have hne : rparse4 (txt s) = ([0, 0, 0, 0], (k : Int), 20) := by
          have e : begN (txt s) (txt s).length 0 = k := by
            rw [hl, HN.out, hstep, hbb]
            rfl
          unfold rparse4
          rw [e]
          exact if_pos (.inl (by omega))
        have HNE : Hid _ := hne
        have HBG : Hid _ := hbg
        clear hbg hstep hbb hne
        go_wp2_with fail
        refine Calls.mono HBG.out ?_
        rintro e w2 ⟨rfl, hB2⟩
        have hbx := (hB2.block _ (Nat.lt_of_lt_of_le (by omega) hB.size)).trans ((hB.block w.heap.size (by omega)).trans hb0)
        have hBx : Below w.heap.size w w2 := (hB0.trans (hB.mono (by omega))).trans (hB2.mono (Nat.le_trans hB0.size hB.size))
        obtain ⟨wE, hst, bE, hon⟩ := box_store Tryd.sizeOf23 hbx rfl zero4L rfl (by simp [Value.oneCell'])
        have HST : Hid _ := hst
        have BE : Hid _ := bE
        have HBE : Hid (Below w.heap.size w wE) := hBx.trans (hon.below (Nat.le_refl _))
        clear hst bE hon hbx hBx
        go_wp2_with ((with_reducible show wpList _ _ _ _ _ _); refine arm_store rfl (.tmp 2) (.tmp 31) 23 rfl rfl rfl HST.out ?_)
        refine bodyPost_ret (res3c Tryd.results14 rfl (agg_loadVar Tryd.isAgg23 Tryd.sizeOf23 rfl (CellsAt.of_blk BE.out))) rfl ?_
        rw [← HQ.out]
        refine ⟨?_, HBE.out⟩
        rw [HNE.out]
        rfl
    · obtain rfl : k = s.size := by omega
      have hN2 : begN (txt s) (txt s).length 0 = s.size := by
        rw [hl, HN.out, Nat.sub_self]
        rfl
      have hwh := whole_ref s wr (by omega)
      cases hwb : whoB (txt s) with
      | false =>
        rw [hwb] at hwh
        have hne : rparse4 (txt s) = ([0, 0, 0, 0], (s.size : Int), 20) := by
          unfold rparse4
          rw [hN2]
          exact if_pos (.inr hwb)
        have HNE : Hid _ := hne
        have HWH : Hid _ := hwh
        clear hwh hwb hne HN hN2
        go_wp2_with fail
        refine Calls.mono HWH.out ?_
        rintro e w2 ⟨rfl, hB2⟩
        have hbx := (hB2.block _ (Nat.lt_of_lt_of_le (by omega) hB.size)).trans ((hB.block w.heap.size (by omega)).trans hb0)
        have hBx : Below w.heap.size w w2 := (hB0.trans (hB.mono (by omega))).trans (hB2.mono (Nat.le_trans hB0.size hB.size))
        obtain ⟨wE, hst, bE, hon⟩ := box_store Tryd.sizeOf23 hbx rfl zero4L rfl (by simp [Value.oneCell'])
        have HST : Hid _ := hst
        have BE : Hid _ := bE
        have HBE : Hid (Below w.heap.size w wE) := hBx.trans (hon.below (Nat.le_refl _))
        clear hst bE hon hbx hBx
        go_wp2_with ((with_reducible show wpList _ _ _ _ _ _); refine arm_store rfl (.tmp 2) (.tmp 31) 23 rfl rfl rfl HST.out ?_)
        refine bodyPost_ret (res3c Tryd.results14 rfl (agg_loadVar Tryd.isAgg23 Tryd.sizeOf23 rfl (CellsAt.of_blk BE.out))) rfl ?_
        rw [← HQ.out]
        refine ⟨?_, HBE.out⟩
        rw [HNE.out]
        rfl
      | true =>
        rw [hwb] at hwh
        have hne : rparse4 (txt s) = ((splitA 46 [] (txt s)).map (numF 0), 0, 0) := by
          unfold rparse4
          rw [hN2]
          exact if_neg (by simp [hwb, hl])
        have HNE : Hid _ := hne
        have HWH : Hid _ := hwh
        have hpp := whoB_parts hwb
        have HPP : Hid _ := hpp
        clear hwh hwb hne HN hN2 hpp
        go_wp2_with fail
        refine Calls.mono HWH.out ?_
        rintro e w2 ⟨rfl, hB2⟩
        have hbx := (hB2.block _ (Nat.lt_of_lt_of_le (by omega) hB.size)).trans ((hB.block w.heap.size (by omega)).trans hb0)
        have hBx : Below w.heap.size w w2 := (hB0.trans (hB.mono (by omega))).trans (hB2.mono (Nat.le_trans hB0.size hB.size))
        have hlt2 : w.heap.size < w2.heap.size := Nat.lt_of_lt_of_le (by omega) (Nat.le_trans hB.size hB2.size)
        go_wp2_with fail
        refine (split_ref s 46 w2 (by decide) (by omega)).mono ?_
        rintro e w3 ⟨v, bs, rfl, hown, hbs, hB3⟩
        obtain ⟨a, cap, rfl, hlen, hz⟩ := own_form hown
        have h4 : bs.length = 4 := by
          have := congrArg List.length hbs
          rw [List.length_map, HPP.out.1] at this
          exact this
        have hbx := (hB3.block _ hlt2).trans hbx
        have hBx := hBx.trans (hB3.mono hBx.size)
        have HBS : Hid _ := hbs
        clear hown hbs
        rcases hz with hz | ⟨g, rfl, hgb, hg, hc⟩
        · omega
        obtain ⟨w4, hst, b4, hB4⟩ := box_new Tryd.sizeOf23 w3 zero4L rfl zero4L rfl (by simp [Value.oneCell'])
        have HST : Hid _ := hst
        clear hst
        go_wp2_with ((with_reducible show wpList _ _ _ _ _ _); refine arm_store rfl (.tmp 7) (.tmp 35) 23 rfl rfl rfl HST.out ?_)
        have hps : (bs.map txt).length = 4 := by rw [List.length_map]; exact h4
        have hne : w.heap.size ≠ w3.heap.size := by have := hB3.size; omega
        have hlt3 : w.heap.size < w3.heap.size := by have := hB3.size; omega
        go_loopw [8] (fun i wr => ∃ k : Nat, k ≤ 4 ∧ i = .int .i64 k ∧ wr.heap[w3.heap.size]? = some (.cells (b8 (numK (bs.map txt) k)).toArray 23) ∧ Only w3.heap.size w4 wr) (fun i _ => 4 - (intOf i).toNat)
        case atStart => exact ⟨0, Nat.zero_le _, rfl, b4, Only.refl _ _⟩
        case round =>
          clear hB
          obtain ⟨k, hk, rfl, hbk, hon⟩ := hrel
          by_cases hlt4 : k < 4
          · have hb : bs[k]? = some bs[k] := by simp [h4, hlt4]
            have hcel := ((hon.below (Nat.le_refl _)).cell (p := ⟨g, k, none⟩) hg).trans ((hB4.cell (p := ⟨g, k, none⟩) hg).trans (hc k (.string bs[k]) (by rw [strsV, List.getElem?_map, hb]; rfl)))
            have hpk : (bs.map txt)[k]? = some (txt bs[k]) := by rw [List.getElem?_map, hb]; rfl
            have hgood := octB_good (HPP.out.2 (txt bs[k]) (by rw [← HBS.out]; exact List.mem_of_getElem? hpk)) (by decide)
            have HNX : Hid _ := numK_next (bs.map txt) k (txt bs[k]) hps hpk
            have hlen4 := numK_length (bs.map txt) k hps hk
            clear hb hpk
            generalize bs[k] = b at *
            have hnum := number_ref b wr hgood.1 (by have := hgood.2.1; rw [txt_length] at this; omega)
            have hr := hgood.2.2
            have HNU : Hid _ := hnum
            clear hgood hnum
            generalize numF 0 (txt b) = n at *
            have hfz := blk_open hbk k
            have hcl : wr.cell? ⟨w3.heap.size, k, none⟩ = some ((b8 (numK (bs.map txt) k))[k]'(by rw [b8_length]; omega)) := blk_cell hbk (List.getElem?_eq_getElem _)
            have hset := blk_set hbk k (.int .u8 n)
            rw [b8_set, HNX.out] at hset
            have hon' := hon.set k (.int .u8 n)
            generalize (b8 (numK (bs.map txt) k))[k]'(by rw [b8_length]; omega) = old at *
            have HSE : Hid _ := hset
            have HON : Hid _ := hon'
            clear hset hon' hon hbk
            have hwr : IntKind.u8.wrap n = n := by unfold IntKind.wrap; simp [IntKind.signed, IntKind.bits]; omega
            go_wp2_with fail
            refine Calls.mono HNU.out ?_
            rintro e w5 ⟨rfl, rfl⟩
            go_wp2
            exact ⟨⟨k + 1, by omega, by simp, HSE.out, HON.out⟩, by simp [intOf]; omega⟩
          · obtain rfl : k = 4 := by omega
            rw [numK_all _ hps, HBS.out] at hbk
            have hl4 := HPP.out.1
            have hbR := ((hon.below (B := w3.heap.size) (Nat.le_refl _)).block _ hlt3).trans ((hB4.block _ hlt3).trans hbx)
            have hBR : Below w.heap.size w wr := (hBx.trans (hB4.mono hBx.size)).trans (hon.below (by omega))
            have hL := agg_load (t := 23) Tryd.isAgg23 Tryd.sizeOf23 (vs := b8 ((splitA 46 [] (txt s)).map (numF 0))) (by rw [b8_length, List.length_map]; exact hl4) (CellsAt.of_blk hbk)
            obtain ⟨wE, hst, bE, honE⟩ := box_store Tryd.sizeOf23 hbR rfl (b8 ((splitA 46 [] (txt s)).map (numF 0))) (by rw [b8_length, List.length_map]; exact hl4) (b8_one _)
            have hlv := agg_loadVar (t := 23) Tryd.isAgg23 Tryd.sizeOf23 (vs := b8 ((splitA 46 [] (txt s)).map (numF 0))) (by rw [b8_length, List.length_map]; exact hl4) (CellsAt.of_blk bE)
            have HBE : Hid (Below w.heap.size w wE) := hBR.trans (honE.below (Nat.le_refl _))
            have HL : Hid _ := hL
            have HSQ : Hid _ := hst
            have HLV : Hid _ := hlv
            clear hL hst hlv bE honE hbR hBR hbk hon
            go_wp2_with first
              | ((with_reducible show wpList _ _ _ _ _ _); refine arm_load rfl (.tmp 7) 23 rfl rfl HL.out ?_)
              | ((with_reducible show wpList _ _ _ _ _ _); refine arm_store rfl (.tmp 2) (.tmp 48) 23 rfl rfl rfl HSQ.out ?_)
            refine bodyPost_ret (res3c Tryd.results14 rfl HLV.out) rfl ?_
            rw [← HQ.out]
            refine ⟨?_, HBE.out⟩
            rw [HNE.out]
            rfl

end Go.Proofs.YtopbbljnhnhpaaaDoor

namespace Go.Proofs.YtopbbljnhnhpaaaDoor
open Go Go.RowKit
set_option linter.unusedVariables false
set_option linter.unusedSimpArgs false

/-- The text of the first k bytes. -/
def tx4 (l : List Int) : Nat → List UInt8
  | 0 => []
  | k + 1 => (if k = 0 then tx4 l k else tx4 l k ++ [46]) ++ Lib.itoa (l[k]?.getD 0)
theorem tx4_all (a0 a1 a2 a3 : Int) : tx4 [a0, a1, a2, a3] 4 = text4 [a0, a1, a2, a3] := by
  simp [tx4, text4, Lib.join_cons, Lib.joinTail]
theorem tx4_len {l : List Int} (h : ∀ k, k < 4 → Byte (l[k]?.getD 0)) : ∀ k, k ≤ 4 → (tx4 l k).length ≤ 1001 * k
  | 0, _ => by simp [tx4]
  | k + 1, hk => by
    have ih := tx4_len h k (by omega)
    have hi := itoa_len (h k (by omega))
    rw [tx4]
    split <;> simp <;> omega
theorem str_app (a b : List UInt8) : (⟨a.toArray⟩ : ByteArray) ++ (⟨b.toArray⟩ : ByteArray) = ⟨(a ++ b).toArray⟩ := by
  apply ByteArray.ext
  simp [ByteArray.data_append]

set_option maxHeartbeats 2000000 in
set_option maxRecDepth 100000 in
theorem RText4_calls (a0 a1 a2 a3 : Int) (h0 : Byte a0) (h1 : Byte a1) (h2 : Byte a2) (h3 : Byte a3) (w : World) (ht : Tabs w) :
    Calls Tryd.prog 16 #[addrV [a0, a1, a2, a3]] w fun e w' => e = .returned (strV (text4 [a0, a1, a2, a3])) ∧ Below w.heap.size w w' := by
  show Calls Tryd.prog _ #[.agg #[.int .u8 a0, .int .u8 a1, .int .u8 a2, .int .u8 a3]] w _
  rw [← tx4_all]
  have HT : Hid _ := ht
  clear ht
  have b0 : 0 ≤ a0 ∧ a0 < 256 := h0
  have b1 : 0 ≤ a1 ∧ a1 < 256 := h1
  have b2 : 0 ≤ a2 ∧ a2 < 256 := h2
  have b3 : 0 ≤ a3 ∧ a3 < 256 := h3
  have hB1 : Below w.heap.size w (w.alloc (.cells #[.int .u8 a0, .int .u8 a1, .int .u8 a2, .int .u8 a3] 23)) := (Below.refl _ w).alloc (Nat.le_refl _) _
  have hk := heap_alloc_new w (.cells #[.int .u8 a0, .int .u8 a1, .int .u8 a2, .int .u8 a3] 23)
  have hz : w.heap.size < (w.alloc (.cells #[.int .u8 a0, .int .u8 a1, .int .u8 a2, .int .u8 a3] 23)).heap.size := by simp
  go_enter Tryd.func16, Tryd.ntmps16
  go_wp2_with fail
  generalize w.alloc (.cells #[.int .u8 a0, .int .u8 a1, .int .u8 a2, .int .u8 a3] 23) = w1 at *
  go_loopw [3, 4] (fun v3 v4 wr => ∃ (k : Nat), v4 = .int .i64 k ∧ k ≤ 4 ∧ v3 = strV (tx4 [a0, a1, a2, a3] k) ∧ Below w1.heap.size w1 wr) (fun _ v4 _ => 4 - (intOf v4).toNat)
  case atStart => exact ⟨0, rfl, by decide, rfl, Below.refl _ _⟩
  case round =>
    obtain ⟨k, rfl, hkk, rfl, hb⟩ := hrel
    have hbk := (hb.block _ hz).trans hk
    have c0 : wr.cell? ⟨w.heap.size, 0, none⟩ = some (.int .u8 a0) := by simp [World.cell?, hbk]
    have c1 : wr.cell? ⟨w.heap.size, 1, none⟩ = some (.int .u8 a1) := by simp [World.cell?, hbk]
    have c2 : wr.cell? ⟨w.heap.size, 2, none⟩ = some (.int .u8 a2) := by simp [World.cell?, hbk]
    have c3 : wr.cell? ⟨w.heap.size, 3, none⟩ = some (.int .u8 a3) := by simp [World.cell?, hbk]
    have hT := HT.out wr (hB1.trans (hb.mono hB1.size))
    have hlen := tx4_len (l := [a0, a1, a2, a3]) (fun k hk => by
      match k, hk with
      | 0, _ => exact h0
      | 1, _ => exact h1
      | 2, _ => exact h2
      | 3, _ => exact h3) k hkk
    have hcase : k = 0 ∨ k = 1 ∨ k = 2 ∨ k = 3 ∨ k = 4 := by omega
    rcases hcase with rfl | rfl | rfl | rfl | rfl
    · have hC := itoa_calls a0 h0 wr hT
      have HC : Hid (Calls Tryd.prog 54 #[.int .i64 a0] wr fun e w' => e = .returned (.string ⟨(Lib.itoa a0).toArray⟩) ∧ Below wr.heap.size wr w') := hC
      have HX : Hid (tx4 [a0, a1, a2, a3] 1 = tx4 [a0, a1, a2, a3] 0 ++ Lib.itoa a0) := rfl
      have hY := itoa_len h0
      clear hC hT
      generalize tx4 [a0, a1, a2, a3] 0 = X at *
      generalize Lib.itoa a0 = Y at *
      go_wp2_with fail
      refine Calls.mono HC.out ?_
      rintro e W1 ⟨rfl, hb1⟩
      go_wp2
      refine ⟨⟨1, rfl, by decide, ?_, hb.trans (hb1.mono hb.size)⟩, by simp [intOf]⟩
      rw [HX.out]
      exact congrArg Value.string (str_app X Y)
    · have hC := itoa_calls a1 h1 wr hT
      have HC : Hid (Calls Tryd.prog 54 #[.int .i64 a1] wr fun e w' => e = .returned (.string ⟨(Lib.itoa a1).toArray⟩) ∧ Below wr.heap.size wr w') := hC
      have HX : Hid (tx4 [a0, a1, a2, a3] 2 = (tx4 [a0, a1, a2, a3] 1 ++ [46]) ++ Lib.itoa a1) := rfl
      have hY := itoa_len h1
      clear hC hT
      generalize tx4 [a0, a1, a2, a3] 1 = X at *
      generalize Lib.itoa a1 = Y at *
      go_wp2_with fail
      refine Calls.mono HC.out ?_
      rintro e W1 ⟨rfl, hb1⟩
      go_wp2
      refine ⟨⟨2, rfl, by decide, ?_, hb.trans (hb1.mono hb.size)⟩, by simp [intOf]⟩
      rw [HX.out]
      exact congrArg Value.string ((congrArg (· ++ (⟨Y.toArray⟩ : ByteArray)) (str_app X [46])).trans (str_app (X ++ [46]) Y))
    · have hC := itoa_calls a2 h2 wr hT
      have HC : Hid (Calls Tryd.prog 54 #[.int .i64 a2] wr fun e w' => e = .returned (.string ⟨(Lib.itoa a2).toArray⟩) ∧ Below wr.heap.size wr w') := hC
      have HX : Hid (tx4 [a0, a1, a2, a3] 3 = (tx4 [a0, a1, a2, a3] 2 ++ [46]) ++ Lib.itoa a2) := rfl
      have hY := itoa_len h2
      clear hC hT
      generalize tx4 [a0, a1, a2, a3] 2 = X at *
      generalize Lib.itoa a2 = Y at *
      go_wp2_with fail
      refine Calls.mono HC.out ?_
      rintro e W1 ⟨rfl, hb1⟩
      go_wp2
      refine ⟨⟨3, rfl, by decide, ?_, hb.trans (hb1.mono hb.size)⟩, by simp [intOf]⟩
      rw [HX.out]
      exact congrArg Value.string ((congrArg (· ++ (⟨Y.toArray⟩ : ByteArray)) (str_app X [46])).trans (str_app (X ++ [46]) Y))
    · have hC := itoa_calls a3 h3 wr hT
      have HC : Hid (Calls Tryd.prog 54 #[.int .i64 a3] wr fun e w' => e = .returned (.string ⟨(Lib.itoa a3).toArray⟩) ∧ Below wr.heap.size wr w') := hC
      have HX : Hid (tx4 [a0, a1, a2, a3] 4 = (tx4 [a0, a1, a2, a3] 3 ++ [46]) ++ Lib.itoa a3) := rfl
      have hY := itoa_len h3
      clear hC hT
      generalize tx4 [a0, a1, a2, a3] 3 = X at *
      generalize Lib.itoa a3 = Y at *
      go_wp2_with fail
      refine Calls.mono HC.out ?_
      rintro e W1 ⟨rfl, hb1⟩
      go_wp2
      refine ⟨⟨4, rfl, by decide, ?_, hb.trans (hb1.mono hb.size)⟩, by simp [intOf]⟩
      rw [HX.out]
      exact congrArg Value.string ((congrArg (· ++ (⟨Y.toArray⟩ : ByteArray)) (str_app X [46])).trans (str_app (X ++ [46]) Y))
    · go_wp2
      go_ret
      exact ⟨rfl, hB1.trans (hb.mono hB1.size)⟩

end Go.Proofs.YtopbbljnhnhpaaaDoor
