/-
  The document's readers of addresses as plain functions on letters.
  The document's digit, octet, number.
  The document's split: a text's parts between a letter.
  Port sets: Of and Has of both sides.
-/
import Derived.WalkKit
import Derived.Lib.Strings
import Derived.Test.YtaebknkjhhcneaaGreatDoorFold00
import Derived.Test.YtaebknkjhhcneaaGreatDoorFold13
import Derived.Handy
namespace Go.Proofs.YtaebknkjhhcneaaGreatDoor
set_option linter.unusedVariables false
set_option linter.unusedSimpArgs false
open Go

/-- The letters of a text. -/
def txt (s : ByteArray) : List Int := s.data.toList.map (fun b => ((b.toNat : Nat) : Int))

theorem txt_length (s : ByteArray) : (txt s).length = s.size := by rw [txt, List.length_map]; rfl
theorem txt_at (s : ByteArray) (k : Nat) (h : k < s.size) : (txt s)[k]? = some (((s[k]'h).toNat : Nat) : Int) := by
  have h' : k < s.data.size := h
  rw [txt, List.getElem?_map, Array.getElem?_toList, Array.getElem?_eq_getElem h']
  rfl
theorem txt_extract (s : ByteArray) (a b : Nat) : txt (s.extract a b) = ((txt s).drop a).take (b - a) := by
  unfold txt
  rw [Lib.extract_data, List.map_take, List.map_drop]
theorem txt_byte (s : ByteArray) {z : Int} (h : z ∈ txt s) : 0 ≤ z ∧ z < 256 := by
  obtain ⟨b, _, rfl⟩ := List.mem_map.1 h
  have := b.toNat_lt
  omega
theorem txt_empty (s : ByteArray) : txt s = [] ↔ s.size = 0 := by
  rw [← List.length_eq_zero_iff, txt_length]
theorem txt_append (s t : ByteArray) : txt (s ++ t) = txt s ++ txt t := by
  simp [txt, ByteArray.data_append]

def digB (c : Int) : Bool := decide (48 ≤ c) && decide (c ≤ 57)
def numF (n : Int) (l : List Int) : Int := l.foldl (fun n c => n * 10 + (c - 48)) n
def octB (l : List Int) (most : Int) : Bool :=
  l.isEmpty || (!((l.head? == some 48 && decide (1 < l.length)) || decide (3 < l.length)) && (l.all digB && decide (numF 0 l ≤ most)))

theorem numF_snoc (l : List Int) (k : Nat) (x : Int) (h : l[k]? = some x) : numF 0 (l.take (k + 1)) = numF 0 (l.take k) * 10 + (x - 48) := by
  obtain ⟨hk, rfl⟩ := List.getElem?_eq_some_iff.1 h
  rw [List.take_succ_eq_append_getElem hk, numF, List.foldl_append]
  rfl
theorem numF_range : ∀ (l : List Int) (n : Int), 0 ≤ n → l.all digB = true → 0 ≤ numF n l ∧ numF n l < (n + 1) * 10 ^ l.length := by
  intro l
  induction l with
  | nil => intro n hn _; simp [numF]; omega
  | cons x l ih =>
    intro n hn h
    simp only [List.all_cons, Bool.and_eq_true, digB, decide_eq_true_eq] at h
    obtain ⟨h1, h2⟩ := ih (n * 10 + (x - 48)) (by omega) (by simpa [digB] using h.2)
    have e : numF n (x :: l) = numF (n * 10 + (x - 48)) l := rfl
    rw [e]
    refine ⟨h1, Int.lt_of_lt_of_le h2 ?_⟩
    rw [List.length_cons, Int.pow_succ, Int.mul_comm (10 ^ l.length) 10, ← Int.mul_assoc]
    exact Int.mul_le_mul_of_nonneg_right (by omega) (Int.pow_nonneg (by decide))

def splitA (c : Int) : List Int → List Int → List (List Int)
  | cur, [] => [cur]
  | cur, x :: l => if x = c then cur :: splitA c [] l else splitA c (cur ++ [x]) l

def partsOk : List (List Int) → Bool
  | [] => true
  | [p] => octB p 255
  | p :: q :: r => (octB p 255 && !p.isEmpty) && partsOk (q :: r)

def begB (l : List Int) : Bool := decide ((splitA 46 [] l).length ≤ 4) && partsOk (splitA 46 [] l)
def whoB (l : List Int) : Bool := begB l && (decide ((splitA 46 [] l).length = 4) && !((splitA 46 [] l).getD 3 []).isEmpty)

def begN (l : List Int) : Nat → Nat → Nat
  | 0, n => n
  | f + 1, n => if begB (l.take (n + 1)) then begN l f (n + 1) else n

/-- Parse4 of the document. -/
def rparse4 (l : List Int) : List Int × Int × Int :=
  let n := begN l l.length 0
  if n < l.length ∨ whoB l = false then ([0, 0, 0, 0], (n : Int), 20) else ((splitA 46 [] l).map (numF 0), 0, 0)

def worthV (c : Int) : Int :=
  if 48 ≤ c ∧ c ≤ 57 then c - 48 else if 97 ≤ c ∧ c ≤ 102 then c - 97 + 10 else if 65 ≤ c ∧ c ≤ 70 then c - 65 + 10 else -1
def grpB (l : List Int) : Bool := l.all (fun c => decide (0 ≤ worthV c)) && (decide (1 ≤ l.length) && decide (l.length ≤ 4))
def valF (l : List Int) : Int := l.foldl (fun n c => n * 16 + worthV c) 0

structure SixS where
  L : List Int
  gap : Int
  part : List Int
deriving DecidableEq

def SixS.room (x : SixS) : Int := if 0 ≤ x.gap then 7 else 8

def SixS.step (l : List Int) (i : Nat) (c : Int) (x : SixS) : Option SixS :=
  if c = 58 ∧ x.part = [] then
    if i = 0 then some x
    else if l[i - 1]? = some 58 ∧ x.gap < 0 ∧ x.L.length ≤ 7 then some { x with gap := x.L.length } else none
  else if c = 58 then
    if grpB x.part = false ∨ x.room ≤ x.L.length + 1 then none else some { x with L := x.L ++ [valF x.part], part := [] }
  else if i = 1 ∧ l[0]? = some 58 then none
  else if (grpB (x.part ++ [c]) && decide ((x.L.length : Int) + 1 ≤ x.room)) || (begB (x.part ++ [c]) && (decide ((x.L.length : Int) + 2 ≤ x.room) && (decide (0 ≤ x.gap) || decide (x.L.length = 6)))) then some { x with part := x.part ++ [c] }
  else none

def read6 (l : List Int) : Nat → Nat → SixS → SixS × Nat
  | 0, i, x => (x, i)
  | f + 1, i, x => match x.step l i (l.getD i 0) with
    | none => (x, i)
    | some y => read6 l f (i + 1) y

/-- The groups that stand there, :: aside; none: they are no whole address. -/
def givenG (x : SixS) : Option (List Int) :=
  if grpB x.part then some (x.L ++ [valF x.part])
  else if x.part ≠ [] ∧ whoB x.part = true then some (x.L ++ (match (rparse4 x.part).1 with | [a, b, c, d] => [a * 256 + b, c * 256 + d] | _ => []))
  else if x.part = [] ∧ 0 ≤ x.gap ∧ x.gap = x.L.length then some x.L else none

def whole6 (x : SixS) : Option (List Int) :=
  match givenG x with
  | none => none
  | some l =>
    if x.gap < 0 then (if l.length = 8 then some l else none)
    else if l.length ≤ 7 then some (l.take x.gap.toNat ++ List.replicate (8 - l.length) 0 ++ l.drop x.gap.toNat) else none

def rparse6 (l : List Int) : List Int × Int × Int :=
  let r := read6 l l.length 0 ⟨[], -1, []⟩
  if r.2 < l.length then (List.replicate 16 0, (r.2 : Int), 20)
  else match whole6 r.1 with
    | none => (List.replicate 16 0, (r.2 : Int), 20)
    | some g => ((g.map (fun z => [z / 256, z % 256])).flatten, 0, 0)

def slashN (l : List Int) : Nat → Nat → Nat
  | 0, n => n
  | f + 1, n => if l.getD n 47 = 47 then n else slashN l f (n + 1)
def lenN (l : List Int) (most : Int) : Nat → Nat → Nat
  | 0, n => n
  | f + 1, n => if octB (l.take (n + 1)) most then lenN l most f (n + 1) else n

example : rparse6 ("2001:db8:122:344::".toList.map (fun c => (c.toNat : Int))) = ([32, 1, 13, 184, 1, 34, 3, 68, 0, 0, 0, 0, 0, 0, 0, 0], 0, 0) := by decide +kernel
example : rparse4 ("192.0.2.33".toList.map (fun c => (c.toNat : Int))) = ([192, 0, 2, 33], 0, 0) := by decide +kernel

end Go.Proofs.YtaebknkjhhcneaaGreatDoor

namespace Go.Proofs.YtaebknkjhhcneaaGreatDoor
set_option linter.unusedVariables false
set_option linter.unusedSimpArgs false
open Go Go.RowKit

theorem digit_ref (c : Int) (w : World) (h : 0 ≤ c ∧ c < 256) : Calls Tryz.prog 196 #[.int .u8 c] w fun e w' => e = .returned (.bool (digB c)) ∧ w' = w := by
  go_enter Tryz.func196, Tryz.ntmps196
  by_cases h1 : 48 ≤ c
  · by_cases h2 : c ≤ 57
    · go_wp2
      go_ret
      simp [digB, h1, h2]
    · go_wp2
      go_ret
      simp [digB, h1, h2]
  · go_wp2
    go_ret
    refine ⟨?_, rfl⟩
    have : decide (48 ≤ c) = false := by simpa using h1
    simp only [digB, this, Bool.false_and]
    rfl

theorem digB_bounds {c : Int} (h : digB c = true) : 48 ≤ c ∧ c ≤ 57 := by simpa [digB] using h

theorem all_snoc {l : List Int} {k : Nat} {x : Int} {p : Int → Bool} (hx : l[k]? = some x) : (l.take (k + 1)).all p = ((l.take k).all p && p x) := by
  obtain ⟨hk, rfl⟩ := List.getElem?_eq_some_iff.1 hx
  rw [List.take_succ_eq_append_getElem hk, List.all_append]
  simp
theorem all_not {l : List Int} {k : Nat} {x : Int} {p : Int → Bool} (hx : l[k]? = some x) (h : p x = false) : l.all p = false := by
  obtain ⟨hk, rfl⟩ := List.getElem?_eq_some_iff.1 hx
  rw [Bool.eq_false_iff]
  intro ha
  rw [List.all_eq_true] at ha
  rw [ha _ (List.getElem_mem hk)] at h
  cases h

theorem pow10_le : ∀ n, n ≤ 17 → (10 : Int) ^ n ≤ 100000000000000000 := by decide

theorem byte_at (s : ByteArray) (k : Nat) (h : k < s.size) : 0 ≤ (((s[k]'h).toNat : Nat) : Int) ∧ (((s[k]'h).toNat : Nat) : Int) < 256 := by
  have := (s[k]'h).toNat_lt
  omega

set_option maxHeartbeats 1000000 in
theorem number_ref (s : ByteArray) (w : World) (hd : (txt s).all digB = true) (hs : s.size ≤ 17) : Calls Tryz.prog 162 #[.string s] w fun e w' => e = .returned (.int .i64 (numF 0 (txt s))) ∧ w' = w := by
  have hl := txt_length s
  go_enter Tryz.func162, Tryz.ntmps162
  go_wp2
  go_loop [3, 4] (fun n i => ∃ k : Nat, k ≤ s.size ∧ i = .int .i64 k ∧ n = .int .i64 (numF 0 ((txt s).take k))) (fun _ i => s.size - (intOf i).toNat)
  case atStart => exact ⟨0, Nat.zero_le _, rfl, rfl⟩
  case round =>
    obtain ⟨k, hk, rfl, rfl⟩ := hrel
    by_cases hlt : k < s.size
    · have hx := txt_at s k hlt
      have hb := byte_at s k hlt
      have hr := numF_range ((txt s).take k) 0 (by decide) (by rw [List.all_eq_true] at hd ⊢; exact fun z hz => hd z (List.mem_of_mem_take hz))
      have hp := pow10_le ((txt s).take k).length (by rw [List.length_take]; omega)
      have hdg : digB (((s[k]'hlt).toNat : Nat) : Int) = true := by
        rw [List.all_eq_true] at hd
        exact hd _ (List.mem_of_getElem? hx)
      have hdg := digB_bounds hdg
      have HN : Hid _ := numF_snoc (txt s) k _ hx
      have hr2 : numF 0 ((txt s).take k) < 100000000000000000 := by
        have h2 := hr.2
        rw [Int.zero_add, Int.one_mul] at h2
        omega
      have hr1 := hr.1
      clear hr hp hx hd
      generalize numF 0 ((txt s).take k) = n at *
      go_wp2
      refine ⟨⟨k + 1, by omega, by simp, ?_⟩, by simp [intOf]; omega⟩
      rw [HN.out]
    · obtain rfl : k = s.size := by omega
      have ht : (txt s).take s.size = txt s := List.take_of_length_le (by omega)
      rw [ht]
      go_wp2
      go_ret
      exact ⟨rfl, rfl⟩

theorem toList_empty (s : ByteArray) (h : ¬ s.size = 0) : s.toList.isEmpty = false := by
  rw [Lib.toList_data]
  cases s with
  | mk d =>
    cases d with
    | mk l =>
      cases l with
      | nil => exact absurd rfl h
      | cons => rfl

/-- What octet asks ahead of its loop. -/
theorem octB_form (l : List Int) (most : Int) (h : l ≠ []) : octB l most = (!((l.head? == some 48 && decide (1 < l.length)) || decide (3 < l.length)) && (l.all digB && decide (numF 0 l ≤ most))) := by
  cases l with
  | nil => exact absurd rfl h
  | cons x l => rfl

set_option maxHeartbeats 2000000 in
theorem octet_ref (s : ByteArray) (most : Int) (w : World) (hm : 0 ≤ most ∧ most ≤ 1000000) : Calls Tryz.prog 183 #[.string s, .int .i64 most] w fun e w' => e = .returned (.bool (octB (txt s) most)) ∧ w' = w := by
  have hl := txt_length s
  by_cases h0 : s.size = 0
  · have e0 : txt s = [] := (txt_empty s).2 h0
    have e1 : octB (txt s) most = true := by rw [e0]; rfl
    rw [e1]
    have e2 : s = ⟨#[]⟩ := by
      cases s with
      | mk d => simp only [ByteArray.size] at h0; simp [Array.size_eq_zero_iff.1 h0]
    subst e2
    go_enter Tryz.func183, Tryz.ntmps183
    go_wp2
    go_ret
    exact ⟨rfl, rfl⟩
  · have hne : txt s ≠ [] := fun e => h0 ((txt_empty s).1 e)
    rw [octB_form _ _ hne]
    have hse := toList_empty s h0
    generalize hR : (!(((txt s).head? == some 48 && decide (1 < (txt s).length)) || decide (3 < (txt s).length)) && ((txt s).all digB && decide (numF 0 (txt s) ≤ most))) = R
    have HR : Hid _ := hR
    clear hR
    have hz : 0 < s.size := by omega
    have hh : (txt s).head? = some (((s[0]'hz).toNat : Nat) : Int) := by rw [List.head?_eq_getElem?]; exact txt_at s 0 hz
    have b0 := byte_at s 0 hz
    rw [hl, hh] at HR
    by_cases hlen : 3 < s.size
    · have eR : R = false := by rw [← HR.out]; simp [hlen]
      subst eR
      clear HR
      by_cases h48 : (((s[0]'hz).toNat : Nat) : Int) = 48
      · have q0 : ((((s[0]'hz).toNat : Nat) : Int) == 48) = true := by simpa using h48
        have q1 : (1 : Int) < (s.size : Nat) := by omega
        go_enter Tryz.func183, Tryz.ntmps183
        go_wp2
        go_ret
        exact ⟨rfl, rfl⟩
      · have q0 : ((((s[0]'hz).toNat : Nat) : Int) == 48) = false := by simpa using h48
        have q1 : (3 : Int) < (s.size : Nat) := by omega
        go_enter Tryz.func183, Tryz.ntmps183
        go_wp2
        go_ret
        exact ⟨rfl, rfl⟩
    · have hrest : ∀ (b : Bool), (((((s[0]'hz).toNat : Nat) : Int) == 48) && decide (1 < s.size)) = b → b = false → R = ((txt s).all digB && decide (numF 0 (txt s) ≤ most)) := by
        intro b hb hb'
        rw [← HR.out]
        subst hb'
        simp only [Option.some_beq_some, hb, Bool.false_or, decide_eq_false hlen, Bool.not_false, Bool.true_and]
      by_cases hbad : (((s[0]'hz).toNat : Nat) : Int) = 48 ∧ 1 < s.size
      · have eR : R = false := by
          rw [← HR.out, hbad.1]
          simp [hbad.2]
        subst eR
        clear HR hrest
        have q0 : ((((s[0]'hz).toNat : Nat) : Int) == 48) = true := by simpa using hbad.1
        have q1 : (1 : Int) < (s.size : Nat) := by omega
        go_enter Tryz.func183, Tryz.ntmps183
        go_wp2
        go_ret
        exact ⟨rfl, rfl⟩
      · have eR : R = ((txt s).all digB && decide (numF 0 (txt s) ≤ most)) := hrest _ rfl (by
          by_cases c : (((s[0]'hz).toNat : Nat) : Int) = 48
          · have : ¬ 1 < s.size := fun h => hbad ⟨c, h⟩
            simp [this]
          · simp [c])
        have q2 : ¬ ((3 : Int) < (s.size : Nat)) := by omega
        have HE : Hid _ := eR
        have hq : ((((s[0]'hz).toNat : Nat) : Int) == 48) = false ∨ (((((s[0]'hz).toNat : Nat) : Int) == 48) = true ∧ ¬ ((1 : Int) < (s.size : Nat))) := by
          by_cases c : (((s[0]'hz).toNat : Nat) : Int) = 48
          · exact .inr ⟨by simpa using c, fun h => hbad ⟨c, by omega⟩⟩
          · exact .inl (by simpa using c)
        clear HR hrest eR hbad
        rcases hq with q0 | ⟨q0, q1⟩
        all_goals
          go_enter Tryz.func183, Tryz.ntmps183
          go_wp2
          go_loop [5, 6] (fun n i => ∃ k : Nat, k ≤ s.size ∧ i = .int .i64 k ∧ n = .int .i64 (numF 0 ((txt s).take k)) ∧ ((txt s).take k).all digB = true) (fun _ i => s.size - (intOf i).toNat)
          case atStart => exact ⟨0, Nat.zero_le _, rfl, rfl, rfl⟩
          case round =>
            obtain ⟨k, hk, rfl, rfl, hall⟩ := hrel
            by_cases hlt : k < s.size
            · have hx := txt_at s k hlt
              have hb := byte_at s k hlt
              have hr := numF_range ((txt s).take k) 0 (by decide) hall
              have hp := pow10_le ((txt s).take k).length (by rw [List.length_take]; omega)
              have hr2 : numF 0 ((txt s).take k) < 100000000000000000 := by
                have h2 := hr.2
                rw [Int.zero_add, Int.one_mul] at h2
                omega
              have hr1 := hr.1
              have HN : Hid _ := numF_snoc (txt s) k _ hx
              have HA : Hid _ := all_snoc (p := digB) hx
              have HX : Hid _ := hx
              have HH : Hid _ := hall
              clear hr hp hx hall
              generalize numF 0 ((txt s).take k) = n at *
              by_cases hdg : digB (((s[k]'hlt).toNat : Nat) : Int) = true
              · have hdb := digB_bounds hdg
                go_wp2_with fail
                refine (digit_ref _ w hb).mono ?_
                rintro e w' ⟨rfl, rfl⟩
                rw [hdg]
                go_wp2
                refine ⟨⟨k + 1, by omega, by simp, ?_, ?_⟩, by simp [intOf]; omega⟩
                · rw [HN.out]
                · rw [HA.out, HH.out, hdg]; rfl
              · have hdf : digB (((s[k]'hlt).toNat : Nat) : Int) = false := by simpa using hdg
                have eF : R = false := by rw [HE.out, all_not HX.out hdf]; rfl
                subst eF
                clear HE
                go_wp2_with fail
                refine (digit_ref _ w hb).mono ?_
                rintro e w' ⟨rfl, rfl⟩
                rw [hdf]
                go_wp2
                go_ret
                exact ⟨rfl, rfl⟩
            · obtain rfl : k = s.size := by omega
              have ht : (txt s).take s.size = txt s := List.take_of_length_le (by omega)
              rw [ht] at hall ⊢
              have eF : R = decide (numF 0 (txt s) ≤ most) := by rw [HE.out, hall]; rfl
              subst eF
              clear HE hall
              generalize hn : numF 0 (txt s) = n
              have HN : Hid _ := hn
              clear hn
              go_wp2
              go_ret
              exact ⟨by rw [HN.out]; rfl, rfl⟩

end Go.Proofs.YtaebknkjhhcneaaGreatDoor

namespace Go.Proofs.YtaebknkjhhcneaaGreatDoor
set_option linter.unusedVariables false
set_option linter.unusedSimpArgs false
open Go Go.RowKit

def strsV (bs : List ByteArray) : List Value := bs.map (fun b => Value.string b)

theorem splitA_cons (c : Int) (cur l : List Int) (k : Nat) (x : Int) (h : l[k]? = some x) :
    splitA c cur (l.drop k) = if x = c then cur :: splitA c [] (l.drop (k + 1)) else splitA c (cur ++ [x]) (l.drop (k + 1)) := by
  obtain ⟨hk, rfl⟩ := List.getElem?_eq_some_iff.1 h
  rw [List.drop_eq_getElem_cons hk]
  rfl

theorem cur_next (l : List Int) (f k : Nat) (x : Int) (hf : f ≤ k) (h : l[k]? = some x) : (l.drop f).take (k + 1 - f) = (l.drop f).take (k - f) ++ [x] := by
  obtain ⟨hk, rfl⟩ := List.getElem?_eq_some_iff.1 h
  have e : k + 1 - f = (k - f) + 1 := by omega
  have hl : k - f < (l.drop f).length := by rw [List.length_drop]; omega
  rw [e, List.take_succ_eq_append_getElem hl]
  congr 2
  rw [List.getElem_drop]
  congr 1
  omega

theorem splitA_length (c : Int) : ∀ (l cur : List Int), (splitA c cur l).length ≤ l.length + 1 := by
  intro l
  induction l with
  | nil => intro cur; simp [splitA]
  | cons x l ih =>
    intro cur
    rw [splitA]
    split
    · have := ih []
      simp only [List.length_cons]
      omega
    · have := ih (cur ++ [x])
      simp only [List.length_cons]
      omega

structure SpAt (s : ByteArray) (c : Int) (w0 wr : World) (v : Value) (bs : List ByteArray) (f k : Nat) : Prop where
  own : wr.ownsRow w0.heap.size 9 1 v bs.length (strsV bs)
  below : Below w0.heap.size w0 wr
  few : bs.length ≤ k
  le : f ≤ k
  end_ : k ≤ s.size + 1
  now : k ≤ s.size → splitA c [] (txt s) = bs.map txt ++ splitA c (((txt s).drop f).take (k - f)) ((txt s).drop k)
  over : k = s.size + 1 → splitA c [] (txt s) = bs.map txt

/-- The parts as a new row of strings. -/
def SplitPost (s : ByteArray) (c : Int) (w : World) (e : Ending) (w' : World) : Prop := ∃ v bs, e = .returned v ∧ w'.ownsRow w.heap.size 9 1 v bs.length (strsV bs) ∧ bs.map txt = splitA c [] (txt s) ∧ Below w.heap.size w w'

set_option maxHeartbeats 2000000 in
theorem split_ref (s : ByteArray) (c : Int) (w : World) (hc : 0 ≤ c ∧ c < 256) (hs : s.size ≤ 100000) :
    Calls Tryz.prog 185 #[.string s, .int .u8 c] w fun e w' => SplitPost s c w e w' := by
  have hl := txt_length s
  go_enter Tryz.func185, Tryz.ntmps185
  go_wp2
  go_loopw [5, 6, 7] (fun v fr i wr => ∃ (bs : List ByteArray) (f k : Nat), i = .int .i64 k ∧ fr = .int .i64 f ∧ SpAt s c w wr v bs f k) (fun _ _ i _ => s.size + 2 - (intOf i).toNat)
  case atStart => exact ⟨[], 0, 0, rfl, rfl, World.ownsRow_nil _ _ _ _, Below.refl _ _, Nat.zero_le _, Nat.zero_le _, by omega, fun _ => rfl, fun h => by omega⟩
  case round =>
    obtain ⟨bs, f, k, rfl, rfl, ⟨hown, hB, hfew, hfk, hend, hnow, hover⟩⟩ := hrel
    have hsz := hB.size
    by_cases hlt : k ≤ s.size
    · have hnow' := hnow hlt
      obtain ⟨v', w1, hrun, hown', hgrow, _⟩ := own_lit elem_string hown hsz (by omega) (by decide) [.string (s.extract f k)] 1 rfl (by decide) (fun u hu => by simp at hu; subst hu; rfl) 205 #[.string (s.extract f k)] rfl
      have hB' := hB.grown hgrow hsz (fun j hj => (hown.lt j hj).1)
      have e2 : strsV bs ++ [.string (s.extract f k)] = strsV (bs ++ [s.extract f k]) := by simp [strsV]
      have e3 : bs.length + 1 = (bs ++ [s.extract f k]).length := by simp
      have e4 : (bs ++ [s.extract f k]).map txt = bs.map txt ++ [((txt s).drop f).take (k - f)] := by rw [List.map_append, List.map_cons, List.map_nil, txt_extract]
      rw [e2, e3] at hown'
      have H0 : Hid _ := hrun
      have HO : Hid _ := hown'
      have HB : Hid _ := hB'
      have HN : Hid _ := hnow'
      have H4 : Hid _ := e4
      clear hrun hown' hB' hnow' hnow hover e2 e3 e4 hgrow
      by_cases hk : k = s.size
      · subst hk
        go_wp2_with (at_builtin; refine wpList_append_run rfl _ _ _ _ rfl rfl rfl H0.out ?_; clear H0)
        refine ⟨⟨bs ++ [s.extract f s.size], s.size + 1, s.size + 1, by simp, by simp, HO.out, HB.out, by rw [List.length_append]; simp only [List.length_cons, List.length_nil]; omega, Nat.le_refl _, by omega, fun h => by omega, fun _ => ?_⟩, by simp [intOf]⟩
        have e5 : (txt s).drop s.size = [] := List.drop_eq_nil_of_le (by omega)
        rw [H4.out, HN.out, e5]
        rfl
      · have hlt' : k < s.size := by omega
        have hx := txt_at s k hlt'
        have hb := byte_at s k hlt'
        have HC : Hid _ := splitA_cons c (((txt s).drop f).take (k - f)) (txt s) k _ hx
        have HX : Hid _ := hx
        have q0 : ((k : Int) == (s.size : Int)) = false := by simp; omega
        clear hx
        by_cases hcc : (((s[k]'hlt').toNat : Nat) : Int) = c
        · have q1 : ((((s[k]'hlt').toNat : Nat) : Int) == c) = true := by simpa using hcc
          have HCC : Hid _ := hcc
          clear hcc
          go_wp2_with (at_builtin; refine wpList_append_run rfl _ _ _ _ rfl rfl rfl H0.out ?_; clear H0)
          refine ⟨⟨bs ++ [s.extract f k], k + 1, k + 1, by simp, by simp, HO.out, HB.out, by rw [List.length_append]; simp only [List.length_cons, List.length_nil]; omega, Nat.le_refl _, by omega, fun h => ?_, fun _ => by omega⟩, by simp [intOf]; omega⟩
          rw [H4.out, HN.out, HC.out, if_pos HCC.out]
          simp
        · have q1 : ((((s[k]'hlt').toNat : Nat) : Int) == c) = false := by simpa using hcc
          have HCC : Hid _ := hcc
          clear hcc H0
          go_wp2
          refine ⟨⟨bs, f, k + 1, by simp, rfl, hown, hB, by omega, by omega, by omega, fun h => ?_, fun _ => by omega⟩, by simp [intOf]; omega⟩
          rw [HN.out, HC.out, if_neg HCC.out, cur_next (txt s) f k _ hfk HX.out]
    · obtain rfl : k = s.size + 1 := by omega
      have hov := hover rfl
      clear hover hnow
      go_wp2
      go_ret
      exact ⟨_, bs, rfl, hown, hov.symm, hB⟩

end Go.Proofs.YtaebknkjhhcneaaGreatDoor

namespace Go.Proofs.YtaebknkjhhcneaaGreatDoor
open Go Go.RowKit
set_option linter.unusedVariables false
set_option linter.unusedSimpArgs false

/-- Whose a port is, and whether it is somebody's. -/
def isOnes (o n : Nat) : Prop := o = 0 ∨ n / 2 ^ (16 - o) ≠ 0
instance (o n : Nat) : Decidable (isOnes o n) := by unfold isOnes; infer_instance
def pidN (o l n : Nat) : Nat := n / 2 ^ (16 - o - l) % 2 ^ l
abbrev OfE (p : Int) (b : Bool) (e : Int) : Value := .tuple #[.int .u16 p, .bool b, .int .i64 e]

theorem cast_shr (n k : Nat) : ((n : Int) / 2 ^ k) = ((n / 2 ^ k : Nat) : Int) := by rw [Int.natCast_ediv, Int.natCast_pow]; rfl
theorem pid_eq (o l n : Nat) (ho : o ≤ 15) (hl : l ≤ 16 - o) : n * 2 ^ o % 65536 / 2 ^ (16 - l) = pidN o l n := by
  unfold pidN
  have e1 : 65536 = 2 ^ (16 - o) * 2 ^ o := by rw [← Nat.pow_add, show 16 - o + o = 16 by omega]
  have e2 : 2 ^ (16 - l) = 2 ^ (16 - o - l) * 2 ^ o := by rw [← Nat.pow_add, show 16 - o - l + o = 16 - l by omega]
  have e3 : 2 ^ (16 - o) = 2 ^ (16 - o - l) * 2 ^ l := by rw [← Nat.pow_add, show 16 - o - l + l = 16 - o by omega]
  rw [e1, e2, Nat.mul_mod_mul_right, Nat.mul_div_mul_right _ _ (Nat.two_pow_pos o), e3, Nat.mod_mul_right_div_self]
theorem wrap_u16 (x : Nat) : IntKind.u16.wrap (x : Int) = ((x % 65536 : Nat) : Int) := by
  simp [IntKind.wrap, IntKind.bits, IntKind.signed]
theorem pid_cast (o l n : Nat) (ho : o ≤ 15) (hl : l ≤ 16 - o) : IntKind.u16.wrap ((n : Int) * 2 ^ o) / 2 ^ (16 - l) = ((pidN o l n : Nat) : Int) := by
  have e : (n : Int) * 2 ^ o = ((n * 2 ^ o : Nat) : Int) := by rw [Int.natCast_mul, Int.natCast_pow]; rfl
  rw [e, wrap_u16, cast_shr, pid_eq o l n ho hl]
theorem pid_ref (o l n : Nat) (hl : l ≤ 16) : IntKind.u16.wrap (((n : Int) / 2 ^ (16 - o - l)).tmod (2 ^ l)) = ((pidN o l n : Nat) : Int) := by
  have e : (2 : Int) ^ l = ((2 ^ l : Nat) : Int) := by rw [Int.natCast_pow]; rfl
  have k : 2 ^ l ≤ 65536 := Nat.pow_le_pow_right (n := 2) (j := 16) (by omega) hl
  have h := Nat.mod_lt (n / 2 ^ (16 - o - l)) (Nat.two_pow_pos l)
  rw [cast_shr, e, ← Int.ofNat_tmod, wrap_u16, Nat.mod_eq_of_lt (by omega)]
  rfl
theorem pid_lt (o l n : Nat) : pidN o l n < 2 ^ l := Nat.mod_lt _ (Nat.two_pow_pos l)
theorem pow16 {l : Nat} (h : l ≤ 16) : 2 ^ l ≤ 65536 := Nat.pow_le_pow_right (n := 2) (j := 16) (by omega) h

set_option maxHeartbeats 400000 in
theorem a_calls (o n : Nat) (w : World) (ho : o ≤ 15) (hn : n < 65536) :
    Calls Tryz.prog 102 #[.int .i64 o, .int .u16 n] w fun e w' => e = .returned (.int .i64 ((n / 2 ^ (16 - o) : Nat) : Int)) ∧ Below w.heap.size w w' := by
  obtain ⟨k, hk⟩ : ∃ k : Nat, k = 16 - o := ⟨_, rfl⟩
  have hk2 : (16 : Int) - (o : Int) = (k : Int) := by omega
  rw [← hk]
  clear hk
  go_enter Tryz.func102, Tryz.ntmps102
  go_wp2
  go_ret
  exact ⟨congrArg (fun x : Int => Ending.returned (.int .i64 x)) (cast_shr n k), Below.refl _ _⟩

def ofE (o l n : Nat) : Value := if isOnes o n then OfE (pidN o l n) true 0 else OfE 0 false 0

set_option maxHeartbeats 400000 in
theorem Of_yes (o l n : Nat) (w : World) (ho : o ≤ 15) (hl : l ≤ 16 - o) (hn : n < 65536) :
    Calls Tryz.prog 139 #[.int .i64 o, .int .i64 l, .int .u16 n] w fun e w' => e = .returned (ofE o l n) ∧ Below w.heap.size w w' := by
  have HC : Hid _ := fun W => Check_any o l 0 W ⟨by omega, by omega⟩ ⟨by omega, by omega⟩ ⟨by omega, by omega⟩
  rw [if_pos (cutOk_zero (show cutOk o l from ⟨by omega, by omega, by omega, by omega⟩))] at HC
  have HP : Hid _ := pid_cast o l n ho hl
  by_cases h0 : ¬ 0 < o
  · have e : ofE o l n = OfE (pidN o l n) true 0 := if_pos (Or.inl (by omega))
    rw [e]
    clear e
    generalize pidN o l n = r at *
    go_enter Tryz.func139, Tryz.ntmps139
    go_wp2_with fail
    refine (HC.out _).mono ?_
    rintro e w2 ⟨rfl, hB2⟩
    go_wp2
    all_goals first
      | (exfalso; omega)
      | (go_returns; exact ⟨by rw [← HP.out]; rfl, hB2⟩)
  · have h0 : 0 < o := by omega
    by_cases h1 : n / 2 ^ (16 - o) = 0
    · have e : ofE o l n = OfE 0 false 0 := if_neg (fun h => h.elim (by omega) (fun k => k h1))
      rw [e]
      have h2 : ((n : Int) / 2 ^ (16 - o) == 0) = true := by rw [cast_shr, h1]; rfl
      clear e h1
      go_enter Tryz.func139, Tryz.ntmps139
      go_wp2_with fail
      refine (HC.out _).mono ?_
      rintro e w2 ⟨rfl, hB2⟩
      go_wp2
      all_goals first
        | (exfalso; omega)
        | (go_returns; exact ⟨rfl, hB2⟩)
    · have e : ofE o l n = OfE (pidN o l n) true 0 := if_pos (Or.inr h1)
      rw [e]
      have h2 : ((n : Int) / 2 ^ (16 - o) == 0) = false := by rw [cast_shr]; exact beq_eq_false_iff_ne.2 (fun k => h1 (Int.ofNat.inj k))
      clear e h1
      generalize pidN o l n = r at *
      go_enter Tryz.func139, Tryz.ntmps139
      go_wp2_with fail
      refine (HC.out _).mono ?_
      rintro e w2 ⟨rfl, hB2⟩
      go_wp2
      all_goals first
        | (exfalso; omega)
        | (go_returns; exact ⟨by rw [← HP.out]; rfl, hB2⟩)

set_option maxHeartbeats 400000 in
theorem Of_no (o l : Int) (n : Nat) (w : World) (ho : In64 o) (hl : In64 l) (h : ¬ cutOk o l) :
    Calls Tryz.prog 139 #[.int .i64 o, .int .i64 l, .int .u16 n] w fun e w' => e = .returned (OfE 0 false 90) ∧ Below w.heap.size w w' := by
  have HC : Hid _ := fun W => Check_any o l 0 W ho hl ⟨by omega, by omega⟩
  rw [if_neg (fun k => h k.1)] at HC
  go_enter Tryz.func139, Tryz.ntmps139
  go_wp2_with fail
  refine (HC.out _).mono ?_
  rintro e w2 ⟨rfl, hB2⟩
  go_wp2
  go_returns
  exact ⟨rfl, hB2⟩

set_option maxHeartbeats 400000 in
theorem ROf_no (o l : Int) (n : Nat) (w : World) (ho : In64 o) (hl : In64 l) (h : ¬ cutOk o l) :
    Calls Tryz.prog 58 #[.int .i64 o, .int .i64 l, .int .u16 n] w fun e w' => e = .returned (OfE 0 false 90) ∧ Below w.heap.size w w' := by
  have HC : Hid _ := fun W => Right_any o l 0 W ho hl ⟨by omega, by omega⟩
  rw [decide_eq_false (fun k => h k.1)] at HC
  go_enter Tryz.func58, Tryz.ntmps58
  go_wp2_with fail
  refine (HC.out _).mono ?_
  rintro e w2 ⟨rfl, hB2⟩
  go_wp2
  go_returns
  exact ⟨rfl, hB2⟩

set_option maxHeartbeats 400000 in
theorem ROf_yes (o l n : Nat) (w : World) (ho : o ≤ 15) (hl : l ≤ 16 - o) (hn : n < 65536) :
    Calls Tryz.prog 58 #[.int .i64 o, .int .i64 l, .int .u16 n] w fun e w' => e = .returned (ofE o l n) ∧ Below w.heap.size w w' := by
  have HC : Hid _ := fun W => Right_any o l 0 W ⟨by omega, by omega⟩ ⟨by omega, by omega⟩ ⟨by omega, by omega⟩
  rw [decide_eq_true (cutOk_zero (show cutOk o l from ⟨by omega, by omega, by omega, by omega⟩))] at HC
  have HA : Hid _ := fun W => a_calls o n W ho hn
  have HP : Hid _ := pid_ref o l n (by omega)
  have k1 := pow_le16 (l := l) (by omega)
  have k2 := pow_ge1 l
  by_cases h0 : ¬ 0 < o
  · have e : ofE o l n = OfE (pidN o l n) true 0 := if_pos (Or.inl (by omega))
    rw [e]
    clear e
    generalize pidN o l n = r at *
    go_enter Tryz.func58, Tryz.ntmps58
    go_wp2_with fail
    refine (HC.out _).mono ?_
    rintro e w2 ⟨rfl, hB2⟩
    go_wp2
    go_quiet (fail)
    go_wp2
    go_returns
    exact ⟨by rw [← HP.out]; rfl, bD hB2 _⟩
  · have h0 : 0 < o := by omega
    by_cases h1 : n / 2 ^ (16 - o) = 0
    · have e : ofE o l n = OfE 0 false 0 := if_neg (fun h => h.elim (by omega) (fun k => k h1))
      rw [e]
      rw [h1] at HA
      clear e h1
      go_enter Tryz.func58, Tryz.ntmps58
      go_wp2_with fail
      refine (HC.out _).mono ?_
      rintro e w2 ⟨rfl, hB2⟩
      go_wp2_with fail
      refine (HA.out _).mono ?_
      rintro e w3 ⟨rfl, hB3⟩
      go_wp2
      go_returns
      exact ⟨rfl, hB2.trans (hB3.mono hB2.size)⟩
    · have e : ofE o l n = OfE (pidN o l n) true 0 := if_pos (Or.inr h1)
      rw [e]
      have h2 : (((n / 2 ^ (16 - o) : Nat) : Int) == 0) = false := beq_eq_false_iff_ne.2 (fun k => h1 (Int.ofNat.inj k))
      clear e h1
      generalize pidN o l n = r at *
      generalize n / 2 ^ (16 - o) = q at *
      go_enter Tryz.func58, Tryz.ntmps58
      go_wp2_with fail
      refine (HC.out _).mono ?_
      rintro e w2 ⟨rfl, hB2⟩
      go_wp2_with fail
      refine (HA.out _).mono ?_
      rintro e w3 ⟨rfl, hB3⟩
      go_wp2
      go_quiet (fail)
      go_wp2
      go_returns
      exact ⟨by rw [← HP.out]; rfl, bD (hB2.trans (hB3.mono hB2.size)) _⟩

def hasN (o l p n : Nat) : Prop := isOnes o n ∧ pidN o l n = p
instance (o l p n : Nat) : Decidable (hasN o l p n) := by unfold hasN; infer_instance
abbrev HasE (b : Bool) (e : Int) : Value := .tuple #[.bool b, .int .i64 e]

set_option maxHeartbeats 400000 in
theorem RHas_no (o l p : Int) (n : Nat) (w : World) (ho : In64 o) (hl : In64 l) (hp : 0 ≤ p ∧ p < 65536) (hs : ¬ setOk o l p) :
    Calls Tryz.prog 60 #[PS o l p, .int .u16 n] w fun e w' => e = .returned (HasE false 90) ∧ Below w.heap.size w w' := by
  have HC : Hid _ := fun W => Right_any o l p W ho hl hp
  rw [decide_eq_false hs] at HC
  have hB := bA w (Obj.cells #[.int .i64 o, .int .i64 l, .int .u16 p] 67)
  clear hs
  go_enter Tryz.func60, Tryz.ntmps60
  go_wp2_with fail
  refine (HC.out _).mono ?_
  rintro e w2 ⟨rfl, hB2⟩
  go_wp2
  go_returns
  exact ⟨rfl, hB.trans (hB2.mono hB.size)⟩

set_option maxHeartbeats 400000 in
theorem RHas_yes (o l p n : Nat) (w : World) (ho : o ≤ 15) (hl : l ≤ 16 - o) (hp : p < 2 ^ l) (hn : n < 65536) :
    Calls Tryz.prog 60 #[PS o l p, .int .u16 n] w fun e w' => e = .returned (HasE (decide (hasN o l p n)) 0) ∧ Below w.heap.size w w' := by
  have hp2 := pow16 (l := l) (by omega)
  have hs : setOk o l p := ⟨⟨by omega, by omega, by omega, by omega⟩, by rw [Int.toNat_natCast]; exact_mod_cast hp⟩
  have HC : Hid _ := fun W => Right_any o l p W ⟨by omega, by omega⟩ ⟨by omega, by omega⟩ ⟨by omega, by omega⟩
  rw [decide_eq_true hs] at HC
  have HO : Hid _ := fun W => ROf_yes o l n W ho hl hn
  have hB := bA w (Obj.cells #[.int .i64 o, .int .i64 l, .int .u16 p] 67)
  have hc := blk_new w (Obj.cells #[.int .i64 o, .int .i64 l, .int .u16 p] 67)
  have hz : w.heap.size < (w.alloc (Obj.cells #[.int .i64 o, .int .i64 l, .int .u16 p] 67)).heap.size := by simp
  have hv : ∀ W, Below (w.alloc (Obj.cells #[.int .i64 o, .int .i64 l, .int .u16 p] 67)).heap.size (w.alloc (Obj.cells #[.int .i64 o, .int .i64 l, .int .u16 p] 67)) W → W.cell? ⟨w.heap.size, 0, none⟩ = some (.int .i64 o) ∧ W.cell? ⟨w.heap.size, 1, none⟩ = some (.int .i64 l) ∧ W.cell? ⟨w.heap.size, 2, none⟩ = some (.int .u16 p) := by
    intro W h
    have hk := (h.block _ hz).trans hc
    simp [World.cell?, hk]
  have HV : Hid _ := hv
  clear hs hc hz hv hp2
  by_cases h1 : isOnes o n
  · have e : ofE o l n = OfE (pidN o l n) true 0 := if_pos h1
    have e2 : decide (hasN o l p n) = ((pidN o l n : Int) == (p : Int)) := by
      rw [Bool.eq_iff_iff, decide_eq_true_eq, beq_iff_eq]
      exact ⟨fun h => by rw [h.2], fun h => ⟨h1, Int.ofNat.inj h⟩⟩
    rw [e] at HO
    rw [e2]
    clear e e2 h1
    generalize pidN o l n = r at *
    go_enter Tryz.func60, Tryz.ntmps60
    go_wp2_with fail
    refine (HC.out _).mono ?_
    rintro e w2 ⟨rfl, hB2⟩
    obtain ⟨c0, c1, c2⟩ := HV.out _ hB2
    go_wp2_with fail
    refine (HO.out _).mono ?_
    rintro e w3 ⟨rfl, hB3⟩
    obtain ⟨d0, d1, d2⟩ := HV.out _ (hB2.trans (hB3.mono hB2.size))
    go_wp2
    go_returns
    exact ⟨rfl, (hB.trans (hB2.mono hB.size)).trans (hB3.mono (Nat.le_trans hB.size hB2.size))⟩
  · have e : ofE o l n = OfE 0 false 0 := if_neg h1
    have e2 : decide (hasN o l p n) = false := decide_eq_false (fun h => h1 h.1)
    rw [e] at HO
    rw [e2]
    clear e e2 h1
    go_enter Tryz.func60, Tryz.ntmps60
    go_wp2_with fail
    refine (HC.out _).mono ?_
    rintro e w2 ⟨rfl, hB2⟩
    obtain ⟨c0, c1, c2⟩ := HV.out _ hB2
    go_wp2_with fail
    refine (HO.out _).mono ?_
    rintro e w3 ⟨rfl, hB3⟩
    go_wp2
    go_returns
    exact ⟨rfl, (hB.trans (hB2.mono hB.size)).trans (hB3.mono (Nat.le_trans hB.size hB2.size))⟩

end Go.Proofs.YtaebknkjhhcneaaGreatDoor
