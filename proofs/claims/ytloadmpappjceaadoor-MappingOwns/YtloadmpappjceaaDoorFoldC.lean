/-
  The document's readers of addresses as plain functions on letters.
  The document's digit, octet, number.
  The document's worth, group, value, room.
  The document's split: a text's parts between a letter.
  The document's Begins4, Whole4.
  Boxes: blocks of cells that a call makes for itself.
  The document's Whole4 and Parse4.
  The document's Parse4.
  What the document's Read6 holds in memory, and its plain steps.
-/
import Derived.WalkKit
import Derived.Lib.Strings
import Derived.Test.YtloadmpappjceaaDoorFoldA
import Derived.Test.YtloadmpappjceaaDoorFoldB
namespace Go.Proofs.YtloadmpappjceaaDoor
set_option linter.unusedVariables false
set_option linter.unusedSimpArgs false
open Go

/-- The letters of a text. -/
def txt (s : ByteArray) : List Int := s.data.toList.map (fun b => ((b.toNat : Nat) : Int))

theorem txt_length (s : ByteArray) : (txt s).length = s.size := by rw [txt, List.length_map]; rfl
theorem txt_at (s : ByteArray) (k : Nat) (h : k < s.size) : (txt s)[k]? = some (((s[k]'h).toNat : Nat) : Int) := by
  have h' : k < s.data.size := h
  rw [txt, List.getElem?_map, Array.getElem?_toList, Array.getElem?_eq_getElem h']
  rfl
theorem txt_extract (s : ByteArray) (a b : Nat) : txt (s.extract a b) = ((txt s).drop a).take (b - a) := by
  unfold txt
  rw [Lib.extract_data, List.map_take, List.map_drop]
theorem txt_byte (s : ByteArray) {z : Int} (h : z ∈ txt s) : 0 ≤ z ∧ z < 256 := by
  obtain ⟨b, _, rfl⟩ := List.mem_map.1 h
  have := b.toNat_lt
  omega
theorem txt_empty (s : ByteArray) : txt s = [] ↔ s.size = 0 := by
  rw [← List.length_eq_zero_iff, txt_length]
theorem txt_append (s t : ByteArray) : txt (s ++ t) = txt s ++ txt t := by
  simp [txt, ByteArray.data_append]

def digB (c : Int) : Bool := decide (48 ≤ c) && decide (c ≤ 57)
def numF (n : Int) (l : List Int) : Int := l.foldl (fun n c => n * 10 + (c - 48)) n
def octB (l : List Int) (most : Int) : Bool :=
  l.isEmpty || (!((l.head? == some 48 && decide (1 < l.length)) || decide (3 < l.length)) && (l.all digB && decide (numF 0 l ≤ most)))

theorem numF_snoc (l : List Int) (k : Nat) (x : Int) (h : l[k]? = some x) : numF 0 (l.take (k + 1)) = numF 0 (l.take k) * 10 + (x - 48) := by
  obtain ⟨hk, rfl⟩ := List.getElem?_eq_some_iff.1 h
  rw [List.take_succ_eq_append_getElem hk, numF, List.foldl_append]
  rfl
theorem numF_range : ∀ (l : List Int) (n : Int), 0 ≤ n → l.all digB = true → 0 ≤ numF n l ∧ numF n l < (n + 1) * 10 ^ l.length := by
  intro l
  induction l with
  | nil => intro n hn _; simp [numF]; omega
  | cons x l ih =>
    intro n hn h
    simp only [List.all_cons, Bool.and_eq_true, digB, decide_eq_true_eq] at h
    obtain ⟨h1, h2⟩ := ih (n * 10 + (x - 48)) (by omega) (by simpa [digB] using h.2)
    have e : numF n (x :: l) = numF (n * 10 + (x - 48)) l := rfl
    rw [e]
    refine ⟨h1, Int.lt_of_lt_of_le h2 ?_⟩
    rw [List.length_cons, Int.pow_succ, Int.mul_comm (10 ^ l.length) 10, ← Int.mul_assoc]
    exact Int.mul_le_mul_of_nonneg_right (by omega) (Int.pow_nonneg (by decide))

def splitA (c : Int) : List Int → List Int → List (List Int)
  | cur, [] => [cur]
  | cur, x :: l => if x = c then cur :: splitA c [] l else splitA c (cur ++ [x]) l

def partsOk : List (List Int) → Bool
  | [] => true
  | [p] => octB p 255
  | p :: q :: r => (octB p 255 && !p.isEmpty) && partsOk (q :: r)

def begB (l : List Int) : Bool := decide ((splitA 46 [] l).length ≤ 4) && partsOk (splitA 46 [] l)
def whoB (l : List Int) : Bool := begB l && (decide ((splitA 46 [] l).length = 4) && !((splitA 46 [] l).getD 3 []).isEmpty)

def begN (l : List Int) : Nat → Nat → Nat
  | 0, n => n
  | f + 1, n => if begB (l.take (n + 1)) then begN l f (n + 1) else n

/-- Parse4 of the document. -/
def rparse4 (l : List Int) : List Int × Int × Int :=
  let n := begN l l.length 0
  if n < l.length ∨ whoB l = false then ([0, 0, 0, 0], (n : Int), 20) else ((splitA 46 [] l).map (numF 0), 0, 0)

def worthV (c : Int) : Int :=
  if 48 ≤ c ∧ c ≤ 57 then c - 48 else if 97 ≤ c ∧ c ≤ 102 then c - 97 + 10 else if 65 ≤ c ∧ c ≤ 70 then c - 65 + 10 else -1
def grpB (l : List Int) : Bool := l.all (fun c => decide (0 ≤ worthV c)) && (decide (1 ≤ l.length) && decide (l.length ≤ 4))
def valF (l : List Int) : Int := l.foldl (fun n c => n * 16 + worthV c) 0

structure SixS where
  L : List Int
  gap : Int
  part : List Int
deriving DecidableEq

def SixS.room (x : SixS) : Int := if 0 ≤ x.gap then 7 else 8

def SixS.step (l : List Int) (i : Nat) (c : Int) (x : SixS) : Option SixS :=
  if c = 58 ∧ x.part = [] then
    if i = 0 then some x
    else if l[i - 1]? = some 58 ∧ x.gap < 0 ∧ x.L.length ≤ 7 then some { x with gap := x.L.length } else none
  else if c = 58 then
    if grpB x.part = false ∨ x.room ≤ x.L.length + 1 then none else some { x with L := x.L ++ [valF x.part], part := [] }
  else if i = 1 ∧ l[0]? = some 58 then none
  else if (grpB (x.part ++ [c]) && decide ((x.L.length : Int) + 1 ≤ x.room)) || (begB (x.part ++ [c]) && (decide ((x.L.length : Int) + 2 ≤ x.room) && (decide (0 ≤ x.gap) || decide (x.L.length = 6)))) then some { x with part := x.part ++ [c] }
  else none

def read6 (l : List Int) : Nat → Nat → SixS → SixS × Nat
  | 0, i, x => (x, i)
  | f + 1, i, x => match x.step l i (l.getD i 0) with
    | none => (x, i)
    | some y => read6 l f (i + 1) y

/-- The groups that stand there, :: aside; none: they are no whole address. -/
def givenG (x : SixS) : Option (List Int) :=
  if grpB x.part then some (x.L ++ [valF x.part])
  else if x.part ≠ [] ∧ whoB x.part = true then some (x.L ++ (match (rparse4 x.part).1 with | [a, b, c, d] => [a * 256 + b, c * 256 + d] | _ => []))
  else if x.part = [] ∧ 0 ≤ x.gap ∧ x.gap = x.L.length then some x.L else none

def whole6 (x : SixS) : Option (List Int) :=
  match givenG x with
  | none => none
  | some l =>
    if x.gap < 0 then (if l.length = 8 then some l else none)
    else if l.length ≤ 7 then some (l.take x.gap.toNat ++ List.replicate (8 - l.length) 0 ++ l.drop x.gap.toNat) else none

def rparse6 (l : List Int) : List Int × Int × Int :=
  let r := read6 l l.length 0 ⟨[], -1, []⟩
  if r.2 < l.length then (List.replicate 16 0, (r.2 : Int), 20)
  else match whole6 r.1 with
    | none => (List.replicate 16 0, (r.2 : Int), 20)
    | some g => ((g.map (fun z => [z / 256, z % 256])).flatten, 0, 0)

def slashN (l : List Int) : Nat → Nat → Nat
  | 0, n => n
  | f + 1, n => if l.getD n 47 = 47 then n else slashN l f (n + 1)
def lenN (l : List Int) (most : Int) : Nat → Nat → Nat
  | 0, n => n
  | f + 1, n => if octB (l.take (n + 1)) most then lenN l most f (n + 1) else n

example : rparse6 ("2001:db8:122:344::".toList.map (fun c => (c.toNat : Int))) = ([32, 1, 13, 184, 1, 34, 3, 68, 0, 0, 0, 0, 0, 0, 0, 0], 0, 0) := by decide +kernel
example : rparse4 ("192.0.2.33".toList.map (fun c => (c.toNat : Int))) = ([192, 0, 2, 33], 0, 0) := by decide +kernel

end Go.Proofs.YtloadmpappjceaaDoor

namespace Go.Proofs.YtloadmpappjceaaDoor
set_option linter.unusedVariables false
set_option linter.unusedSimpArgs false
open Go Go.RowKit

theorem digit_ref (c : Int) (w : World) (h : 0 ≤ c ∧ c < 256) : Calls Tryd.prog 102 #[.int .u8 c] w fun e w' => e = .returned (.bool (digB c)) ∧ w' = w := by
  go_enter Tryd.func102, Tryd.ntmps102
  by_cases h1 : 48 ≤ c
  · by_cases h2 : c ≤ 57
    · go_wp2
      go_ret
      simp [digB, h1, h2]
    · go_wp2
      go_ret
      simp [digB, h1, h2]
  · go_wp2
    go_ret
    refine ⟨?_, rfl⟩
    have : decide (48 ≤ c) = false := by simpa using h1
    simp only [digB, this, Bool.false_and]
    rfl

theorem digB_bounds {c : Int} (h : digB c = true) : 48 ≤ c ∧ c ≤ 57 := by simpa [digB] using h

theorem all_snoc {l : List Int} {k : Nat} {x : Int} {p : Int → Bool} (hx : l[k]? = some x) : (l.take (k + 1)).all p = ((l.take k).all p && p x) := by
  obtain ⟨hk, rfl⟩ := List.getElem?_eq_some_iff.1 hx
  rw [List.take_succ_eq_append_getElem hk, List.all_append]
  simp
theorem all_not {l : List Int} {k : Nat} {x : Int} {p : Int → Bool} (hx : l[k]? = some x) (h : p x = false) : l.all p = false := by
  obtain ⟨hk, rfl⟩ := List.getElem?_eq_some_iff.1 hx
  rw [Bool.eq_false_iff]
  intro ha
  rw [List.all_eq_true] at ha
  rw [ha _ (List.getElem_mem hk)] at h
  cases h

theorem pow10_le : ∀ n, n ≤ 17 → (10 : Int) ^ n ≤ 100000000000000000 := by decide

theorem byte_at (s : ByteArray) (k : Nat) (h : k < s.size) : 0 ≤ (((s[k]'h).toNat : Nat) : Int) ∧ (((s[k]'h).toNat : Nat) : Int) < 256 := by
  have := (s[k]'h).toNat_lt
  omega

set_option maxHeartbeats 1000000 in
theorem number_ref (s : ByteArray) (w : World) (hd : (txt s).all digB = true) (hs : s.size ≤ 17) : Calls Tryd.prog 80 #[.string s] w fun e w' => e = .returned (.int .i64 (numF 0 (txt s))) ∧ w' = w := by
  have hl := txt_length s
  go_enter Tryd.func80, Tryd.ntmps80
  go_wp2
  go_loop [3, 4] (fun n i => ∃ k : Nat, k ≤ s.size ∧ i = .int .i64 k ∧ n = .int .i64 (numF 0 ((txt s).take k))) (fun _ i => s.size - (intOf i).toNat)
  case atStart => exact ⟨0, Nat.zero_le _, rfl, rfl⟩
  case round =>
    obtain ⟨k, hk, rfl, rfl⟩ := hrel
    by_cases hlt : k < s.size
    · have hx := txt_at s k hlt
      have hb := byte_at s k hlt
      have hr := numF_range ((txt s).take k) 0 (by decide) (by rw [List.all_eq_true] at hd ⊢; exact fun z hz => hd z (List.mem_of_mem_take hz))
      have hp := pow10_le ((txt s).take k).length (by rw [List.length_take]; omega)
      have hdg : digB (((s[k]'hlt).toNat : Nat) : Int) = true := by
        rw [List.all_eq_true] at hd
        exact hd _ (List.mem_of_getElem? hx)
      have hdg := digB_bounds hdg
      have HN : Hid _ := numF_snoc (txt s) k _ hx
      have hr2 : numF 0 ((txt s).take k) < 100000000000000000 := by
        have h2 := hr.2
        rw [Int.zero_add, Int.one_mul] at h2
        omega
      have hr1 := hr.1
      clear hr hp hx hd
      generalize numF 0 ((txt s).take k) = n at *
      go_wp2
      refine ⟨⟨k + 1, by omega, by simp, ?_⟩, by simp [intOf]; omega⟩
      rw [HN.out]
    · obtain rfl : k = s.size := by omega
      have ht : (txt s).take s.size = txt s := List.take_of_length_le (by omega)
      rw [ht]
      go_wp2
      go_ret
      exact ⟨rfl, rfl⟩

theorem toList_empty (s : ByteArray) (h : ¬ s.size = 0) : s.toList.isEmpty = false := by
  rw [Lib.toList_data]
  cases s with
  | mk d =>
    cases d with
    | mk l =>
      cases l with
      | nil => exact absurd rfl h
      | cons => rfl

/-- What octet asks ahead of its loop. -/
theorem octB_form (l : List Int) (most : Int) (h : l ≠ []) : octB l most = (!((l.head? == some 48 && decide (1 < l.length)) || decide (3 < l.length)) && (l.all digB && decide (numF 0 l ≤ most))) := by
  cases l with
  | nil => exact absurd rfl h
  | cons x l => rfl

set_option maxHeartbeats 2000000 in
theorem octet_ref (s : ByteArray) (most : Int) (w : World) (hm : 0 ≤ most ∧ most ≤ 1000000) : Calls Tryd.prog 87 #[.string s, .int .i64 most] w fun e w' => e = .returned (.bool (octB (txt s) most)) ∧ w' = w := by
  have hl := txt_length s
  by_cases h0 : s.size = 0
  · have e0 : txt s = [] := (txt_empty s).2 h0
    have e1 : octB (txt s) most = true := by rw [e0]; rfl
    rw [e1]
    have e2 : s = ⟨#[]⟩ := by
      cases s with
      | mk d => simp only [ByteArray.size] at h0; simp [Array.size_eq_zero_iff.1 h0]
    subst e2
    go_enter Tryd.func87, Tryd.ntmps87
    go_wp2
    go_ret
    exact ⟨rfl, rfl⟩
  · have hne : txt s ≠ [] := fun e => h0 ((txt_empty s).1 e)
    rw [octB_form _ _ hne]
    have hse := toList_empty s h0
    generalize hR : (!(((txt s).head? == some 48 && decide (1 < (txt s).length)) || decide (3 < (txt s).length)) && ((txt s).all digB && decide (numF 0 (txt s) ≤ most))) = R
    have HR : Hid _ := hR
    clear hR
    have hz : 0 < s.size := by omega
    have hh : (txt s).head? = some (((s[0]'hz).toNat : Nat) : Int) := by rw [List.head?_eq_getElem?]; exact txt_at s 0 hz
    have b0 := byte_at s 0 hz
    rw [hl, hh] at HR
    by_cases hlen : 3 < s.size
    · have eR : R = false := by rw [← HR.out]; simp [hlen]
      subst eR
      clear HR
      by_cases h48 : (((s[0]'hz).toNat : Nat) : Int) = 48
      · have q0 : ((((s[0]'hz).toNat : Nat) : Int) == 48) = true := by simpa using h48
        have q1 : (1 : Int) < (s.size : Nat) := by omega
        go_enter Tryd.func87, Tryd.ntmps87
        go_wp2
        go_ret
        exact ⟨rfl, rfl⟩
      · have q0 : ((((s[0]'hz).toNat : Nat) : Int) == 48) = false := by simpa using h48
        have q1 : (3 : Int) < (s.size : Nat) := by omega
        go_enter Tryd.func87, Tryd.ntmps87
        go_wp2
        go_ret
        exact ⟨rfl, rfl⟩
    · have hrest : ∀ (b : Bool), (((((s[0]'hz).toNat : Nat) : Int) == 48) && decide (1 < s.size)) = b → b = false → R = ((txt s).all digB && decide (numF 0 (txt s) ≤ most)) := by
        intro b hb hb'
        rw [← HR.out]
        subst hb'
        simp only [Option.some_beq_some, hb, Bool.false_or, decide_eq_false hlen, Bool.not_false, Bool.true_and]
      by_cases hbad : (((s[0]'hz).toNat : Nat) : Int) = 48 ∧ 1 < s.size
      · have eR : R = false := by
          rw [← HR.out, hbad.1]
          simp [hbad.2]
        subst eR
        clear HR hrest
        have q0 : ((((s[0]'hz).toNat : Nat) : Int) == 48) = true := by simpa using hbad.1
        have q1 : (1 : Int) < (s.size : Nat) := by omega
        go_enter Tryd.func87, Tryd.ntmps87
        go_wp2
        go_ret
        exact ⟨rfl, rfl⟩
      · have eR : R = ((txt s).all digB && decide (numF 0 (txt s) ≤ most)) := hrest _ rfl (by
          by_cases c : (((s[0]'hz).toNat : Nat) : Int) = 48
          · have : ¬ 1 < s.size := fun h => hbad ⟨c, h⟩
            simp [this]
          · simp [c])
        have q2 : ¬ ((3 : Int) < (s.size : Nat)) := by omega
        have HE : Hid _ := eR
        have hq : ((((s[0]'hz).toNat : Nat) : Int) == 48) = false ∨ (((((s[0]'hz).toNat : Nat) : Int) == 48) = true ∧ ¬ ((1 : Int) < (s.size : Nat))) := by
          by_cases c : (((s[0]'hz).toNat : Nat) : Int) = 48
          · exact .inr ⟨by simpa using c, fun h => hbad ⟨c, by omega⟩⟩
          · exact .inl (by simpa using c)
        clear HR hrest eR hbad
        rcases hq with q0 | ⟨q0, q1⟩
        all_goals
          go_enter Tryd.func87, Tryd.ntmps87
          go_wp2
          go_loop [5, 6] (fun n i => ∃ k : Nat, k ≤ s.size ∧ i = .int .i64 k ∧ n = .int .i64 (numF 0 ((txt s).take k)) ∧ ((txt s).take k).all digB = true) (fun _ i => s.size - (intOf i).toNat)
          case atStart => exact ⟨0, Nat.zero_le _, rfl, rfl, rfl⟩
          case round =>
            obtain ⟨k, hk, rfl, rfl, hall⟩ := hrel
            by_cases hlt : k < s.size
            · have hx := txt_at s k hlt
              have hb := byte_at s k hlt
              have hr := numF_range ((txt s).take k) 0 (by decide) hall
              have hp := pow10_le ((txt s).take k).length (by rw [List.length_take]; omega)
              have hr2 : numF 0 ((txt s).take k) < 100000000000000000 := by
                have h2 := hr.2
                rw [Int.zero_add, Int.one_mul] at h2
                omega
              have hr1 := hr.1
              have HN : Hid _ := numF_snoc (txt s) k _ hx
              have HA : Hid _ := all_snoc (p := digB) hx
              have HX : Hid _ := hx
              have HH : Hid _ := hall
              clear hr hp hx hall
              generalize numF 0 ((txt s).take k) = n at *
              by_cases hdg : digB (((s[k]'hlt).toNat : Nat) : Int) = true
              · have hdb := digB_bounds hdg
                go_wp2_with fail
                refine (digit_ref _ w hb).mono ?_
                rintro e w' ⟨rfl, rfl⟩
                rw [hdg]
                go_wp2
                refine ⟨⟨k + 1, by omega, by simp, ?_, ?_⟩, by simp [intOf]; omega⟩
                · rw [HN.out]
                · rw [HA.out, HH.out, hdg]; rfl
              · have hdf : digB (((s[k]'hlt).toNat : Nat) : Int) = false := by simpa using hdg
                have eF : R = false := by rw [HE.out, all_not HX.out hdf]; rfl
                subst eF
                clear HE
                go_wp2_with fail
                refine (digit_ref _ w hb).mono ?_
                rintro e w' ⟨rfl, rfl⟩
                rw [hdf]
                go_wp2
                go_ret
                exact ⟨rfl, rfl⟩
            · obtain rfl : k = s.size := by omega
              have ht : (txt s).take s.size = txt s := List.take_of_length_le (by omega)
              rw [ht] at hall ⊢
              have eF : R = decide (numF 0 (txt s) ≤ most) := by rw [HE.out, hall]; rfl
              subst eF
              clear HE hall
              generalize hn : numF 0 (txt s) = n
              have HN : Hid _ := hn
              clear hn
              go_wp2
              go_ret
              exact ⟨by rw [HN.out]; rfl, rfl⟩

end Go.Proofs.YtloadmpappjceaaDoor

namespace Go.Proofs.YtloadmpappjceaaDoor
set_option linter.unusedVariables false
set_option linter.unusedSimpArgs false
open Go Go.RowKit

set_option maxHeartbeats 1000000 in
theorem worth_ref (c : Int) (w : World) (h : 0 ≤ c ∧ c < 256) : Calls Tryd.prog 109 #[.int .u8 c] w fun e w' => e = .returned (.int .i64 (worthV c)) ∧ w' = w := by
  have hdc := digit_ref c w h
  by_cases h1 : 48 ≤ c ∧ c ≤ 57
  · have e1 : digB c = true := by simpa [digB] using h1
    have e2 : worthV c = c - 48 := if_pos h1
    rw [e1] at hdc
    rw [e2]
    have HD : Hid _ := hdc
    clear hdc e1 e2
    go_enter Tryd.func109, Tryd.ntmps109
    go_wp2_with fail
    refine Calls.mono HD.out ?_
    rintro e w' ⟨rfl, rfl⟩
    go_wp2
    go_ret
    exact ⟨rfl, rfl⟩
  · have e1 : digB c = false := by
      rw [Bool.eq_false_iff]
      intro hh
      exact h1 (digB_bounds hh)
    rw [e1] at hdc
    by_cases h2 : 97 ≤ c ∧ c ≤ 102
    · have e2 : worthV c = c - 97 + 10 := by unfold worthV; rw [if_neg h1, if_pos h2]
      rw [e2]
      have HD : Hid _ := hdc
      clear hdc e1 e2
      go_enter Tryd.func109, Tryd.ntmps109
      go_wp2_with fail
      refine Calls.mono HD.out ?_
      rintro e w' ⟨rfl, rfl⟩
      obtain ⟨h21, h22⟩ := h2
      go_wp2
      go_ret
      exact ⟨rfl, rfl⟩
    · by_cases h3 : 65 ≤ c ∧ c ≤ 70
      · have e2 : worthV c = c - 65 + 10 := by unfold worthV; rw [if_neg h1, if_neg h2, if_pos h3]
        rw [e2]
        have HD : Hid _ := hdc
        clear hdc e1 e2
        go_enter Tryd.func109, Tryd.ntmps109
        go_wp2_with fail
        refine Calls.mono HD.out ?_
        rintro e w' ⟨rfl, rfl⟩
        obtain ⟨h31, h32⟩ := h3
        go_wp2
        go_ret
        exact ⟨rfl, rfl⟩
      · have e2 : worthV c = -1 := by unfold worthV; rw [if_neg h1, if_neg h2, if_neg h3]
        rw [e2]
        have HD : Hid _ := hdc
        clear hdc e1 e2
        go_enter Tryd.func109, Tryd.ntmps109
        go_wp2_with fail
        refine Calls.mono HD.out ?_
        rintro e w' ⟨rfl, rfl⟩
        go_wp2
        all_goals first
          | (go_ret; exact ⟨rfl, rfl⟩)
          | (exfalso; omega)

theorem worth_range (c : Int) : -1 ≤ worthV c ∧ worthV c ≤ 15 := by
  unfold worthV
  repeat' split
  all_goals omega

set_option maxHeartbeats 1000000 in
theorem group_ref (s : ByteArray) (w : World) (hs : s.size ≤ 100000000) : Calls Tryd.prog 99 #[.string s] w fun e w' => e = .returned (.bool (grpB (txt s))) ∧ w' = w := by
  have hl := txt_length s
  generalize hR : grpB (txt s) = R
  have HR : Hid _ := hR
  clear hR
  go_enter Tryd.func99, Tryd.ntmps99
  go_wp2
  go_loop [3] (fun i => ∃ k : Nat, k ≤ s.size ∧ i = .int .i64 k ∧ ((txt s).take k).all (fun c => decide (0 ≤ worthV c)) = true) (fun i => s.size - (intOf i).toNat)
  case atStart => exact ⟨0, Nat.zero_le _, rfl, rfl⟩
  case round =>
    obtain ⟨k, hk, rfl, hall⟩ := hrel
    by_cases hlt : k < s.size
    · have hx := txt_at s k hlt
      have hb := byte_at s k hlt
      have hwo := worth_ref _ w hb
      have hwr := worth_range (((s[k]'hlt).toNat : Nat) : Int)
      have HA : Hid _ := all_snoc (p := fun c => decide (0 ≤ worthV c)) hx
      have HX : Hid _ := hx
      have HH : Hid _ := hall
      have HW : Hid _ := hwo
      clear hx hall hwo
      by_cases h0 : worthV (((s[k]'hlt).toNat : Nat) : Int) < 0
      · have eF : R = false := by rw [← HR.out, grpB, all_not HX.out (by simpa using h0)]; rfl
        subst eF
        clear HR
        go_wp2_with fail
        refine Calls.mono HW.out ?_
        rintro e w' ⟨rfl, rfl⟩
        go_wp2
        go_ret
        exact ⟨rfl, rfl⟩
      · go_wp2_with fail
        refine Calls.mono HW.out ?_
        rintro e w' ⟨rfl, rfl⟩
        go_wp2
        refine ⟨⟨k + 1, by omega, by simp, ?_⟩, by simp [intOf]; omega⟩
        rw [HA.out, HH.out, Bool.true_and]
        simpa using h0
    · obtain rfl : k = s.size := by omega
      have ht : (txt s).take s.size = txt s := List.take_of_length_le (by omega)
      rw [ht] at hall
      have eR : R = (decide (1 ≤ s.size) && decide (s.size ≤ 4)) := by rw [← HR.out, grpB, hall, hl]; rfl
      have HE : Hid _ := eR
      clear HR eR hall
      by_cases h1 : 1 ≤ s.size
      · by_cases h4 : s.size ≤ 4
        · have q1 : (1 : Int) ≤ (s.size : Nat) := by omega
          have q2 : ((s.size : Nat) : Int) ≤ 4 := by omega
          go_wp2
          go_ret
          exact ⟨by rw [HE.out, decide_eq_true h1, decide_eq_true h4]; rfl, rfl⟩
        · have q1 : (1 : Int) ≤ (s.size : Nat) := by omega
          have q2 : ¬ ((s.size : Nat) : Int) ≤ 4 := by omega
          go_wp2
          go_ret
          exact ⟨by rw [HE.out, decide_eq_true h1, decide_eq_false h4]; rfl, rfl⟩
      · have q1 : ¬ (1 : Int) ≤ (s.size : Nat) := by omega
        go_wp2
        go_ret
        exact ⟨by rw [HE.out, decide_eq_false h1]; rfl, rfl⟩

theorem valF_snoc (l : List Int) (k : Nat) (x : Int) (h : l[k]? = some x) : valF (l.take (k + 1)) = valF (l.take k) * 16 + worthV x := by
  obtain ⟨hk, rfl⟩ := List.getElem?_eq_some_iff.1 h
  rw [List.take_succ_eq_append_getElem hk, valF, List.foldl_append]
  rfl
theorem pow16_le : ∀ n, n ≤ 4 → (16 : Int) ^ n ≤ 65536 := by decide
theorem valF_range (l : List Int) : ∀ (k : Nat), k ≤ l.length → l.all (fun c => decide (0 ≤ worthV c)) = true → 0 ≤ valF (l.take k) ∧ valF (l.take k) < 16 ^ k
  | 0, _, _ => by simp [valF]
  | k + 1, hk, h => by
    have hx : l[k]? = some (l[k]'(by omega)) := by simp
    have := valF_range l k (by omega) h
    rw [valF_snoc l k _ hx, Int.pow_succ]
    have hw := worth_range (l[k]'(by omega))
    have h0 : 0 ≤ worthV (l[k]'(by omega)) := by
      rw [List.all_eq_true] at h
      simpa using h _ (List.mem_of_getElem? hx)
    omega

set_option maxHeartbeats 1000000 in
theorem value_ref (s : ByteArray) (w : World) (hg : grpB (txt s) = true) : Calls Tryd.prog 101 #[.string s] w fun e w' => e = .returned (.int .i64 (valF (txt s))) ∧ w' = w := by
  have hl := txt_length s
  unfold grpB at hg
  simp only [Bool.and_eq_true, decide_eq_true_eq] at hg
  obtain ⟨hall, _, h4⟩ := hg
  have HALL : Hid _ := hall
  clear hall
  go_enter Tryd.func101, Tryd.ntmps101
  go_wp2
  go_loop [3, 4] (fun n i => ∃ k : Nat, k ≤ s.size ∧ i = .int .i64 k ∧ n = .int .i64 (valF ((txt s).take k))) (fun _ i => s.size - (intOf i).toNat)
  case atStart => exact ⟨0, Nat.zero_le _, rfl, rfl⟩
  case round =>
    obtain ⟨k, hk, rfl, rfl⟩ := hrel
    by_cases hlt : k < s.size
    · have hx := txt_at s k hlt
      have hb := byte_at s k hlt
      have hr := valF_range (txt s) k (by omega) HALL.out
      have hp := pow16_le k (by omega)
      have hwr := worth_range (((s[k]'hlt).toNat : Nat) : Int)
      have HN : Hid _ := valF_snoc (txt s) k _ hx
      have hr1 := hr.1
      have hr2 : valF ((txt s).take k) < 65536 := by omega
      have hwo := worth_ref _ w hb
      have HW : Hid _ := hwo
      clear hr hp hx hwo
      generalize valF ((txt s).take k) = n at *
      generalize worthV (((s[k]'hlt).toNat : Nat) : Int) = x at *
      go_wp2_with fail
      refine Calls.mono HW.out ?_
      rintro e w' ⟨rfl, rfl⟩
      go_wp2
      refine ⟨⟨k + 1, by omega, by simp, ?_⟩, by simp [intOf]; omega⟩
      rw [HN.out]
    · obtain rfl : k = s.size := by omega
      have ht : (txt s).take s.size = txt s := List.take_of_length_le (by omega)
      rw [ht]
      go_wp2
      go_ret
      exact ⟨rfl, rfl⟩

theorem room_ref (L P : Value) (gap : Int) (w : World) (h1 : L.oneCell' = true) (h2 : P.oneCell' = true) (hg : -9223372036854775808 ≤ gap ∧ gap ≤ 9223372036854775807) :
    Calls Tryd.prog 100 #[.agg #[L, .int .i64 gap, P]] w fun e w' => e = .returned (.int .i64 (if 0 ≤ gap then 7 else 8)) ∧ Below w.heap.size w w' := by
  have hB := (Below.refl w.heap.size w).alloc (Nat.le_refl _) (.cells #[L, .int .i64 gap, P] 123)
  go_enter Tryd.func100, Tryd.ntmps100
  by_cases h0 : 0 ≤ gap
  · rw [if_pos h0]
    go_wp2
    go_ret
    exact ⟨rfl, hB⟩
  · rw [if_neg h0]
    go_wp2
    go_ret
    exact ⟨rfl, hB⟩

end Go.Proofs.YtloadmpappjceaaDoor

namespace Go.Proofs.YtloadmpappjceaaDoor
set_option linter.unusedVariables false
set_option linter.unusedSimpArgs false
open Go Go.RowKit

def strsV (bs : List ByteArray) : List Value := bs.map (fun b => Value.string b)

theorem splitA_cons (c : Int) (cur l : List Int) (k : Nat) (x : Int) (h : l[k]? = some x) :
    splitA c cur (l.drop k) = if x = c then cur :: splitA c [] (l.drop (k + 1)) else splitA c (cur ++ [x]) (l.drop (k + 1)) := by
  obtain ⟨hk, rfl⟩ := List.getElem?_eq_some_iff.1 h
  rw [List.drop_eq_getElem_cons hk]
  rfl

theorem cur_next (l : List Int) (f k : Nat) (x : Int) (hf : f ≤ k) (h : l[k]? = some x) : (l.drop f).take (k + 1 - f) = (l.drop f).take (k - f) ++ [x] := by
  obtain ⟨hk, rfl⟩ := List.getElem?_eq_some_iff.1 h
  have e : k + 1 - f = (k - f) + 1 := by omega
  have hl : k - f < (l.drop f).length := by rw [List.length_drop]; omega
  rw [e, List.take_succ_eq_append_getElem hl]
  congr 2
  rw [List.getElem_drop]
  congr 1
  omega

theorem splitA_length (c : Int) : ∀ (l cur : List Int), (splitA c cur l).length ≤ l.length + 1 := by
  intro l
  induction l with
  | nil => intro cur; simp [splitA]
  | cons x l ih =>
    intro cur
    rw [splitA]
    split
    · have := ih []
      simp only [List.length_cons]
      omega
    · have := ih (cur ++ [x])
      simp only [List.length_cons]
      omega

structure SpAt (s : ByteArray) (c : Int) (w0 wr : World) (v : Value) (bs : List ByteArray) (f k : Nat) : Prop where
  own : wr.ownsRow w0.heap.size 9 1 v bs.length (strsV bs)
  below : Below w0.heap.size w0 wr
  few : bs.length ≤ k
  le : f ≤ k
  end_ : k ≤ s.size + 1
  now : k ≤ s.size → splitA c [] (txt s) = bs.map txt ++ splitA c (((txt s).drop f).take (k - f)) ((txt s).drop k)
  over : k = s.size + 1 → splitA c [] (txt s) = bs.map txt

/-- The parts as a new row of strings. -/
def SplitPost (s : ByteArray) (c : Int) (w : World) (e : Ending) (w' : World) : Prop := ∃ v bs, e = .returned v ∧ w'.ownsRow w.heap.size 9 1 v bs.length (strsV bs) ∧ bs.map txt = splitA c [] (txt s) ∧ Below w.heap.size w w'

set_option maxHeartbeats 2000000 in
theorem split_ref (s : ByteArray) (c : Int) (w : World) (hc : 0 ≤ c ∧ c < 256) (hs : s.size ≤ 100000) :
    Calls Tryd.prog 90 #[.string s, .int .u8 c] w fun e w' => SplitPost s c w e w' := by
  have hl := txt_length s
  go_enter Tryd.func90, Tryd.ntmps90
  go_wp2
  go_loopw [5, 6, 7] (fun v fr i wr => ∃ (bs : List ByteArray) (f k : Nat), i = .int .i64 k ∧ fr = .int .i64 f ∧ SpAt s c w wr v bs f k) (fun _ _ i _ => s.size + 2 - (intOf i).toNat)
  case atStart => exact ⟨[], 0, 0, rfl, rfl, World.ownsRow_nil _ _ _ _, Below.refl _ _, Nat.zero_le _, Nat.zero_le _, by omega, fun _ => rfl, fun h => by omega⟩
  case round =>
    obtain ⟨bs, f, k, rfl, rfl, ⟨hown, hB, hfew, hfk, hend, hnow, hover⟩⟩ := hrel
    have hsz := hB.size
    by_cases hlt : k ≤ s.size
    · have hnow' := hnow hlt
      obtain ⟨v', w1, hrun, hown', hgrow, _⟩ := own_lit elem_string hown hsz (by omega) (by decide) [.string (s.extract f k)] 1 rfl (by decide) (fun u hu => by simp at hu; subst hu; rfl) 130 #[.string (s.extract f k)] rfl
      have hB' := hB.grown hgrow hsz (fun j hj => (hown.lt j hj).1)
      have e2 : strsV bs ++ [.string (s.extract f k)] = strsV (bs ++ [s.extract f k]) := by simp [strsV]
      have e3 : bs.length + 1 = (bs ++ [s.extract f k]).length := by simp
      have e4 : (bs ++ [s.extract f k]).map txt = bs.map txt ++ [((txt s).drop f).take (k - f)] := by rw [List.map_append, List.map_cons, List.map_nil, txt_extract]
      rw [e2, e3] at hown'
      have H0 : Hid _ := hrun
      have HO : Hid _ := hown'
      have HB : Hid _ := hB'
      have HN : Hid _ := hnow'
      have H4 : Hid _ := e4
      clear hrun hown' hB' hnow' hnow hover e2 e3 e4 hgrow
      by_cases hk : k = s.size
      · subst hk
        go_wp2_with (at_builtin; refine wpList_append_run rfl _ _ _ _ rfl rfl rfl H0.out ?_; clear H0)
        refine ⟨⟨bs ++ [s.extract f s.size], s.size + 1, s.size + 1, by simp, by simp, HO.out, HB.out, by rw [List.length_append]; simp only [List.length_cons, List.length_nil]; omega, Nat.le_refl _, by omega, fun h => by omega, fun _ => ?_⟩, by simp [intOf]⟩
        have e5 : (txt s).drop s.size = [] := List.drop_eq_nil_of_le (by omega)
        rw [H4.out, HN.out, e5]
        rfl
      · have hlt' : k < s.size := by omega
        have hx := txt_at s k hlt'
        have hb := byte_at s k hlt'
        have HC : Hid _ := splitA_cons c (((txt s).drop f).take (k - f)) (txt s) k _ hx
        have HX : Hid _ := hx
        have q0 : ((k : Int) == (s.size : Int)) = false := by simp; omega
        clear hx
        by_cases hcc : (((s[k]'hlt').toNat : Nat) : Int) = c
        · have q1 : ((((s[k]'hlt').toNat : Nat) : Int) == c) = true := by simpa using hcc
          have HCC : Hid _ := hcc
          clear hcc
          go_wp2_with (at_builtin; refine wpList_append_run rfl _ _ _ _ rfl rfl rfl H0.out ?_; clear H0)
          refine ⟨⟨bs ++ [s.extract f k], k + 1, k + 1, by simp, by simp, HO.out, HB.out, by rw [List.length_append]; simp only [List.length_cons, List.length_nil]; omega, Nat.le_refl _, by omega, fun h => ?_, fun _ => by omega⟩, by simp [intOf]; omega⟩
          rw [H4.out, HN.out, HC.out, if_pos HCC.out]
          simp
        · have q1 : ((((s[k]'hlt').toNat : Nat) : Int) == c) = false := by simpa using hcc
          have HCC : Hid _ := hcc
          clear hcc H0
          go_wp2
          refine ⟨⟨bs, f, k + 1, by simp, rfl, hown, hB, by omega, by omega, by omega, fun h => ?_, fun _ => by omega⟩, by simp [intOf]; omega⟩
          rw [HN.out, HC.out, if_neg HCC.out, cur_next (txt s) f k _ hfk HX.out]
    · obtain rfl : k = s.size + 1 := by omega
      have hov := hover rfl
      clear hover hnow
      go_wp2
      go_ret
      exact ⟨_, bs, rfl, hown, hov.symm, hB⟩

end Go.Proofs.YtloadmpappjceaaDoor

namespace Go.Proofs.YtloadmpappjceaaDoor
set_option linter.unusedVariables false
set_option linter.unusedSimpArgs false
open Go Go.RowKit

theorem partsOk_bad (p : List Int) (r : List (List Int)) (h : octB p 255 = false) : partsOk (p :: r) = false := by
  cases r with
  | nil => exact h
  | cons q r => rw [partsOk, h]; rfl
theorem partsOk_empty (r : List (List Int)) (h : r ≠ []) : partsOk ([] :: r) = false := by
  cases r with
  | nil => exact absurd rfl h
  | cons q r => rw [partsOk]; simp
theorem partsOk_on (p : List Int) (r : List (List Int)) (h : octB p 255 = true) (g : r = [] ∨ p ≠ []) : partsOk (p :: r) = partsOk r := by
  cases r with
  | nil => exact h
  | cons q r =>
    rcases g with g | g
    · cases g
    · rw [partsOk, h]
      cases p with
      | nil => exact absurd rfl g
      | cons => rfl

theorem drop_at {α : Type} {l : List α} {k : Nat} {x : α} (h : l[k]? = some x) : l.drop k = x :: l.drop (k + 1) := by
  obtain ⟨hk, rfl⟩ := List.getElem?_eq_some_iff.1 h
  exact List.drop_eq_getElem_cons hk

theorem toList_none (s : ByteArray) (h : s.size = 0) : s.toList.isEmpty = true := by
  rw [Lib.toList_data]
  cases s with
  | mk d =>
    cases d with
    | mk l =>
      cases l with
      | nil => rfl
      | cons => simp [ByteArray.size] at h

set_option maxHeartbeats 2000000 in
theorem begins_ref (s : ByteArray) (w : World) (hs : s.size ≤ 100000) :
    Calls Tryd.prog 88 #[.string s] w fun e w' => e = .returned (.bool (begB (txt s))) ∧ Below w.heap.size w w' := by
  generalize hR : begB (txt s) = R
  have HR : Hid _ := hR
  clear hR
  go_enter Tryd.func88, Tryd.ntmps88
  go_wp2_with fail
  refine (split_ref s 46 w (by decide) hs).mono ?_
  rintro e w1 ⟨v, bs, rfl, hown, hbs, hB⟩
  obtain ⟨a, cap, rfl, hlen, hz⟩ := own_form hown
  have hll : (splitA 46 [] (txt s)).length = bs.length := by rw [← hbs, List.length_map]
  have hsl := splitA_length 46 (txt s) []
  rw [txt_length, hll] at hsl
  clear hown
  by_cases h4 : 4 < bs.length
  · have eR : R = false := by
      rw [← HR.out, begB, hll, decide_eq_false (by omega)]
      rfl
    subst eR
    clear HR
    have q0 : (4 : Int) < (bs.length : Nat) := by omega
    go_wp2
    go_ret
    exact ⟨rfl, hB⟩
  · have eR : R = partsOk (bs.map txt) := by
      rw [← HR.out, begB, hll, decide_eq_true (by omega), ← hbs]
      rfl
    have q0 : ¬ ((4 : Int) < (bs.length : Nat)) := by omega
    have HE : Hid _ := eR
    clear HR eR hll hsl
    have HBS : Hid _ := hbs
    clear hbs
    go_wp2
    go_loop [4] (fun i => ∃ k : Nat, k ≤ bs.length ∧ i = .int .i64 k ∧ partsOk (bs.map txt) = partsOk ((bs.map txt).drop k)) (fun i => bs.length - (intOf i).toNat)
    case atStart => exact ⟨0, Nat.zero_le _, rfl, rfl⟩
    case round =>
      obtain ⟨k, hk, rfl, hpk⟩ := hrel
      have HP : Hid _ := hpk
      clear hpk
      by_cases hlt : k < bs.length
      · rcases hz with hz | ⟨g, rfl, _, _, hc⟩
        · omega
        have hb : bs[k]? = some bs[k] := by simp [hlt]
        have hck := hc k (.string bs[k]) (by rw [strsV, List.getElem?_map, hb]; rfl)
        have hd : (bs.map txt).drop k = txt bs[k] :: (bs.map txt).drop (k + 1) := drop_at (by rw [List.getElem?_map, hb]; rfl)
        have HD : Hid _ := hd
        have hrest : ((bs.map txt).drop (k + 1) = []) ↔ k + 1 = bs.length := by
          rw [List.drop_eq_nil_iff, List.length_map]; omega
        have HRE : Hid _ := hrest
        have hbs0 : bs[k].size = 0 → k < bs.length := fun _ => hlt
        clear hc hd hb hrest hbs0
        generalize bs[k] = b at *
        have hoc := octet_ref b 255 w1 (by decide)
        by_cases ho : octB (txt b) 255 = true
        · rw [ho] at hoc
          have HOC : Hid _ := hoc
          clear hoc
          by_cases hlast : k + 1 = bs.length
          · have hq : ¬ ((k : Int) < (bs.length : Nat) - 1) := by omega
            go_wp2_with fail
            refine Calls.mono HOC.out ?_
            rintro e w2 ⟨rfl, rfl⟩
            go_wp2
            refine ⟨⟨k + 1, by omega, by simp, ?_⟩, by simp [intOf]; omega⟩
            rw [HP.out, HD.out, partsOk_on _ _ ho (.inl (HRE.out.2 hlast))]
          · have hq : ((k : Int) < (bs.length : Nat) - 1) := by omega
            by_cases he : b.size = 0
            · have hse := toList_none b he
              have eF : R = false := by
                rw [HE.out, HP.out, HD.out, (txt_empty b).2 he]
                exact partsOk_empty _ (fun h => hlast (HRE.out.1 h))
              subst eF
              clear HE
              go_wp2_with fail
              refine Calls.mono HOC.out ?_
              rintro e w2 ⟨rfl, rfl⟩
              go_wp2
              go_ret
              exact ⟨rfl, hB⟩
            · have hse := toList_empty b he
              go_wp2_with fail
              refine Calls.mono HOC.out ?_
              rintro e w2 ⟨rfl, rfl⟩
              go_wp2
              refine ⟨⟨k + 1, by omega, by simp, ?_⟩, by simp [intOf]; omega⟩
              rw [HP.out, HD.out, partsOk_on _ _ ho (.inr (fun h => he ((txt_empty b).1 h)))]
        · have hof : octB (txt b) 255 = false := by simpa using ho
          rw [hof] at hoc
          have HOC : Hid _ := hoc
          clear hoc
          have eF : R = false := by
            rw [HE.out, HP.out, HD.out]
            exact partsOk_bad _ _ hof
          subst eF
          clear HE
          go_wp2_with fail
          refine Calls.mono HOC.out ?_
          rintro e w2 ⟨rfl, rfl⟩
          go_wp2
          go_ret
          exact ⟨rfl, hB⟩
      · obtain rfl : k = bs.length := by omega
        have eT : R = true := by
          rw [HE.out, HP.out, List.drop_eq_nil_of_le (by rw [List.length_map]; exact Nat.le_refl _)]
          rfl
        subst eT
        clear HE HP
        go_wp2
        go_ret
        exact ⟨rfl, hB⟩

end Go.Proofs.YtloadmpappjceaaDoor

namespace Go.Proofs.YtloadmpappjceaaDoor
open Go Go.RowKit
set_option linter.unusedVariables false
set_option linter.unusedSimpArgs false

theorem Only.sets {b : Nat} {u : World} : ∀ (vs : List Value) (o : Nat) (w : World), Only b u w → Only b u (w.setCells b o vs)
  | [], _, _, h => h
  | v :: r, o, w, h => by
    unfold World.setCells
    exact Only.sets r (o + 1) _ (h.set o v)

theorem Only.trans {b : Nat} {u v w : World} (h : Only b u v) (g : Only b v w) : Only b u w :=
  ⟨g.os.trans h.os, g.tape.trans h.tape, g.output.trans h.output, g.size.trans h.size, fun j hj => (g.other j hj).trans (h.other j hj)⟩

theorem blk_set {w : World} {b : Nat} {c : List Value} {t : TypeId} (h : w.heap[b]? = some (.cells c.toArray t)) (j : Nat) (v : Value) : (w.setCell ⟨b, j, none⟩ v).heap[b]? = some (.cells (c.set j v).toArray t) := by
  simp [World.setCell, Array.getElem?_modify, h]

theorem blk_set_other {w : World} {b b' : Nat} {o : Obj} (h : w.heap[b]? = some o) (hb : b ≠ b') (j : Nat) (v : Value) : (w.setCell ⟨b', j, none⟩ v).heap[b]? = some o :=
  (Below.heap_setCell _ _ _ _ hb).trans h

theorem blk_open {w : World} {b : Nat} {c : List Value} {t : TypeId} (h : w.heap[b]? = some (.cells c.toArray t)) (j : Nat) : w.frozen? ⟨b, j, none⟩ = false := by
  simp [World.frozen?, h]

theorem blk_cell {w : World} {b : Nat} {c : List Value} {t : TypeId} (h : w.heap[b]? = some (.cells c.toArray t)) {j : Nat} {v : Value} (hj : c[j]? = some v) : w.cell? ⟨b, j, none⟩ = some v := by
  simp [World.cell?, h, hj]

def setsL (c : List Value) (o : Nat) : List Value → List Value
  | [] => c
  | v :: r => setsL (c.set o v) (o + 1) r

theorem blk_sets {b : Nat} {t : TypeId} : ∀ (vs : List Value) (o : Nat) (c : List Value) (w : World), w.heap[b]? = some (.cells c.toArray t) → (w.setCells b o vs).heap[b]? = some (.cells (setsL c o vs).toArray t)
  | [], _, _, _, h => h
  | v :: r, o, c, w, h => by
    unfold World.setCells setsL
    exact blk_sets r (o + 1) _ _ (blk_set h o v)

theorem setsL_eq : ∀ (vs : List Value) (o : Nat) (c : List Value), o + vs.length ≤ c.length → setsL c o vs = c.take o ++ vs ++ c.drop (o + vs.length)
  | [], o, c, h => by simp [setsL]
  | v :: r, o, c, h => by
    simp only [List.length_cons] at h
    unfold setsL
    rw [setsL_eq r (o + 1) (c.set o v) (by simp; omega), List.take_succ_eq_append_getElem (by simp; omega)]
    have e1 : (c.set o v).take o = c.take o := by
      rw [List.take_set]
      exact List.set_eq_of_length_le (by simp; omega)
    rw [e1]
    simp only [List.getElem_set_self, List.length_cons]
    rw [List.drop_set, if_pos (by omega), show o + 1 + r.length = o + (r.length + 1) by omega]
    simp

theorem setsL_all (c vs : List Value) (h : vs.length = c.length) : setsL c 0 vs = vs := by
  rw [setsL_eq vs 0 c (by omega)]
  simp [h]

theorem box_store {ty : TypeId} {n : Nat} {w : World} {R : Nat} {c : List Value} (hs : ∀ w, (Go.sizeOf ty).run Tryd.prog w = .ok n w) (h : w.heap[R]? = some (.cells c.toArray ty)) (hl : c.length = n) (V : List Value) (hV : V.length = n) (h1 : ∀ v ∈ V, v.oneCell' = true) :
    ∃ w', (Instr.storeAt ty (.pointer (some ⟨R, 0, none⟩)) (.agg V.toArray)).run Tryd.prog w = .ok () w' ∧ w'.heap[R]? = some (.cells V.toArray ty) ∧ Only R w w' := by
  refine ⟨_, agg_store hs hV h1 (fun j hj => ?_) (fun j => blk_open h j), ?_, Only.sets _ _ _ (Only.refl _ _)⟩
  · rw [Nat.zero_add, blk_cell h (j := j) (v := c[j]'(by omega)) (by simp)]
    rfl
  · rw [blk_sets V 0 c w h, setsL_all _ _ (by omega)]

/-- A new box is given its cells. -/
theorem box_new {ty : TypeId} {n : Nat} (hs : ∀ w, (Go.sizeOf ty).run Tryd.prog w = .ok n w) (w : World) (c : List Value) (hl : c.length = n) (V : List Value) (hV : V.length = n) (h1 : ∀ v ∈ V, v.oneCell' = true) :
    ∃ w', (Instr.storeAt ty (.pointer (some ⟨w.heap.size, 0, none⟩)) (.agg V.toArray)).run Tryd.prog (w.alloc (.cells c.toArray ty)) = .ok () w' ∧ w'.heap[w.heap.size]? = some (.cells V.toArray ty) ∧ Below w.heap.size w w' := by
  obtain ⟨w', h, hb, ho⟩ := box_store hs (blk_new w (.cells c.toArray ty)) hl V hV h1
  exact ⟨w', h, hb, ((Below.refl _ w).alloc (Nat.le_refl _) _).trans (ho.below (Nat.le_refl _))⟩

/-- As arm_load and arm_store, the form of the operation asked first. -/
theorem armL {P : Program} {w : World} {ops : Array Oper} {rest : List Oper} {o : Oper} {a : Act} {Q : Exit → Act → World → Prop} (p : Operand) (t : TypeId) (hop : o.op = Op.load t p) (hg : o.guard = none) {vp v : Value} (hp : a.eval p = vp) (hrun : (Instr.loadAt t vp).run P w = .ok v w) (hK : wpList P ops Q rest (a.put o.dst v) w) : wpList P ops Q (o :: rest) a w :=
  arm_load (by simp [Region.wanted, hg]) p t hop hp hrun hK
theorem armS {P : Program} {w w2 : World} {ops : Array Oper} {rest : List Oper} {o : Oper} {a : Act} {Q : Exit → Act → World → Prop} (p x : Operand) (t : TypeId) (hop : o.op = Op.store t p x) (hg : o.guard = none) {vp vx : Value} (hp : a.eval p = vp) (hx : a.eval x = vx) (hrun : (Instr.storeAt t vp vx).run P w = .ok () w2) (hK : wpList P ops Q rest (a.put o.dst (.tuple #[])) w2) : wpList P ops Q (o :: rest) a w :=
  arm_store (by simp [Region.wanted, hg]) p x t hop hp hx hrun hK

theorem step_callR {P : Program} {ops : Array Oper} {o : Oper} {a : Act} {w : World} {K : Act → World → Prop} {Q : Exit → Act → World → Prop} {E : Prop} {R : Value → World → Prop} (hg : o.guard = none) (f : FuncId) (vs : Array Value)
    (hrun : (execOp a.eval o).run P w = .ok (.enter f vs) w) (hc : Calls P f vs w fun e w' => ∃ v, e = .returned v ∧ R v w') (hK : ∀ v w2, R v w2 → K (a.put o.dst v) w2) :
    if Region.wanted o (yielded ops a.tmps) = true then Oper.wp P o a w K Q else E := by
  have hw : Region.wanted o (yielded ops a.tmps) = true := by simp [Region.wanted, hg]
  rw [if_pos hw]
  unfold Oper.wp
  rw [hrun]
  refine hc.mono ?_
  rintro e w' ⟨v, rfl, hr⟩
  exact hK v w' hr

/-- Bytes as cells. -/
def b8 (l : List Int) : List Value := l.map (fun z => Value.int .u8 z)
theorem b8_length (l : List Int) : (b8 l).length = l.length := by simp [b8]
theorem b8_one (l : List Int) : ∀ v ∈ b8 l, v.oneCell' = true := by
  intro v hv
  obtain ⟨z, _, rfl⟩ := List.mem_map.1 hv
  rfl
theorem b8_set (l : List Int) (k : Nat) (z : Int) : (b8 l).set k (.int .u8 z) = b8 (l.set k z) := by simp [b8, List.map_set]

theorem res3c {P : Program} {fn : Func} {a b c : Tmp} {t : TypeId} (h : fn.results = #[.cell a t, .tmp b, .tmp c]) {tmps : Array Value} {R : Addr} (hp : tmps.getD a undef = .pointer (some R)) {v : Value} {w : World} (hl : (loadVar t R).run P w = .ok v w) :
    (results fn tmps).run P w = .ok (.tuple #[v, tmps.getD b undef, tmps.getD c undef]) w := by
  rw [Array.getD_eq_getD_getElem?] at hp
  simp [results, h, hp, asAddr, hl]

end Go.Proofs.YtloadmpappjceaaDoor

namespace Go.Proofs.YtloadmpappjceaaDoor
set_option linter.unusedVariables false
set_option linter.unusedSimpArgs false
open Go Go.RowKit

set_option maxHeartbeats 2000000 in
theorem whole_ref (s : ByteArray) (w : World) (hs : s.size ≤ 100000) :
    Calls Tryd.prog 89 #[.string s] w fun e w' => e = .returned (.bool (whoB (txt s))) ∧ Below w.heap.size w w' := by
  generalize hR : whoB (txt s) = R
  have HR : Hid _ := hR
  clear hR
  go_enter Tryd.func89, Tryd.ntmps89
  go_wp2_with fail
  refine (split_ref s 46 w (by decide) hs).mono ?_
  rintro e w1 ⟨v, bs, rfl, hown, hbs, hB⟩
  obtain ⟨a, cap, rfl, hlen, hz⟩ := own_form hown
  have hsl := splitA_length 46 (txt s) []
  rw [txt_length] at hsl
  have HBS : Hid _ := hbs
  have hR2 : R = (begB (txt s) && (decide (bs.length = 4) && !((bs.map txt).getD 3 []).isEmpty)) := by
    rw [← HR.out, whoB, ← hbs, List.length_map]
  have HR2 : Hid _ := hR2
  have hbl : bs.length ≤ 100001 := by
    have := congrArg List.length hbs
    rw [List.length_map] at this
    omega
  clear hown hbs HR hR2
  go_wp2_with fail
  refine (begins_ref s w1 hs).mono ?_
  rintro e w2 ⟨rfl, hB2⟩
  have hB3 : Below w.heap.size w w2 := hB.trans (hB2.mono hB.size)
  cases hbg : begB (txt s) with
  | false =>
    have eR : R = false := by rw [HR2.out, hbg]; rfl
    subst eR
    clear HR2
    go_wp2
    go_ret
    exact ⟨rfl, hB3⟩
  | true =>
    by_cases h4 : bs.length = 4
    · rcases hz with hz | ⟨g, rfl, _, hg, hc⟩
      · omega
      have hb : bs[3]? = some bs[3] := by simp [h4]
      have hck := (hB2.cell (p := ⟨g, 3, none⟩) hg).trans (hc 3 (.string bs[3]) (by rw [strsV, List.getElem?_map, hb]; rfl))
      have hg3 : (bs.map txt).getD 3 [] = txt bs[3] := by simp [h4]
      have eR : R = !(txt bs[3]).isEmpty := by rw [HR2.out, hbg, decide_eq_true h4, hg3]; rfl
      have HE : Hid _ := eR
      have q0 : ((bs.length : Int) == 4) = true := by simp; omega
      clear hc hb hg3 eR HR2
      generalize bs[3] = b at *
      by_cases he : b.size = 0
      · have hse := toList_none b he
        have eF : R = false := by rw [HE.out, (txt_empty b).2 he]; rfl
        subst eF
        clear HE
        go_wp2
        go_ret
        exact ⟨rfl, hB3⟩
      · have hse := toList_empty b he
        have eF : R = true := by
          rw [HE.out]
          cases ht : txt b with
          | nil => exact absurd ((txt_empty b).1 ht) he
          | cons => rfl
        subst eF
        clear HE
        go_wp2
        go_ret
        exact ⟨rfl, hB3⟩
    · have eR : R = false := by rw [HR2.out, decide_eq_false h4]; simp
      have q0 : ((bs.length : Int) == 4) = false := by simp; omega
      subst eR
      clear HR2
      go_wp2
      go_ret
      exact ⟨rfl, hB3⟩

theorem partsOk_each : ∀ (ps : List (List Int)), partsOk ps = true → ∀ p ∈ ps, octB p 255 = true
  | [], _, p, hp => by cases hp
  | [q], h, p, hp => by
    rcases List.mem_cons.1 hp with rfl | hp
    · exact h
    · cases hp
  | q :: r :: t, h, p, hp => by
    rw [partsOk] at h
    simp only [Bool.and_eq_true] at h
    rcases List.mem_cons.1 hp with rfl | hp
    · exact h.1.1
    · exact partsOk_each (r :: t) h.2 p hp

theorem octB_good {p : List Int} {most : Int} (h : octB p most = true) (hm : 0 ≤ most) : p.all digB = true ∧ p.length ≤ 3 ∧ 0 ≤ numF 0 p ∧ numF 0 p ≤ most := by
  cases p with
  | nil => exact ⟨rfl, by simp, by simp [numF], by simpa [numF] using hm⟩
  | cons x l =>
    rw [octB_form _ _ (by simp)] at h
    simp only [Bool.and_eq_true, Bool.not_eq_true', Bool.or_eq_false_iff, decide_eq_true_eq, decide_eq_false_iff_not] at h
    exact ⟨h.2.1, by omega, (numF_range _ 0 (by decide) h.2.1).1, h.2.2⟩

theorem whoB_parts {l : List Int} (h : whoB l = true) : (splitA 46 [] l).length = 4 ∧ ∀ p ∈ splitA 46 [] l, octB p 255 = true := by
  unfold whoB begB at h
  simp only [Bool.and_eq_true, decide_eq_true_eq] at h
  exact ⟨h.2.1, partsOk_each _ h.1.2⟩

theorem begN_le (l : List Int) : ∀ f n, n ≤ begN l f n
  | 0, n => Nat.le_refl _
  | f + 1, n => by
    unfold begN
    split
    · exact Nat.le_of_succ_le (begN_le l f (n + 1))
    · exact Nat.le_refl _

end Go.Proofs.YtloadmpappjceaaDoor

namespace Go.Proofs.YtloadmpappjceaaDoor
set_option linter.unusedVariables false
set_option linter.unusedSimpArgs false
open Go Go.RowKit

abbrev zero4L : List Value := [.int .u8 0, .int .u8 0, .int .u8 0, .int .u8 0]

/-- An address that a parser answers, the place of its fault, and its error. -/
def Par4 (r : List Int × Int × Int) : Value := .tuple #[.agg (b8 r.1).toArray, .int .i64 r.2.1, .int .i64 r.2.2]

def Par4Post (s : ByteArray) (w : World) (e : Ending) (w' : World) : Prop := e = .returned (Par4 (rparse4 (txt s))) ∧ Below w.heap.size w w'

/-- What four parts have become of, the first k of them. -/
def numK (ps : List (List Int)) (k : Nat) : List Int := (ps.map (numF 0)).take k ++ List.replicate (4 - k) 0

theorem numK_next (ps : List (List Int)) (k : Nat) (p : List Int) (h4 : ps.length = 4) (h : ps[k]? = some p) : (numK ps k).set k (numF 0 p) = numK ps (k + 1) := by
  obtain ⟨hk, rfl⟩ := List.getElem?_eq_some_iff.1 h
  match ps, h4, k, hk with
  | [a, b, c, d], _, 0, _ => rfl
  | [a, b, c, d], _, 1, _ => rfl
  | [a, b, c, d], _, 2, _ => rfl
  | [a, b, c, d], _, 3, _ => rfl
theorem numK_length (ps : List (List Int)) (k : Nat) (h4 : ps.length = 4) (hk : k ≤ 4) : (numK ps k).length = 4 := by
  simp [numK, h4]
  omega
theorem numK_all (ps : List (List Int)) (h4 : ps.length = 4) : numK ps 4 = ps.map (numF 0) := by
  match ps, h4 with
  | [a, b, c, d], _ => rfl

set_option maxHeartbeats 4000000 in
set_option maxRecDepth 100000 in
theorem Parse4_ref (s : ByteArray) (w : World) (hs : s.size ≤ 99999) :
    Calls Tryd.prog 81 #[.string s] w fun e w' => Par4Post s w e w' := by
  have hl := txt_length s
  generalize hQ : (fun e w' => Par4Post s w e w') = Q
  have HQ : Hid _ := hQ
  clear hQ
  go_enter Tryd.func81, Tryd.ntmps81
  go_wp2_with fail
  have hb0 := blk_new w (.cells zero4L.toArray 27)
  have hB0 := (Below.refl w.heap.size w).alloc (Nat.le_refl _) (.cells zero4L.toArray 27)
  have hz0 : (w.alloc (.cells zero4L.toArray 27)).heap.size = w.heap.size + 1 := by simp
  generalize hW : w.alloc (.cells zero4L.toArray 27) = W0 at *
  clear hW
  go_loopw [5] (fun i wr => ∃ k : Nat, k ≤ s.size ∧ i = .int .i64 k ∧ Below W0.heap.size W0 wr ∧ begN (txt s) s.size 0 = begN (txt s) (s.size - k) k) (fun i _ => s.size - (intOf i).toNat)
  case atStart => exact ⟨0, Nat.zero_le _, rfl, Below.refl _ _, rfl⟩
  case round =>
    obtain ⟨k, hk, rfl, hB, hN⟩ := hrel
    have HN : Hid _ := hN
    clear hN
    by_cases hlt : k < s.size
    · have hbg := begins_ref (s.extract 0 (k + 1)) wr (by rw [ByteArray.size_extract]; omega)
      rw [txt_extract, List.drop_zero, Nat.sub_zero] at hbg
      have hstep : begN (txt s) (s.size - k) k = if begB ((txt s).take (k + 1)) then begN (txt s) (s.size - (k + 1)) (k + 1) else k := by
        have e : s.size - k = (s.size - (k + 1)) + 1 := by omega
        rw [e, begN]
      cases hbb : begB ((txt s).take (k + 1)) with
      | true =>
        rw [hbb] at hbg
        have HS : Hid _ := hstep.trans (by rw [hbb, if_pos rfl] : _ = begN (txt s) (s.size - (k + 1)) (k + 1))
        have HBG : Hid _ := hbg
        clear hbg hstep hbb
        go_wp2_with fail
        refine Calls.mono HBG.out ?_
        rintro e w2 ⟨rfl, hB2⟩
        go_wp2
        exact ⟨⟨k + 1, by omega, by simp, hB.trans (hB2.mono hB.size), HN.out.trans HS.out⟩, by simp [intOf]; omega⟩
      | false =>
        rw [hbb] at hbg
        have hne : rparse4 (txt s) = ([0, 0, 0, 0], (k : Int), 20) := by
          have e : begN (txt s) (txt s).length 0 = k := by
            rw [hl, HN.out, hstep, hbb]
            rfl
          unfold rparse4
          rw [e]
          exact if_pos (.inl (by omega))
        have HNE : Hid _ := hne
        have HBG : Hid _ := hbg
        clear hbg hstep hbb hne
        go_wp2_with fail
        refine Calls.mono HBG.out ?_
        rintro e w2 ⟨rfl, hB2⟩
        have hbx := (hB2.block _ (Nat.lt_of_lt_of_le (by omega) hB.size)).trans ((hB.block w.heap.size (by omega)).trans hb0)
        have hBx : Below w.heap.size w w2 := (hB0.trans (hB.mono (by omega))).trans (hB2.mono (Nat.le_trans hB0.size hB.size))
        obtain ⟨wE, hst, bE, hon⟩ := box_store Tryd.sizeOf27 hbx rfl zero4L rfl (by simp [Value.oneCell'])
        have HST : Hid _ := hst
        have BE : Hid _ := bE
        have HBE : Hid (Below w.heap.size w wE) := hBx.trans (hon.below (Nat.le_refl _))
        clear hst bE hon hbx hBx
        go_wp2_with ((with_reducible show wpList _ _ _ _ _ _); refine arm_store rfl (.tmp 2) (.tmp 31) 27 rfl rfl rfl HST.out ?_)
        refine bodyPost_ret (res3c Tryd.results81 rfl (agg_loadVar Tryd.isAgg27 Tryd.sizeOf27 rfl (CellsAt.of_blk BE.out))) rfl ?_
        rw [← HQ.out]
        refine ⟨?_, HBE.out⟩
        rw [HNE.out]
        rfl
    · obtain rfl : k = s.size := by omega
      have hN2 : begN (txt s) (txt s).length 0 = s.size := by
        rw [hl, HN.out, Nat.sub_self]
        rfl
      have hwh := whole_ref s wr (by omega)
      cases hwb : whoB (txt s) with
      | false =>
        rw [hwb] at hwh
        have hne : rparse4 (txt s) = ([0, 0, 0, 0], (s.size : Int), 20) := by
          unfold rparse4
          rw [hN2]
          exact if_pos (.inr hwb)
        have HNE : Hid _ := hne
        have HWH : Hid _ := hwh
        clear hwh hwb hne HN hN2
        go_wp2_with fail
        refine Calls.mono HWH.out ?_
        rintro e w2 ⟨rfl, hB2⟩
        have hbx := (hB2.block _ (Nat.lt_of_lt_of_le (by omega) hB.size)).trans ((hB.block w.heap.size (by omega)).trans hb0)
        have hBx : Below w.heap.size w w2 := (hB0.trans (hB.mono (by omega))).trans (hB2.mono (Nat.le_trans hB0.size hB.size))
        obtain ⟨wE, hst, bE, hon⟩ := box_store Tryd.sizeOf27 hbx rfl zero4L rfl (by simp [Value.oneCell'])
        have HST : Hid _ := hst
        have BE : Hid _ := bE
        have HBE : Hid (Below w.heap.size w wE) := hBx.trans (hon.below (Nat.le_refl _))
        clear hst bE hon hbx hBx
        go_wp2_with ((with_reducible show wpList _ _ _ _ _ _); refine arm_store rfl (.tmp 2) (.tmp 31) 27 rfl rfl rfl HST.out ?_)
        refine bodyPost_ret (res3c Tryd.results81 rfl (agg_loadVar Tryd.isAgg27 Tryd.sizeOf27 rfl (CellsAt.of_blk BE.out))) rfl ?_
        rw [← HQ.out]
        refine ⟨?_, HBE.out⟩
        rw [HNE.out]
        rfl
      | true =>
        rw [hwb] at hwh
        have hne : rparse4 (txt s) = ((splitA 46 [] (txt s)).map (numF 0), 0, 0) := by
          unfold rparse4
          rw [hN2]
          exact if_neg (by simp [hwb, hl])
        have HNE : Hid _ := hne
        have HWH : Hid _ := hwh
        have hpp := whoB_parts hwb
        have HPP : Hid _ := hpp
        clear hwh hwb hne HN hN2 hpp
        go_wp2_with fail
        refine Calls.mono HWH.out ?_
        rintro e w2 ⟨rfl, hB2⟩
        have hbx := (hB2.block _ (Nat.lt_of_lt_of_le (by omega) hB.size)).trans ((hB.block w.heap.size (by omega)).trans hb0)
        have hBx : Below w.heap.size w w2 := (hB0.trans (hB.mono (by omega))).trans (hB2.mono (Nat.le_trans hB0.size hB.size))
        have hlt2 : w.heap.size < w2.heap.size := Nat.lt_of_lt_of_le (by omega) (Nat.le_trans hB.size hB2.size)
        go_wp2_with fail
        refine (split_ref s 46 w2 (by decide) (by omega)).mono ?_
        rintro e w3 ⟨v, bs, rfl, hown, hbs, hB3⟩
        obtain ⟨a, cap, rfl, hlen, hz⟩ := own_form hown
        have h4 : bs.length = 4 := by
          have := congrArg List.length hbs
          rw [List.length_map, HPP.out.1] at this
          exact this
        have hbx := (hB3.block _ hlt2).trans hbx
        have hBx := hBx.trans (hB3.mono hBx.size)
        have HBS : Hid _ := hbs
        clear hown hbs
        rcases hz with hz | ⟨g, rfl, hgb, hg, hc⟩
        · omega
        obtain ⟨w4, hst, b4, hB4⟩ := box_new Tryd.sizeOf27 w3 zero4L rfl zero4L rfl (by simp [Value.oneCell'])
        have HST : Hid _ := hst
        clear hst
        go_wp2_with ((with_reducible show wpList _ _ _ _ _ _); refine arm_store rfl (.tmp 7) (.tmp 35) 27 rfl rfl rfl HST.out ?_)
        have hps : (bs.map txt).length = 4 := by rw [List.length_map]; exact h4
        have hne : w.heap.size ≠ w3.heap.size := by have := hB3.size; omega
        have hlt3 : w.heap.size < w3.heap.size := by have := hB3.size; omega
        go_loopw [8] (fun i wr => ∃ k : Nat, k ≤ 4 ∧ i = .int .i64 k ∧ wr.heap[w3.heap.size]? = some (.cells (b8 (numK (bs.map txt) k)).toArray 27) ∧ Only w3.heap.size w4 wr) (fun i _ => 4 - (intOf i).toNat)
        case atStart => exact ⟨0, Nat.zero_le _, rfl, b4, Only.refl _ _⟩
        case round =>
          clear hB
          obtain ⟨k, hk, rfl, hbk, hon⟩ := hrel
          by_cases hlt4 : k < 4
          · have hb : bs[k]? = some bs[k] := by simp [h4, hlt4]
            have hcel := ((hon.below (Nat.le_refl _)).cell (p := ⟨g, k, none⟩) hg).trans ((hB4.cell (p := ⟨g, k, none⟩) hg).trans (hc k (.string bs[k]) (by rw [strsV, List.getElem?_map, hb]; rfl)))
            have hpk : (bs.map txt)[k]? = some (txt bs[k]) := by rw [List.getElem?_map, hb]; rfl
            have hgood := octB_good (HPP.out.2 (txt bs[k]) (by rw [← HBS.out]; exact List.mem_of_getElem? hpk)) (by decide)
            have HNX : Hid _ := numK_next (bs.map txt) k (txt bs[k]) hps hpk
            have hlen4 := numK_length (bs.map txt) k hps hk
            clear hb hpk
            generalize bs[k] = b at *
            have hnum := number_ref b wr hgood.1 (by have := hgood.2.1; rw [txt_length] at this; omega)
            have hr := hgood.2.2
            have HNU : Hid _ := hnum
            clear hgood hnum
            generalize numF 0 (txt b) = n at *
            have hfz := blk_open hbk k
            have hcl : wr.cell? ⟨w3.heap.size, k, none⟩ = some ((b8 (numK (bs.map txt) k))[k]'(by rw [b8_length]; omega)) := blk_cell hbk (List.getElem?_eq_getElem _)
            have hset := blk_set hbk k (.int .u8 n)
            rw [b8_set, HNX.out] at hset
            have hon' := hon.set k (.int .u8 n)
            generalize (b8 (numK (bs.map txt) k))[k]'(by rw [b8_length]; omega) = old at *
            have HSE : Hid _ := hset
            have HON : Hid _ := hon'
            clear hset hon' hon hbk
            have hwr : IntKind.u8.wrap n = n := by unfold IntKind.wrap; simp [IntKind.signed, IntKind.bits]; omega
            go_wp2_with fail
            refine Calls.mono HNU.out ?_
            rintro e w5 ⟨rfl, rfl⟩
            go_wp2
            exact ⟨⟨k + 1, by omega, by simp, HSE.out, HON.out⟩, by simp [intOf]; omega⟩
          · obtain rfl : k = 4 := by omega
            rw [numK_all _ hps, HBS.out] at hbk
            have hl4 := HPP.out.1
            have hbR := ((hon.below (B := w3.heap.size) (Nat.le_refl _)).block _ hlt3).trans ((hB4.block _ hlt3).trans hbx)
            have hBR : Below w.heap.size w wr := (hBx.trans (hB4.mono hBx.size)).trans (hon.below (by omega))
            have hL := agg_load (t := 27) Tryd.isAgg27 Tryd.sizeOf27 (vs := b8 ((splitA 46 [] (txt s)).map (numF 0))) (by rw [b8_length, List.length_map]; exact hl4) (CellsAt.of_blk hbk)
            obtain ⟨wE, hst, bE, honE⟩ := box_store Tryd.sizeOf27 hbR rfl (b8 ((splitA 46 [] (txt s)).map (numF 0))) (by rw [b8_length, List.length_map]; exact hl4) (b8_one _)
            have hlv := agg_loadVar (t := 27) Tryd.isAgg27 Tryd.sizeOf27 (vs := b8 ((splitA 46 [] (txt s)).map (numF 0))) (by rw [b8_length, List.length_map]; exact hl4) (CellsAt.of_blk bE)
            have HBE : Hid (Below w.heap.size w wE) := hBR.trans (honE.below (Nat.le_refl _))
            have HL : Hid _ := hL
            have HSQ : Hid _ := hst
            have HLV : Hid _ := hlv
            clear hL hst hlv bE honE hbR hBR hbk hon
            go_wp2_with first
              | ((with_reducible show wpList _ _ _ _ _ _); refine arm_load rfl (.tmp 7) 27 rfl rfl HL.out ?_)
              | ((with_reducible show wpList _ _ _ _ _ _); refine arm_store rfl (.tmp 2) (.tmp 48) 27 rfl rfl rfl HSQ.out ?_)
            refine bodyPost_ret (res3c Tryd.results81 rfl HLV.out) rfl ?_
            rw [← HQ.out]
            refine ⟨?_, HBE.out⟩
            rw [HNE.out]
            rfl

end Go.Proofs.YtloadmpappjceaaDoor

namespace Go.Proofs.YtloadmpappjceaaDoor
set_option linter.unusedVariables false
set_option linter.unusedSimpArgs false
open Go Go.RowKit

def intsL (xs : List Int) : List Value := xs.map (fun z => .int .i64 z)

theorem row_kept {w w' : World} {base n : Nat} {e : TypeId} {v : Value} {xs : List Value} (h : w.ownsRow base e 1 v n xs) (hk : ∀ g, base ≤ g → g < w.heap.size → w'.heap[g]? = w.heap[g]?) : w'.ownsRow base e 1 v n xs := by
  refine ⟨h.1, ?_⟩
  rcases h.2 with hn | ⟨g, cap, cur, hv, hb, hg, rest⟩
  · exact .inl hn
  · exact .inr ⟨g, cap, cur, hv, hb, (hk g hb (Array.getElem?_eq_some_iff.1 hg).1).trans hg, rest⟩

abbrev sixL (v : Value) (gap : Int) (p : ByteArray) : List Value := [v, .int .i64 gap, .string p]

/-- The two boxes of Read6: its answer's, and what was read. -/
structure SixAt (w0 wr : World) (v : Value) (p : ByteArray) (x : SixS) : Prop where
  box : wr.heap[w0.heap.size + 1]? = some (.cells (sixL v x.gap p).toArray 123)
  res : wr.heap[w0.heap.size]? = some (.cells (sixL (.slice none 0 0) 0 ⟨#[]⟩).toArray 123)
  row : wr.ownsRow (w0.heap.size + 2) 3 1 v x.L.length (intsL x.L)
  part : txt p = x.part
  below : Below w0.heap.size w0 wr
  sized : w0.heap.size + 2 ≤ wr.heap.size

theorem SixAt.up {w0 wr w2 : World} {v : Value} {p : ByteArray} {x : SixS} (h : SixAt w0 wr v p x) (hb : Below wr.heap.size wr w2) : SixAt w0 w2 v p x :=
  ⟨(hb.block _ (by have := h.sized; omega)).trans h.box, (hb.block _ (by have := h.sized; omega)).trans h.res, row_kept h.row (fun g _ hg => hb.block g hg), h.part, h.below.trans (hb.mono (by have := h.sized; omega)), Nat.le_trans h.sized hb.size⟩

theorem SixAt.form {w0 wr : World} {v : Value} {p : ByteArray} {x : SixS} (h : SixAt w0 wr v p x) : ∃ a cap, v = .slice a x.L.length cap := by
  obtain ⟨a, cap, e, _⟩ := own_form h.row
  exact ⟨a, cap, e⟩

theorem SixAt.cells {w0 wr : World} {v : Value} {p : ByteArray} {x : SixS} (h : SixAt w0 wr v p x) :
    (∀ y : Hi wr, y.W.cell? ⟨w0.heap.size + 1, 0, none⟩ = some v) ∧ (∀ y : Hi wr, y.W.cell? ⟨w0.heap.size + 1, 1, none⟩ = some (.int .i64 x.gap)) ∧ (∀ y : Hi wr, y.W.cell? ⟨w0.heap.size + 1, 2, none⟩ = some (.string p)) := by
  refine ⟨fun y => ?_, fun y => ?_, fun y => ?_⟩ <;> simp [World.cell?, Hi.blk h.box y]

theorem SixAt.load {w0 wr : World} {v : Value} {p : ByteArray} {x : SixS} (h : SixAt w0 wr v p x) (y : Hi wr) :
    (Instr.loadAt 123 (.pointer (some ⟨w0.heap.size + 1, 0, none⟩))).run Tryd.prog y.W = .ok (.agg (sixL v x.gap p).toArray) y.W :=
  agg_load Tryd.isAgg123 Tryd.sizeOf123 rfl (CellsAt.of_blk (Hi.blk h.box y))

theorem SixAt.setGap {w0 wr : World} {v : Value} {p : ByteArray} {x : SixS} (h : SixAt w0 wr v p x) (g : Int) : SixAt w0 (wr.setCell ⟨w0.heap.size + 1, 1, none⟩ (.int .i64 g)) v p { x with gap := g } :=
  ⟨blk_set h.box 1 _, blk_set_other h.res (by omega) _ _, row_kept h.row (fun g hg _ => Below.heap_setCell _ _ _ _ (by show g ≠ w0.heap.size + 1; omega)), h.part, h.below.setCell (by simp) _, by have := h.sized; simpa [World.setCell] using this⟩
theorem SixAt.setPart {w0 wr : World} {v : Value} {p : ByteArray} {x : SixS} (h : SixAt w0 wr v p x) (q : ByteArray) : SixAt w0 (wr.setCell ⟨w0.heap.size + 1, 2, none⟩ (.string q)) v q { x with part := txt q } :=
  ⟨blk_set h.box 2 _, blk_set_other h.res (by omega) _ _, row_kept h.row (fun g hg _ => Below.heap_setCell _ _ _ _ (by show g ≠ w0.heap.size + 1; omega)), rfl, h.below.setCell (by simp) _, by have := h.sized; simpa [World.setCell] using this⟩

/-- What Read6 answers. -/
def Read6Post (s : ByteArray) (w : World) (e : Ending) (w' : World) : Prop :=
  ∃ v p, e = .returned (.tuple #[.agg (sixL v (read6 (txt s) s.size 0 ⟨[], -1, []⟩).1.gap p).toArray, .int .i64 ((read6 (txt s) s.size 0 ⟨[], -1, []⟩).2 : Nat)]) ∧
    w'.ownsRow (w.heap.size + 2) 3 1 v (read6 (txt s) s.size 0 ⟨[], -1, []⟩).1.L.length (intsL (read6 (txt s) s.size 0 ⟨[], -1, []⟩).1.L) ∧ txt p = (read6 (txt s) s.size 0 ⟨[], -1, []⟩).1.part ∧ Below w.heap.size w w'

/-- The box is stored into the answer's. -/
theorem SixAt.end_ {w0 wr : World} {v : Value} {p : ByteArray} {x : SixS} (h : SixAt w0 wr v p x) :
    ∃ wE, (Instr.storeAt 123 (.pointer (some ⟨w0.heap.size, 0, none⟩)) (.agg (sixL v x.gap p).toArray)).run Tryd.prog wr = .ok () wE ∧ (loadVar 123 ⟨w0.heap.size, 0, none⟩).run Tryd.prog wE = .ok (.agg (sixL v x.gap p).toArray) wE ∧
      wE.ownsRow (w0.heap.size + 2) 3 1 v x.L.length (intsL x.L) ∧ Below w0.heap.size w0 wE := by
  obtain ⟨a, cap, rfl⟩ := h.form
  obtain ⟨wE, hst, bE, hon⟩ := box_store Tryd.sizeOf123 h.res rfl (sixL (.slice a x.L.length cap) x.gap p) rfl (by simp [sixL, Value.oneCell'])
  exact ⟨wE, hst, agg_loadVar Tryd.isAgg123 Tryd.sizeOf123 rfl (CellsAt.of_blk bE), row_kept h.row (fun g hg _ => hon.other g (by omega)), h.below.trans (hon.below (Nat.le_refl _))⟩

/-- The same, cell by cell. -/
theorem SixAt.end2 {w0 wr : World} {v : Value} {p : ByteArray} {x : SixS} (h : SixAt w0 wr v p x) :
    (loadVar 123 ⟨w0.heap.size, 0, none⟩).run Tryd.prog (((wr.setCell ⟨w0.heap.size, 0, none⟩ v).setCell ⟨w0.heap.size, 1, none⟩ (.int .i64 x.gap)).setCell ⟨w0.heap.size, 2, none⟩ (.string p)) = .ok (.agg (sixL v x.gap p).toArray) (((wr.setCell ⟨w0.heap.size, 0, none⟩ v).setCell ⟨w0.heap.size, 1, none⟩ (.int .i64 x.gap)).setCell ⟨w0.heap.size, 2, none⟩ (.string p)) ∧
      (((wr.setCell ⟨w0.heap.size, 0, none⟩ v).setCell ⟨w0.heap.size, 1, none⟩ (.int .i64 x.gap)).setCell ⟨w0.heap.size, 2, none⟩ (.string p)).ownsRow (w0.heap.size + 2) 3 1 v x.L.length (intsL x.L) ∧ Below w0.heap.size w0 (((wr.setCell ⟨w0.heap.size, 0, none⟩ v).setCell ⟨w0.heap.size, 1, none⟩ (.int .i64 x.gap)).setCell ⟨w0.heap.size, 2, none⟩ (.string p)) := by
  have b := blk_set (blk_set (blk_set h.res 0 v) 1 (.int .i64 x.gap)) 2 (.string p)
  refine ⟨agg_loadVar Tryd.isAgg123 Tryd.sizeOf123 rfl (CellsAt.of_blk b), row_kept h.row (fun g hg _ => ?_), ((h.below.setCell (by simp) _).setCell (by simp) _).setCell (by simp) _⟩
  rw [Below.heap_setCell _ _ _ _ (by show g ≠ w0.heap.size; omega), Below.heap_setCell _ _ _ _ (by show g ≠ w0.heap.size; omega), Below.heap_setCell _ _ _ _ (by show g ≠ w0.heap.size; omega)]

theorem SixAt.rcell {w0 wr : World} {v : Value} {p : ByteArray} {x : SixS} (h : SixAt w0 wr v p x) :
    wr.cell? ⟨w0.heap.size, 0, none⟩ = some (.slice none 0 0) ∧ wr.cell? ⟨w0.heap.size, 1, none⟩ = some (.int .i64 0) ∧ wr.cell? ⟨w0.heap.size, 2, none⟩ = some (.string ⟨#[]⟩) ∧ (∀ j, wr.frozen? ⟨w0.heap.size, j, none⟩ = false) :=
  ⟨blk_cell h.res rfl, blk_cell h.res rfl, blk_cell h.res rfl, blk_open h.res⟩

/-- A group more, and no letter of the next. -/
theorem SixAt.push {w0 wr : World} {v : Value} {p : ByteArray} {x : SixS} (h : SixAt w0 wr v p x) (hn : x.L.length ≤ 8) (z : Int) (ty : TypeId) :
    ∃ v' w1, (Builtin.append_ #[94, 94] ty #[v, .slice (some ⟨wr.heap.size, 0, none⟩) 1 1]).run Tryd.prog (wr.alloc (.cells #[.int .i64 z] 3)) = .ok v' w1 ∧ (∃ a' cap', v' = .slice a' (x.L.length + 1) cap') ∧ SixAt w0 (w1.setCell ⟨w0.heap.size + 1, 0, none⟩ v') v' p { x with L := x.L ++ [z] } ∧
      w1.cell? ⟨w0.heap.size + 1, 0, none⟩ = some v ∧ (∀ j, w1.frozen? ⟨w0.heap.size + 1, j, none⟩ = false) := by
  obtain ⟨v', w1, hrun, hown', hgrow, _⟩ := own_lit elem_int h.row (by have := h.sized; omega) (by omega) (by decide) [.int .i64 z] 1 rfl (by decide) (fun u hu => by simp at hu; subst hu; rfl) ty #[.int .i64 z] rfl
  have hlt : ∀ b, b < w0.heap.size + 2 → w1.heap[b]? = wr.heap[b]? := fun b hb => hgrow.block b (by have := h.sized; omega) (fun e => by
    have := (h.row.lt b e.symm).1
    omega)
  have hbox := (hlt (w0.heap.size + 1) (by omega)).trans h.box
  obtain ⟨a', cap', rfl, _⟩ := own_form hown'
  refine ⟨_, w1, hrun, ⟨a', cap', rfl⟩, ⟨blk_set hbox 0 _, blk_set_other ((hlt w0.heap.size (by omega)).trans h.res) (by omega) _ _, ?_, h.part, ?_, ?_⟩, blk_cell hbox rfl, blk_open hbox⟩
  · have e : intsL x.L ++ [.int .i64 z] = intsL (x.L ++ [z]) := by simp [intsL]
    rw [e] at hown'
    have e2 : x.L.length + 1 = (x.L ++ [z]).length := by simp
    rw [e2] at hown'
    simp only
    rw [show (Value.slice a' (x.L.length + 1) cap') = Value.slice a' ((x.L ++ [z]).length) cap' by rw [e2]]
    exact row_kept hown' (fun g hg _ => Below.heap_setCell _ _ _ _ (by show g ≠ w0.heap.size + 1; omega))
  · refine Below.setCell (h.below.trans ⟨hgrow.os, hgrow.tape, hgrow.output, hgrow.size, fun j hj => hlt j (by omega)⟩) (by simp) _
  · have := h.sized
    have := hgrow.size
    simp only [World.setCell, Array.size_modify]
    omega

theorem Hi.calls_same {P : Program} {f : FuncId} {args : Array Value} {w : World} {v : Value} (h : ∀ w, Calls P f args w fun e w' => e = .returned v ∧ w' = w) (x : Hi w) : Calls P f args x.W fun e w' => e = .returned v ∧ Below x.W.heap.size x.W w' :=
  (h x.W).mono fun e w' h => ⟨h.1, by rw [h.2]; exact Below.refl _ _⟩

theorem slice_str (s : ByteArray) (k : Nat) (h : k < s.size) (W : World) : (Instr.slice 9 (.string s) (some (.int .i64 (k : Int))) (some (.int .i64 ((k : Int) + 1))) none).run Tryd.prog W = .ok (.string (s.extract k (k + 1))) W := by
  have h1 : (k : Int) + 1 ≤ (s.size : Nat) := by omega
  have h2 : ((k : Int) + 1).toNat = k + 1 := by omega
  have h3 : ¬ ((k : Int) + 1 < 0) := by omega
  simp [Instr.slice, go_sem, h1, h2, h3]

/-- What a text may have been read to. -/
structure SixS.Ok (x : SixS) (k : Nat) : Prop where
  few : x.L.length ≤ 7
  gap : -1 ≤ x.gap ∧ x.gap ≤ 7
  short : x.part.length ≤ k
  nums : ∀ z ∈ x.L, 0 ≤ z ∧ z < 65536

theorem read6_step (l : List Int) (k : Nat) (c : Int) (x : SixS) (hx : l[k]? = some c) : read6 l (l.length - k) k x = match x.step l k c with
    | none => (x, k)
    | some y => read6 l (l.length - (k + 1)) (k + 1) y := by
  obtain ⟨hk, rfl⟩ := List.getElem?_eq_some_iff.1 hx
  have e : l.length - k = (l.length - (k + 1)) + 1 := by omega
  rw [e, read6, List.getD_eq_getElem?_getD, hx]
  rfl

theorem grp_val {l : List Int} (h : grpB l = true) : 0 ≤ valF l ∧ valF l < 65536 := by
  unfold grpB at h
  simp only [Bool.and_eq_true, decide_eq_true_eq] at h
  have := valF_range l l.length (Nat.le_refl _) h.1
  rw [List.take_of_length_le (Nat.le_refl _)] at this
  have hp := pow16_le l.length h.2.2
  omega

theorem step_ok {l : List Int} {k : Nat} {c : Int} {x y : SixS} (h : x.step l k c = some y) (hx : x.Ok k) : y.Ok (k + 1) := by
  obtain ⟨h1, h2, h3, h4⟩ := hx
  unfold SixS.step at h
  split at h
  · split at h
    · cases h; exact ⟨h1, h2, by omega, h4⟩
    · split at h
      · cases h; exact ⟨h1, ⟨by show (-1 : Int) ≤ (x.L.length : Int); omega, by show (x.L.length : Int) ≤ 7; omega⟩, by show x.part.length ≤ k + 1; omega, h4⟩
      · cases h
  · split at h
    · split at h
      · cases h
      · rename_i hh
        cases h
        have hr : x.room ≤ 8 := by unfold SixS.room; split <;> omega
        have hg : grpB x.part = true := by
          cases hgb : grpB x.part with
          | true => rfl
          | false => exact absurd (.inl hgb) hh
        have hlt : ¬ (x.room ≤ x.L.length + 1) := fun e => hh (.inr e)
        refine ⟨by simp; omega, h2, by simp, fun z hz => ?_⟩
        rcases List.mem_append.1 hz with hz | hz
        · exact h4 z hz
        · simp at hz; subst hz; exact grp_val hg
    · split at h
      · cases h
      · split at h
        · cases h; exact ⟨h1, h2, by simp; omega, h4⟩
        · cases h

end Go.Proofs.YtloadmpappjceaaDoor
