/-
  Port sets: Check of the program, Right and Check of the document.
  Port sets: Of and Has of both sides.
  Edges of rules as plain functions of bits: what an edge's prefix, address and MAP address are, bit by bit.
  Rules in memory; hostBits, psidBits, shared and anySet of the program.
  Operations of regions that draw, by hand.
  psidBits, shared, anySet and Check of the program.
  Edges of rules that may be, plainly: what each part is, bit by bit; what is found by it; what it owns.
  Check, Ports and Count of the program.
-/
import Derived.Test.YtloadmpappjceaaDoorFoldB
import Derived.Handy
import Derived.Test.YtloadmpappjceaaDoorFoldE
import Derived.Test.YtloadmpappjceaaDoorSixM
import Derived.Test.YtloadmpappjceaaDoorFoldD
namespace Go.Proofs.YtloadmpappjceaaDoor
open Go Go.RowKit
set_option linter.unusedVariables false
set_option linter.unusedSimpArgs false

/-- A port set. -/
abbrev PS (o l p : Int) : Value := .agg #[.int .i64 o, .int .i64 l, .int .u16 p]
def In64 (n : Int) : Prop := -9223372036854775808 ≤ n ∧ n ≤ 9223372036854775807
def cutOk (o l : Int) : Prop := 0 ≤ o ∧ o ≤ 15 ∧ 0 ≤ l ∧ l ≤ 16 - o
instance (o l : Int) : Decidable (cutOk o l) := by unfold cutOk; infer_instance
def setOk (o l p : Int) : Prop := cutOk o l ∧ p < 2 ^ l.toNat
instance (o l p : Int) : Decidable (setOk o l p) := by unfold setOk; infer_instance
theorem pow_le16 {l : Nat} (h : l ≤ 16) : (2 : Int) ^ l ≤ 65536 := by
  have h2 : (2 : Nat) ^ l ≤ 65536 := Nat.pow_le_pow_right (n := 2) (j := 16) (by omega) h
  have h3 : (2 : Int) ^ l = ((2 ^ l : Nat) : Int) := by rw [Int.natCast_pow]; rfl
  rw [h3]
  omega
theorem pow_ge1 (l : Nat) : (1 : Int) ≤ 2 ^ l := by
  have h2 : 1 ≤ (2 : Nat) ^ l := Nat.one_le_two_pow
  have h3 : (2 : Int) ^ l = ((2 ^ l : Nat) : Int) := by rw [Int.natCast_pow]; rfl
  rw [h3]
  omega
theorem bA (w : World) (o : Obj) : Below w.heap.size w (w.alloc o) := (Below.refl _ w).alloc (Nat.le_refl _) o
theorem bD {B : Nat} {u w : World} (h : Below B u w) (n : Nat) : Below B u (w.drewN n) := ⟨h.os, h.tape, h.output, h.size, h.block⟩

theorem cutOk_zero {o l : Int} (h : cutOk o l) : setOk o l 0 := ⟨h, by have := pow_ge1 l.toNat; omega⟩

set_option maxHeartbeats 400000 in
theorem Check_any (o l p : Int) (w : World) (ho : In64 o) (hl : In64 l) (hp : 0 ≤ p ∧ p < 65536) :
    Calls Tryd.prog 38 #[PS o l p] w fun e w' => e = .returned (.int .i64 (if setOk o l p then 0 else 90)) ∧ Below w.heap.size w w' := by
  obtain ⟨ho1, ho2⟩ := ho
  obtain ⟨hl1, hl2⟩ := hl
  have hB := bA w (Obj.cells #[.int .i64 o, .int .i64 l, .int .u16 p] 34)
  by_cases h1 : 0 ≤ o ∧ o ≤ 15
  · by_cases h2 : 0 ≤ l ∧ l ≤ 16 - o
    · obtain ⟨n, rfl⟩ := Int.eq_ofNat_of_zero_le h2.1
      have k1 := pow_le16 (l := n) (by omega)
      have k2 := pow_ge1 n
      by_cases h3 : p < 2 ^ n
      · rw [if_pos (show setOk o n p from ⟨⟨h1.1, h1.2, h2.1, h2.2⟩, by simpa using h3⟩)]
        go_enter Tryd.func38, Tryd.ntmps38
        go_wp2
        go_quiet (fail)
        go_wp2
        go_ret
        exact ⟨rfl, bD hB _⟩
      · rw [if_neg (show ¬ setOk o n p from fun h => h3 (by simpa using h.2))]
        go_enter Tryd.func38, Tryd.ntmps38
        go_wp2
        go_quiet (fail)
        go_wp2
        go_ret
        exact ⟨rfl, bD hB _⟩
    · rw [if_neg (show ¬ setOk o l p from fun h => h2 h.1.2.2)]
      go_enter Tryd.func38, Tryd.ntmps38
      go_wp2
      all_goals
        go_ret
        exact ⟨rfl, hB⟩
  · rw [if_neg (show ¬ setOk o l p from fun h => h1 ⟨h.1.1, h.1.2.1⟩)]
    go_enter Tryd.func38, Tryd.ntmps38
    go_wp2
    all_goals
      go_ret
      exact ⟨rfl, hB⟩

set_option maxHeartbeats 1000000 in
theorem Right_any (o l p : Int) (w : World) (ho : In64 o) (hl : In64 l) (hp : 0 ≤ p ∧ p < 65536) :
    Calls Tryd.prog 73 #[PS o l p] w fun e w' => e = .returned (.bool (decide (setOk o l p))) ∧ Below w.heap.size w w' := by
  obtain ⟨ho1, ho2⟩ := ho
  obtain ⟨hl1, hl2⟩ := hl
  have hB := bA w (Obj.cells #[.int .i64 o, .int .i64 l, .int .u16 p] 34)
  by_cases h1 : 0 ≤ o
  · by_cases h2 : o ≤ 15
    · by_cases h3 : 0 ≤ l
      · by_cases h4 : l ≤ 16 - o
        · obtain ⟨n, rfl⟩ := Int.eq_ofNat_of_zero_le h3
          have k1 := pow_le16 (l := n) (by omega)
          have k2 := pow_ge1 n
          by_cases h5 : p < 2 ^ n
          · rw [decide_eq_true (show setOk o n p from ⟨⟨h1, h2, h3, h4⟩, by simpa using h5⟩)]
            go_enter Tryd.func73, Tryd.ntmps73
            go_wp2
            go_quiet (fail)
            go_wp2
            go_ret
            exact ⟨by simp [*], bD hB _⟩
          · rw [decide_eq_false (show ¬ setOk o n p from fun h => h5 (by simpa using h.2))]
            go_enter Tryd.func73, Tryd.ntmps73
            go_wp2
            go_quiet (fail)
            go_wp2
            go_ret
            exact ⟨by simp [*], bD hB _⟩
        · rw [decide_eq_false (show ¬ setOk o l p from fun h => h4 h.1.2.2.2)]
          have d4 : decide (l ≤ 16 - o) = false := decide_eq_false h4
          go_enter Tryd.func73, Tryd.ntmps73
          go_wp2
          go_quiet (fail)
          go_wp2
          go_ret
          exact ⟨by simp [*], bD hB _⟩
      · rw [decide_eq_false (show ¬ setOk o l p from fun h => h3 h.1.2.2.1)]
        have d3 : decide (0 ≤ l) = false := decide_eq_false h3
        go_enter Tryd.func73, Tryd.ntmps73
        go_wp2
        go_quiet (fail)
        go_wp2
        go_ret
        exact ⟨by simp [*], bD hB _⟩
    · rw [decide_eq_false (show ¬ setOk o l p from fun h => h2 h.1.2.1)]
      have d2 : decide (o ≤ 15) = false := decide_eq_false h2
      go_enter Tryd.func73, Tryd.ntmps73
      go_wp2
      go_quiet (fail)
      go_wp2
      go_ret
      exact ⟨by simp [*], bD hB _⟩
  · rw [decide_eq_false (show ¬ setOk o l p from fun h => h1 h.1.1)]
    have d1 : decide (0 ≤ o) = false := decide_eq_false h1
    go_enter Tryd.func73, Tryd.ntmps73
    go_wp2
    go_quiet (fail)
    go_wp2
    go_ret
    exact ⟨by simp [*], bD hB _⟩

end Go.Proofs.YtloadmpappjceaaDoor

namespace Go.Proofs.YtloadmpappjceaaDoor
open Go Go.RowKit
set_option linter.unusedVariables false
set_option linter.unusedSimpArgs false

/-- Whose a port is, and whether it is somebody's. -/
def isOnes (o n : Nat) : Prop := o = 0 ∨ n / 2 ^ (16 - o) ≠ 0
instance (o n : Nat) : Decidable (isOnes o n) := by unfold isOnes; infer_instance
def pidN (o l n : Nat) : Nat := n / 2 ^ (16 - o - l) % 2 ^ l
abbrev OfE (p : Int) (b : Bool) (e : Int) : Value := .tuple #[.int .u16 p, .bool b, .int .i64 e]

theorem cast_shr (n k : Nat) : ((n : Int) / 2 ^ k) = ((n / 2 ^ k : Nat) : Int) := by rw [Int.natCast_ediv, Int.natCast_pow]; rfl
theorem pid_eq (o l n : Nat) (ho : o ≤ 15) (hl : l ≤ 16 - o) : n * 2 ^ o % 65536 / 2 ^ (16 - l) = pidN o l n := by
  unfold pidN
  have e1 : 65536 = 2 ^ (16 - o) * 2 ^ o := by rw [← Nat.pow_add, show 16 - o + o = 16 by omega]
  have e2 : 2 ^ (16 - l) = 2 ^ (16 - o - l) * 2 ^ o := by rw [← Nat.pow_add, show 16 - o - l + o = 16 - l by omega]
  have e3 : 2 ^ (16 - o) = 2 ^ (16 - o - l) * 2 ^ l := by rw [← Nat.pow_add, show 16 - o - l + l = 16 - o by omega]
  rw [e1, e2, Nat.mul_mod_mul_right, Nat.mul_div_mul_right _ _ (Nat.two_pow_pos o), e3, Nat.mod_mul_right_div_self]
theorem wrap_u16 (x : Nat) : IntKind.u16.wrap (x : Int) = ((x % 65536 : Nat) : Int) := by
  simp [IntKind.wrap, IntKind.bits, IntKind.signed]
theorem pid_cast (o l n : Nat) (ho : o ≤ 15) (hl : l ≤ 16 - o) : IntKind.u16.wrap ((n : Int) * 2 ^ o) / 2 ^ (16 - l) = ((pidN o l n : Nat) : Int) := by
  have e : (n : Int) * 2 ^ o = ((n * 2 ^ o : Nat) : Int) := by rw [Int.natCast_mul, Int.natCast_pow]; rfl
  rw [e, wrap_u16, cast_shr, pid_eq o l n ho hl]
theorem pid_ref (o l n : Nat) (hl : l ≤ 16) : IntKind.u16.wrap (((n : Int) / 2 ^ (16 - o - l)).tmod (2 ^ l)) = ((pidN o l n : Nat) : Int) := by
  have e : (2 : Int) ^ l = ((2 ^ l : Nat) : Int) := by rw [Int.natCast_pow]; rfl
  have k : 2 ^ l ≤ 65536 := Nat.pow_le_pow_right (n := 2) (j := 16) (by omega) hl
  have h := Nat.mod_lt (n / 2 ^ (16 - o - l)) (Nat.two_pow_pos l)
  rw [cast_shr, e, ← Int.ofNat_tmod, wrap_u16, Nat.mod_eq_of_lt (by omega)]
  rfl
theorem pid_lt (o l n : Nat) : pidN o l n < 2 ^ l := Nat.mod_lt _ (Nat.two_pow_pos l)
theorem pow16 {l : Nat} (h : l ≤ 16) : 2 ^ l ≤ 65536 := Nat.pow_le_pow_right (n := 2) (j := 16) (by omega) h

set_option maxHeartbeats 400000 in
theorem a_calls (o n : Nat) (w : World) (ho : o ≤ 15) (hn : n < 65536) :
    Calls Tryd.prog 74 #[.int .i64 o, .int .u16 n] w fun e w' => e = .returned (.int .i64 ((n / 2 ^ (16 - o) : Nat) : Int)) ∧ Below w.heap.size w w' := by
  obtain ⟨k, hk⟩ : ∃ k : Nat, k = 16 - o := ⟨_, rfl⟩
  have hk2 : (16 : Int) - (o : Int) = (k : Int) := by omega
  rw [← hk]
  clear hk
  go_enter Tryd.func74, Tryd.ntmps74
  go_wp2
  go_ret
  exact ⟨congrArg (fun x : Int => Ending.returned (.int .i64 x)) (cast_shr n k), Below.refl _ _⟩

def ofE (o l n : Nat) : Value := if isOnes o n then OfE (pidN o l n) true 0 else OfE 0 false 0

set_option maxHeartbeats 400000 in
theorem Of_yes (o l n : Nat) (w : World) (ho : o ≤ 15) (hl : l ≤ 16 - o) (hn : n < 65536) :
    Calls Tryd.prog 48 #[.int .i64 o, .int .i64 l, .int .u16 n] w fun e w' => e = .returned (ofE o l n) ∧ Below w.heap.size w w' := by
  have HC : Hid _ := fun W => Check_any o l 0 W ⟨by omega, by omega⟩ ⟨by omega, by omega⟩ ⟨by omega, by omega⟩
  rw [if_pos (cutOk_zero (show cutOk o l from ⟨by omega, by omega, by omega, by omega⟩))] at HC
  have HP : Hid _ := pid_cast o l n ho hl
  by_cases h0 : ¬ 0 < o
  · have e : ofE o l n = OfE (pidN o l n) true 0 := if_pos (Or.inl (by omega))
    rw [e]
    clear e
    generalize pidN o l n = r at *
    go_enter Tryd.func48, Tryd.ntmps48
    go_wp2_with fail
    refine (HC.out _).mono ?_
    rintro e w2 ⟨rfl, hB2⟩
    go_wp2
    all_goals first
      | (exfalso; omega)
      | (go_returns; exact ⟨by rw [← HP.out]; rfl, hB2⟩)
  · have h0 : 0 < o := by omega
    by_cases h1 : n / 2 ^ (16 - o) = 0
    · have e : ofE o l n = OfE 0 false 0 := if_neg (fun h => h.elim (by omega) (fun k => k h1))
      rw [e]
      have h2 : ((n : Int) / 2 ^ (16 - o) == 0) = true := by rw [cast_shr, h1]; rfl
      clear e h1
      go_enter Tryd.func48, Tryd.ntmps48
      go_wp2_with fail
      refine (HC.out _).mono ?_
      rintro e w2 ⟨rfl, hB2⟩
      go_wp2
      all_goals first
        | (exfalso; omega)
        | (go_returns; exact ⟨rfl, hB2⟩)
    · have e : ofE o l n = OfE (pidN o l n) true 0 := if_pos (Or.inr h1)
      rw [e]
      have h2 : ((n : Int) / 2 ^ (16 - o) == 0) = false := by rw [cast_shr]; exact beq_eq_false_iff_ne.2 (fun k => h1 (Int.ofNat.inj k))
      clear e h1
      generalize pidN o l n = r at *
      go_enter Tryd.func48, Tryd.ntmps48
      go_wp2_with fail
      refine (HC.out _).mono ?_
      rintro e w2 ⟨rfl, hB2⟩
      go_wp2
      all_goals first
        | (exfalso; omega)
        | (go_returns; exact ⟨by rw [← HP.out]; rfl, hB2⟩)

set_option maxHeartbeats 400000 in
theorem Of_no (o l : Int) (n : Nat) (w : World) (ho : In64 o) (hl : In64 l) (h : ¬ cutOk o l) :
    Calls Tryd.prog 48 #[.int .i64 o, .int .i64 l, .int .u16 n] w fun e w' => e = .returned (OfE 0 false 90) ∧ Below w.heap.size w w' := by
  have HC : Hid _ := fun W => Check_any o l 0 W ho hl ⟨by omega, by omega⟩
  rw [if_neg (fun k => h k.1)] at HC
  go_enter Tryd.func48, Tryd.ntmps48
  go_wp2_with fail
  refine (HC.out _).mono ?_
  rintro e w2 ⟨rfl, hB2⟩
  go_wp2
  go_returns
  exact ⟨rfl, hB2⟩

set_option maxHeartbeats 400000 in
theorem ROf_no (o l : Int) (n : Nat) (w : World) (ho : In64 o) (hl : In64 l) (h : ¬ cutOk o l) :
    Calls Tryd.prog 51 #[.int .i64 o, .int .i64 l, .int .u16 n] w fun e w' => e = .returned (OfE 0 false 90) ∧ Below w.heap.size w w' := by
  have HC : Hid _ := fun W => Right_any o l 0 W ho hl ⟨by omega, by omega⟩
  rw [decide_eq_false (fun k => h k.1)] at HC
  go_enter Tryd.func51, Tryd.ntmps51
  go_wp2_with fail
  refine (HC.out _).mono ?_
  rintro e w2 ⟨rfl, hB2⟩
  go_wp2
  go_returns
  exact ⟨rfl, hB2⟩

set_option maxHeartbeats 400000 in
theorem ROf_yes (o l n : Nat) (w : World) (ho : o ≤ 15) (hl : l ≤ 16 - o) (hn : n < 65536) :
    Calls Tryd.prog 51 #[.int .i64 o, .int .i64 l, .int .u16 n] w fun e w' => e = .returned (ofE o l n) ∧ Below w.heap.size w w' := by
  have HC : Hid _ := fun W => Right_any o l 0 W ⟨by omega, by omega⟩ ⟨by omega, by omega⟩ ⟨by omega, by omega⟩
  rw [decide_eq_true (cutOk_zero (show cutOk o l from ⟨by omega, by omega, by omega, by omega⟩))] at HC
  have HA : Hid _ := fun W => a_calls o n W ho hn
  have HP : Hid _ := pid_ref o l n (by omega)
  have k1 := pow_le16 (l := l) (by omega)
  have k2 := pow_ge1 l
  by_cases h0 : ¬ 0 < o
  · have e : ofE o l n = OfE (pidN o l n) true 0 := if_pos (Or.inl (by omega))
    rw [e]
    clear e
    generalize pidN o l n = r at *
    go_enter Tryd.func51, Tryd.ntmps51
    go_wp2_with fail
    refine (HC.out _).mono ?_
    rintro e w2 ⟨rfl, hB2⟩
    go_wp2
    go_quiet (fail)
    go_wp2
    go_returns
    exact ⟨by rw [← HP.out]; rfl, bD hB2 _⟩
  · have h0 : 0 < o := by omega
    by_cases h1 : n / 2 ^ (16 - o) = 0
    · have e : ofE o l n = OfE 0 false 0 := if_neg (fun h => h.elim (by omega) (fun k => k h1))
      rw [e]
      rw [h1] at HA
      clear e h1
      go_enter Tryd.func51, Tryd.ntmps51
      go_wp2_with fail
      refine (HC.out _).mono ?_
      rintro e w2 ⟨rfl, hB2⟩
      go_wp2_with fail
      refine (HA.out _).mono ?_
      rintro e w3 ⟨rfl, hB3⟩
      go_wp2
      go_returns
      exact ⟨rfl, hB2.trans (hB3.mono hB2.size)⟩
    · have e : ofE o l n = OfE (pidN o l n) true 0 := if_pos (Or.inr h1)
      rw [e]
      have h2 : (((n / 2 ^ (16 - o) : Nat) : Int) == 0) = false := beq_eq_false_iff_ne.2 (fun k => h1 (Int.ofNat.inj k))
      clear e h1
      generalize pidN o l n = r at *
      generalize n / 2 ^ (16 - o) = q at *
      go_enter Tryd.func51, Tryd.ntmps51
      go_wp2_with fail
      refine (HC.out _).mono ?_
      rintro e w2 ⟨rfl, hB2⟩
      go_wp2_with fail
      refine (HA.out _).mono ?_
      rintro e w3 ⟨rfl, hB3⟩
      go_wp2
      go_quiet (fail)
      go_wp2
      go_returns
      exact ⟨by rw [← HP.out]; rfl, bD (hB2.trans (hB3.mono hB2.size)) _⟩

def hasN (o l p n : Nat) : Prop := isOnes o n ∧ pidN o l n = p
instance (o l p n : Nat) : Decidable (hasN o l p n) := by unfold hasN; infer_instance
abbrev HasE (b : Bool) (e : Int) : Value := .tuple #[.bool b, .int .i64 e]

set_option maxHeartbeats 400000 in
theorem Has_no (o l p : Int) (n : Nat) (w : World) (ho : In64 o) (hl : In64 l) (hp : 0 ≤ p ∧ p < 65536) (hs : ¬ setOk o l p) :
    Calls Tryd.prog 52 #[PS o l p, .int .u16 n] w fun e w' => e = .returned (HasE false 90) ∧ Below w.heap.size w w' := by
  have HC : Hid _ := fun W => Check_any o l p W ho hl hp
  rw [if_neg hs] at HC
  have hB := bA w (Obj.cells #[.int .i64 o, .int .i64 l, .int .u16 p] 34)
  clear hs
  go_enter Tryd.func52, Tryd.ntmps52
  go_wp2_with fail
  refine (HC.out _).mono ?_
  rintro e w2 ⟨rfl, hB2⟩
  go_wp2
  go_returns
  exact ⟨rfl, hB.trans (hB2.mono hB.size)⟩

set_option maxHeartbeats 400000 in
theorem Has_yes (o l p n : Nat) (w : World) (ho : o ≤ 15) (hl : l ≤ 16 - o) (hp : p < 2 ^ l) (hn : n < 65536) :
    Calls Tryd.prog 52 #[PS o l p, .int .u16 n] w fun e w' => e = .returned (HasE (decide (hasN o l p n)) 0) ∧ Below w.heap.size w w' := by
  have hp2 := pow16 (l := l) (by omega)
  have hs : setOk o l p := ⟨⟨by omega, by omega, by omega, by omega⟩, by rw [Int.toNat_natCast]; exact_mod_cast hp⟩
  have HC : Hid _ := fun W => Check_any o l p W ⟨by omega, by omega⟩ ⟨by omega, by omega⟩ ⟨by omega, by omega⟩
  rw [if_pos hs] at HC
  have HO : Hid _ := fun W => Of_yes o l n W ho hl hn
  have hB := bA w (Obj.cells #[.int .i64 o, .int .i64 l, .int .u16 p] 34)
  have hc := blk_new w (Obj.cells #[.int .i64 o, .int .i64 l, .int .u16 p] 34)
  have hz : w.heap.size < (w.alloc (Obj.cells #[.int .i64 o, .int .i64 l, .int .u16 p] 34)).heap.size := by simp
  have hv : ∀ W, Below (w.alloc (Obj.cells #[.int .i64 o, .int .i64 l, .int .u16 p] 34)).heap.size (w.alloc (Obj.cells #[.int .i64 o, .int .i64 l, .int .u16 p] 34)) W → W.cell? ⟨w.heap.size, 0, none⟩ = some (.int .i64 o) ∧ W.cell? ⟨w.heap.size, 1, none⟩ = some (.int .i64 l) ∧ W.cell? ⟨w.heap.size, 2, none⟩ = some (.int .u16 p) := by
    intro W h
    have hk := (h.block _ hz).trans hc
    simp [World.cell?, hk]
  have HV : Hid _ := hv
  clear hs hc hz hv hp2
  by_cases h1 : isOnes o n
  · have e : ofE o l n = OfE (pidN o l n) true 0 := if_pos h1
    have e2 : decide (hasN o l p n) = ((pidN o l n : Int) == (p : Int)) := by
      rw [Bool.eq_iff_iff, decide_eq_true_eq, beq_iff_eq]
      exact ⟨fun h => by rw [h.2], fun h => ⟨h1, Int.ofNat.inj h⟩⟩
    rw [e] at HO
    rw [e2]
    clear e e2 h1
    generalize pidN o l n = r at *
    go_enter Tryd.func52, Tryd.ntmps52
    go_wp2_with fail
    refine (HC.out _).mono ?_
    rintro e w2 ⟨rfl, hB2⟩
    obtain ⟨c0, c1, c2⟩ := HV.out _ hB2
    go_wp2_with fail
    refine (HO.out _).mono ?_
    rintro e w3 ⟨rfl, hB3⟩
    obtain ⟨d0, d1, d2⟩ := HV.out _ (hB2.trans (hB3.mono hB2.size))
    go_wp2
    go_returns
    exact ⟨rfl, (hB.trans (hB2.mono hB.size)).trans (hB3.mono (Nat.le_trans hB.size hB2.size))⟩
  · have e : ofE o l n = OfE 0 false 0 := if_neg h1
    have e2 : decide (hasN o l p n) = false := decide_eq_false (fun h => h1 h.1)
    rw [e] at HO
    rw [e2]
    clear e e2 h1
    go_enter Tryd.func52, Tryd.ntmps52
    go_wp2_with fail
    refine (HC.out _).mono ?_
    rintro e w2 ⟨rfl, hB2⟩
    obtain ⟨c0, c1, c2⟩ := HV.out _ hB2
    go_wp2_with fail
    refine (HO.out _).mono ?_
    rintro e w3 ⟨rfl, hB3⟩
    go_wp2
    go_returns
    exact ⟨rfl, (hB.trans (hB2.mono hB.size)).trans (hB3.mono (Nat.le_trans hB.size hB2.size))⟩

set_option maxHeartbeats 400000 in
theorem RHas_no (o l p : Int) (n : Nat) (w : World) (ho : In64 o) (hl : In64 l) (hp : 0 ≤ p ∧ p < 65536) (hs : ¬ setOk o l p) :
    Calls Tryd.prog 53 #[PS o l p, .int .u16 n] w fun e w' => e = .returned (HasE false 90) ∧ Below w.heap.size w w' := by
  have HC : Hid _ := fun W => Right_any o l p W ho hl hp
  rw [decide_eq_false hs] at HC
  have hB := bA w (Obj.cells #[.int .i64 o, .int .i64 l, .int .u16 p] 34)
  clear hs
  go_enter Tryd.func53, Tryd.ntmps53
  go_wp2_with fail
  refine (HC.out _).mono ?_
  rintro e w2 ⟨rfl, hB2⟩
  go_wp2
  go_returns
  exact ⟨rfl, hB.trans (hB2.mono hB.size)⟩

set_option maxHeartbeats 400000 in
theorem RHas_yes (o l p n : Nat) (w : World) (ho : o ≤ 15) (hl : l ≤ 16 - o) (hp : p < 2 ^ l) (hn : n < 65536) :
    Calls Tryd.prog 53 #[PS o l p, .int .u16 n] w fun e w' => e = .returned (HasE (decide (hasN o l p n)) 0) ∧ Below w.heap.size w w' := by
  have hp2 := pow16 (l := l) (by omega)
  have hs : setOk o l p := ⟨⟨by omega, by omega, by omega, by omega⟩, by rw [Int.toNat_natCast]; exact_mod_cast hp⟩
  have HC : Hid _ := fun W => Right_any o l p W ⟨by omega, by omega⟩ ⟨by omega, by omega⟩ ⟨by omega, by omega⟩
  rw [decide_eq_true hs] at HC
  have HO : Hid _ := fun W => ROf_yes o l n W ho hl hn
  have hB := bA w (Obj.cells #[.int .i64 o, .int .i64 l, .int .u16 p] 34)
  have hc := blk_new w (Obj.cells #[.int .i64 o, .int .i64 l, .int .u16 p] 34)
  have hz : w.heap.size < (w.alloc (Obj.cells #[.int .i64 o, .int .i64 l, .int .u16 p] 34)).heap.size := by simp
  have hv : ∀ W, Below (w.alloc (Obj.cells #[.int .i64 o, .int .i64 l, .int .u16 p] 34)).heap.size (w.alloc (Obj.cells #[.int .i64 o, .int .i64 l, .int .u16 p] 34)) W → W.cell? ⟨w.heap.size, 0, none⟩ = some (.int .i64 o) ∧ W.cell? ⟨w.heap.size, 1, none⟩ = some (.int .i64 l) ∧ W.cell? ⟨w.heap.size, 2, none⟩ = some (.int .u16 p) := by
    intro W h
    have hk := (h.block _ hz).trans hc
    simp [World.cell?, hk]
  have HV : Hid _ := hv
  clear hs hc hz hv hp2
  by_cases h1 : isOnes o n
  · have e : ofE o l n = OfE (pidN o l n) true 0 := if_pos h1
    have e2 : decide (hasN o l p n) = ((pidN o l n : Int) == (p : Int)) := by
      rw [Bool.eq_iff_iff, decide_eq_true_eq, beq_iff_eq]
      exact ⟨fun h => by rw [h.2], fun h => ⟨h1, Int.ofNat.inj h⟩⟩
    rw [e] at HO
    rw [e2]
    clear e e2 h1
    generalize pidN o l n = r at *
    go_enter Tryd.func53, Tryd.ntmps53
    go_wp2_with fail
    refine (HC.out _).mono ?_
    rintro e w2 ⟨rfl, hB2⟩
    obtain ⟨c0, c1, c2⟩ := HV.out _ hB2
    go_wp2_with fail
    refine (HO.out _).mono ?_
    rintro e w3 ⟨rfl, hB3⟩
    obtain ⟨d0, d1, d2⟩ := HV.out _ (hB2.trans (hB3.mono hB2.size))
    go_wp2
    go_returns
    exact ⟨rfl, (hB.trans (hB2.mono hB.size)).trans (hB3.mono (Nat.le_trans hB.size hB2.size))⟩
  · have e : ofE o l n = OfE 0 false 0 := if_neg h1
    have e2 : decide (hasN o l p n) = false := decide_eq_false (fun h => h1 h.1)
    rw [e] at HO
    rw [e2]
    clear e e2 h1
    go_enter Tryd.func53, Tryd.ntmps53
    go_wp2_with fail
    refine (HC.out _).mono ?_
    rintro e w2 ⟨rfl, hB2⟩
    obtain ⟨c0, c1, c2⟩ := HV.out _ hB2
    go_wp2_with fail
    refine (HO.out _).mono ?_
    rintro e w3 ⟨rfl, hB3⟩
    go_wp2
    go_returns
    exact ⟨rfl, (hB.trans (hB2.mono hB.size)).trans (hB3.mono (Nat.le_trans hB.size hB2.size))⟩

end Go.Proofs.YtloadmpappjceaaDoor

namespace Go.Proofs.YtloadmpappjceaaDoor
open Go Go.RowKit Fld
set_option linter.unusedVariables false
set_option linter.unusedSimpArgs false

theorem bk_acc (zs : List Int) (p n j : Nat) (h : j < n) : bk (accN zs p n) (n - 1 - j) = bitN zs (p + j) := by
  induction n with
  | zero => omega
  | succ n ih =>
    have hb := bitN_lt zs (p + n)
    rw [accN]
    by_cases c : j = n
    · subst c
      rw [show j + 1 - 1 - j = 0 by omega]
      unfold bk
      simp
      omega
    · have hi := ih (by omega)
      rw [show n + 1 - 1 - j = (n - 1 - j) + 1 by omega]
      unfold bk at hi ⊢
      rw [Nat.pow_succ, Nat.mul_comm (2 ^ (n - 1 - j)) 2, ← Nat.div_div_eq_div_mul, show (2 * accN zs p n + bitN zs (p + n)) / 2 = accN zs p n by omega]
      exact hi

theorem bk_zero (k : Nat) : bk 0 k = 0 := by simp [bk]
theorem bk_ext {a b n : Nat} (ha : a < 2 ^ n) (hb : b < 2 ^ n) (h : ∀ j, j < n → bk a (n - 1 - j) = bk b (n - 1 - j)) : a = b := by
  induction n generalizing a b with
  | zero => simp at ha hb; omega
  | succ n ih =>
    have h0 := h n (by omega)
    rw [show n + 1 - 1 - n = 0 by omega] at h0
    have h1 : a / 2 = b / 2 := by
      refine ih (by rw [Nat.pow_succ] at ha; omega) (by rw [Nat.pow_succ] at hb; omega) fun j hj => ?_
      have := h j (by omega)
      rw [show n + 1 - 1 - j = (n - 1 - j) + 1 by omega] at this
      unfold bk at this ⊢
      rw [Nat.pow_succ, Nat.mul_comm (2 ^ (n - 1 - j)) 2, ← Nat.div_div_eq_div_mul, ← Nat.div_div_eq_div_mul] at this
      exact this
    unfold bk at h0
    simp at h0
    omega
/-- The bits of a number cut in two. -/
theorem bk_div (v q k : Nat) : bk (v / 2 ^ q) k = bk v (k + q) := by
  unfold bk
  rw [Nat.div_div_eq_div_mul, ← Nat.pow_add, Nat.add_comm q k]
theorem bk_mod (v q k : Nat) (h : k < q) : bk (v % 2 ^ q) k = bk v k := by
  unfold bk
  rw [show q = k + (q - k) by omega, Nat.pow_add, Nat.mod_mul_right_div_self]
  rw [show q - k = (q - k - 1) + 1 by omega, Nat.pow_succ, Nat.mul_comm, Nat.mod_mul_right_mod]
theorem bk_small {v n k : Nat} (h : v < 2 ^ n) (hk : n ≤ k) : bk v k = 0 := by
  unfold bk
  have : v < 2 ^ k := Nat.lt_of_lt_of_le h (Nat.pow_le_pow_right (by decide) hk)
  rw [Nat.div_eq_of_lt this]

/-- Bytes, and zeros behind them. -/
def padL (bs : List Int) (n : Nat) : List Int := bs ++ List.replicate (n - bs.length) 0
theorem padL_length (bs : List Int) (n : Nat) (h : bs.length ≤ n) : (padL bs n).length = n := by simp [padL]; omega
theorem padL_fit {bs : List Int} (h : FitB bs) (n : Nat) : FitB (padL bs n) := by
  intro z hz
  rcases List.mem_append.1 hz with hz | hz
  · exact h z hz
  · have := List.eq_of_mem_replicate hz; subst this; decide
theorem bitN_padL (bs : List Int) (n q : Nat) : bitN (padL bs n) q = bitN bs q := by
  unfold bitN padL
  by_cases c : q / 8 < bs.length
  · rw [List.getElem?_append_left c]
  · rw [List.getElem?_append_right (by omega), List.getElem?_replicate, List.getElem?_eq_none (l := bs) (by omega)]
    split <;> rfl

theorem cat_at (n v : Nat) (L : List Nat) (q : Nat) : (runBits n v ++ L)[q]?.getD 0 = if q < n then bk v (n - 1 - q) else L[q - n]?.getD 0 := by
  by_cases c : q < n
  · rw [if_pos c, List.getElem?_append_left (by simpa [runBits] using c)]
    simp [runBits, c]
  · rw [if_neg c, List.getElem?_append_right (by simp [runBits]; omega)]
    simp [runBits]
theorem run_at (n v q : Nat) : (runBits n v)[q]?.getD 0 = if q < n then bk v (n - 1 - q) else 0 := by
  have := cat_at n v [] q
  simpa using this

/-- The runs of bits of an edge's prefix or address. -/
theorem cat2_bits (a b : Nat) (u v : Nat) (q : Nat) : bitN (catRow [((a : Int), u), ((b : Int), v)] (a + b) 2) q = if q < a then bk u (a - 1 - q) else if q - a < b then bk v (b - 1 - (q - a)) else 0 := by
  rw [bitN_catRow _ _ _ _ (by simp [total, rN])]
  simp only [catBits, rN, rV, List.nil_append, List.getElem?_cons_zero, List.getElem?_cons_succ, Option.getD_some, Int.toNat_natCast]
  rw [cat_at, run_at]
theorem cat6_bits (a b c : Nat) (u v x y : Nat) (q : Nat) (h : a + b + c = 64) : bitN (catRow [((a : Int), u), ((b : Int), v), ((c : Int), 0), (16, 0), (32, x), (16, y)] 128 6) q = if q < a then bk u (a - 1 - q) else if q - a < b then bk v (b - 1 - (q - a)) else if 80 ≤ q ∧ q < 112 then bk x (31 - (q - 80)) else if 112 ≤ q ∧ q < 128 then bk y (15 - (q - 112)) else 0 := by
  rw [bitN_catRow _ _ _ _ (by simp [total, rN]; omega)]
  simp only [catBits, rN, rV, List.nil_append, List.getElem?_cons_zero, List.getElem?_cons_succ, Option.getD_some, Int.toNat_natCast, List.append_assoc]
  rw [cat_at, cat_at, cat_at, cat_at, cat_at, run_at]
  simp only [bk_zero, show ((16 : Int)).toNat = 16 from rfl, show ((32 : Int)).toNat = 32 from rfl]
  by_cases c1 : q < a
  · rw [if_pos c1, if_pos c1]
  · rw [if_neg c1, if_neg c1]
    by_cases c2 : q - a < b
    · rw [if_pos c2, if_pos c2]
    · rw [if_neg c2, if_neg c2]
      by_cases c3 : q - a - b < c
      · rw [if_pos c3, if_neg (by omega), if_neg (by omega)]
      · rw [if_neg c3]
        by_cases c4 : q - a - b - c < 16
        · rw [if_pos c4, if_neg (by omega), if_neg (by omega)]
        · rw [if_neg c4]
          by_cases c5 : q - a - b - c - 16 < 32
          · rw [if_pos c5, if_pos (by omega)]
            congr 1
            omega
          · rw [if_neg c5]
            by_cases c6 : q - a - b - c - 16 - 32 < 16
            · rw [if_pos c6, if_neg (by omega), if_pos (by omega)]
              congr 1
              omega
            · rw [if_neg c6, if_neg (by omega), if_neg (by omega)]

end Go.Proofs.YtloadmpappjceaaDoor

namespace Go.Proofs.YtloadmpappjceaaDoor
open Go Go.RowKit
set_option linter.unusedVariables false
set_option linter.unusedSimpArgs false

/-- A rule. -/
structure Ru where
  l6 : List Int
  n6 : Int
  l4 : List Int
  n4 : Int
  ea : Int
  off : Int
  fmr : Bool
structure Ru.In (r : Ru) : Prop where
  f6 : FitB r.l6
  k6 : r.l6.length = 16
  b6 : In64 r.n6
  f4 : FitB r.l4
  k4 : r.l4.length = 4
  b4 : In64 r.n4
  be : In64 r.ea
  bo : In64 r.off
def rt (r : Ru) : List Value := [.int .i64 r.ea, .int .i64 r.off, .bool r.fmr]
def rc (r : Ru) : List Value := cp6 r.l6 r.n6 ++ (cp4 r.l4 r.n4 ++ rt r)
abbrev RV (r : Ru) : Value := .agg (rc r).toArray
abbrev RO (r : Ru) : Obj := .cells (rc r).toArray 31
theorem rc_length {r : Ru} (h : r.In) : (rc r).length = 25 := by simp [rc, rt, cp6_length _ _ h.k6, cp4_length _ _ h.k4]
theorem rc_one (r : Ru) : ∀ v ∈ rc r, v.oneCell' = true := by
  intro v hv
  rcases List.mem_append.1 hv with hv | hv
  · exact cp6_one _ _ v hv
  · rcases List.mem_append.1 hv with hv | hv
    · exact cp4_one _ _ v hv
    · simp [rt] at hv; rcases hv with rfl | rfl | rfl <;> rfl

/-- What lies in a rule's box. -/
structure RuAt (W : World) (b : Nat) (r : Ru) : Prop where
  ldR : (Instr.loadAt 31 (.pointer (some ⟨b, 0, none⟩))).run Tryd.prog W = .ok (RV r) W
  ld6 : (Instr.loadAt 25 (.pointer (some ⟨b, 0, none⟩))).run Tryd.prog W = .ok (P6 r.l6 r.n6) W
  ld4 : (Instr.loadAt 29 (.pointer (some ⟨b, 17, none⟩))).run Tryd.prog W = .ok (P4L r.l4 r.n4) W
  la6 : (Instr.loadAt 23 (.pointer (some ⟨b, 0, none⟩))).run Tryd.prog W = .ok (A6 r.l6) W
  la4 : (Instr.loadAt 27 (.pointer (some ⟨b, 17, none⟩))).run Tryd.prog W = .ok (A4L r.l4) W
  c16 : W.cell? ⟨b, 16, none⟩ = some (.int .i64 r.n6)
  c21 : W.cell? ⟨b, 21, none⟩ = some (.int .i64 r.n4)
  c22 : W.cell? ⟨b, 22, none⟩ = some (.int .i64 r.ea)
  c23 : W.cell? ⟨b, 23, none⟩ = some (.int .i64 r.off)
  s6 : CellsAt W b 0 (u8s r.l6)
  s4 : CellsAt W b 17 (b8 r.l4)

theorem RuAt.of {W : World} {b : Nat} {r : Ru} (hr : r.In) (h : W.heap[b]? = some (RO r)) : RuAt W b r := by
  have h0 : CellsAt W b 0 (rc r) := CellsAt.of_blk h
  have l6 := cp6_length r.l6 r.n6 hr.k6
  have l4 := cp4_length r.l4 r.n4 hr.k4
  have u6 : (u8s r.l6).length = 16 := by rw [u8s_length, hr.k6]
  have u4 : (b8 r.l4).length = 4 := by rw [b8_length, hr.k4]
  have h6 : CellsAt W b 0 (cp6 r.l6 r.n6) := CellsAt.fst h0
  have h4 : CellsAt W b 17 (cp4 r.l4 r.n4) := by
    have := CellsAt.part (xs := cp6 r.l6 r.n6) (ys := cp4 r.l4 r.n4) (zs := rt r) h0
    rwa [l6] at this
  have h3 : CellsAt W b 22 (rt r) := by
    have e : rc r = (cp6 r.l6 r.n6 ++ cp4 r.l4 r.n4) ++ (rt r ++ []) := by simp [rc]
    rw [e] at h0
    have := CellsAt.part h0
    simpa [l6, l4] using this
  refine ⟨agg_load Tryd.isAgg31 Tryd.sizeOf31 (rc_length hr) h0, loadP6 hr.k6 h6, agg_load Tryd.isAgg29 Tryd.sizeOf29 l4 h4, load6 hr.k6 (CellsAt.fst h6), agg_load Tryd.isAgg27 Tryd.sizeOf27 u4 (CellsAt.fst h4), ?_, ?_, ?_, ?_, CellsAt.fst h6, CellsAt.fst h4⟩
  · have := h6 16 _ (cp6_get _ _ hr.k6)
    simpa using this
  · have := h4 4 (.int .i64 r.n4) (by simp [cp4, u4])
    simpa using this
  · exact h3 0 _ rfl
  · exact h3 1 _ rfl
theorem Ru.up {W W' : World} {b : Nat} {r : Ru} (h : W.heap[b]? = some (RO r)) (hb : Below W.heap.size W W') : W'.heap[b]? = some (RO r) := blk_on h hb

/-- How many EA bits stand behind V4's, and how many are a PSID. -/
def hB (r : Ru) : Int := min r.ea (32 - r.n4)
def qB (r : Ru) : Int := r.ea - hB r
structure Ru.Mid (r : Ru) : Prop where
  n4 : 0 ≤ r.n4 ∧ r.n4 ≤ 32
  ea : 0 ≤ r.ea ∧ r.ea ≤ 48
theorem hB_le {r : Ru} (h : r.Mid) : 0 ≤ hB r ∧ hB r ≤ 32 ∧ hB r ≤ r.ea ∧ hB r ≤ 32 - r.n4 := by
  have := h.n4; have := h.ea
  unfold hB
  omega
theorem qB_le {r : Ru} (h : r.Mid) : 0 ≤ qB r ∧ qB r ≤ 48 := by
  have := hB_le h; have := h.ea
  unfold qB
  omega

set_option maxHeartbeats 1000000 in
set_option maxRecDepth 100000 in
theorem hostBits_any (r : Ru) (hr : r.In) (hm : r.Mid) (w : World) :
    Calls Tryd.prog 47 #[RV r] w fun e w' => e = .returned (.int .i64 (hB r)) ∧ Below w.heap.size w w' := by
  have hB0 := bA w (RO r)
  obtain ⟨_, _, _, _, _, c16, c21, c22, c23, _, _⟩ := RuAt.of hr (blk_new w (RO r))
  generalize hW : w.alloc (RO r) = W at *
  have h1 := hm.n4
  have h2 := hm.ea
  by_cases h : r.ea ≤ 32 - r.n4
  · have e : hB r = r.ea := by unfold hB; omega
    rw [e]
    generalize r.ea = ea at *
    generalize r.n4 = n4 at *
    generalize rc r = cs at *
    go_enter Tryd.func47, Tryd.ntmps47
    go_wp2
    all_goals first
      | (exfalso; omega)
      | (go_ret; exact ⟨rfl, hB0⟩)
  · have e : hB r = 32 - r.n4 := by unfold hB; omega
    rw [e]
    generalize r.ea = ea at *
    generalize r.n4 = n4 at *
    generalize rc r = cs at *
    go_enter Tryd.func47, Tryd.ntmps47
    go_wp2
    all_goals first
      | (exfalso; omega)
      | (go_ret; exact ⟨rfl, hB0⟩)

end Go.Proofs.YtloadmpappjceaaDoor

namespace Go.Proofs.YtloadmpappjceaaDoor
open Go Go.RowKit
set_option linter.unusedVariables false
set_option linter.unusedSimpArgs false

theorem ex_loadC {o : Oper} {a : Act} {W : World} (k : Nat) {p : Addr} {x : Int} (hop : o.op = Op.load 3 (.tmp k)) (hk : a.eval (.tmp k) = .pointer (some p)) (hc : W.cell? p = some (.int .i64 x)) :
    (execOp a.eval o).run Tryd.prog W = .ok (.value (.int .i64 x)) W := by
  generalize a.eval = ev at *
  simp [execOp, hop, hk, go_sem, hc]
theorem ex_load16C {o : Oper} {a : Act} {W : World} (k : Nat) {p : Addr} {x : Int} (hop : o.op = Op.load 32 (.tmp k)) (hk : a.eval (.tmp k) = .pointer (some p)) (hc : W.cell? p = some (.int .u16 x)) :
    (execOp a.eval o).run Tryd.prog W = .ok (.value (.int .u16 x)) W := by
  generalize a.eval = ev at *
  simp [execOp, hop, hk, go_sem, hc]
theorem ex_addC {o : Oper} {a : Act} {W : World} (p q : Operand) {t : TypeId} (hop : o.op = Op.binOp .add 3 p q t) {x y : Int} (hp : a.eval p = .int .i64 x) (hq : a.eval q = .int .i64 y) (hb : -9223372036854775808 ≤ x + y ∧ x + y ≤ 9223372036854775807) : (execOp a.eval o).run Tryd.prog W = .ok (.value (.int .i64 (x + y))) W := by
  have e := wrap_i64 (x + y) hb
  generalize a.eval = ev at *
  simp [execOp, hop, hp, hq, go_sem, e]
theorem ex_cvU {o : Oper} {a : Act} {W : World} (k : Nat) {x : Int} (hop : o.op = Op.convert 32 38 (.tmp k)) (hk : a.eval (.tmp k) = .int .u16 x) (hx : 0 ≤ x ∧ x < 65536) :
    (execOp a.eval o).run Tryd.prog W = .ok (.value (.int .u64 x)) W := by
  have e : IntKind.u64.wrap x = x := by unfold IntKind.wrap; simp [IntKind.signed, IntKind.bits]; omega
  generalize a.eval = ev at *
  simp [execOp, hop, hk, go_sem, e]
theorem region_mid {P : Program} {id : Nat} {ops : Array Oper} {Q : Exit → Act → World → Prop} {a : Act} {w : World} (M : Act → Act → World → Prop) (h : (Code.region id ops true).wp P (fun e a' w' => match e with | .normal => M a a' w' | _ => False) a w) (hM : ∀ a' w', M a a' w' → Q .normal a' w') : (Code.region id ops true).wp P Q a w :=
  wp_mono h (fun e a' w' hm => by cases e <;> first | exact hM a' w' hm | exact hm.elim)
theorem all_three {P : Program} {ops : Array Oper} {Q : Exit → Act → World → Prop} {md : Region.Mode} {S : World → Prop} {i1 i2 i3 : Nat} {o1 o2 o3 : Oper} {fuel : Nat} {listed : Array Bool} {a : Act} {w : World} (hr : Region.ready md ops listed = [i1, i2, i3]) (h1 : ops[i1]? = some o1) (g1 : o1.guard = none) (h2 : ops[i2]? = some o2) (g2 : o2.guard = none) (h3 : ops[i3]? = some o3) (g3 : o3.guard = none)
    (k1 : o1.wp P a w (fun a' w' => S w' ∧ wpAnyH P md ops Q S fuel (listed.setIfInBounds i1 true) a' w') Q) (k2 : o2.wp P a w (fun a' w' => S w' ∧ wpAnyH P md ops Q S fuel (listed.setIfInBounds i2 true) a' w') Q) (k3 : o3.wp P a w (fun a' w' => S w' ∧ wpAnyH P md ops Q S fuel (listed.setIfInBounds i3 true) a' w') Q) : wpAnyH P md ops Q S (fuel + 1) listed a w := by
  refine wpAnyH_all (rs := [i1, i2, i3]) hr (by simp) ?_
  intro j hj
  simp at hj
  rcases hj with rfl | rfl | rfl
  · exact wpOp_none h1 g1 k1
  · exact wpOp_none h2 g2 k2
  · exact wpOp_none h3 g3 k3
theorem callR {P : Program} {f : FuncId} {vs : Array Value} {w : World} {v : Value} {B : World → Prop} (h : Calls P f vs w fun e w' => e = .returned v ∧ B w') : Calls P f vs w fun e w' => ∃ v', e = .returned v' ∧ (v' = v ∧ B w') :=
  h.mono fun e w' k => ⟨v, k.1, rfl, k.2⟩
/-- A store into a part of a box. -/
theorem box_part {ty ty' : TypeId} {n : Nat} {w : World} {R o : Nat} {c : List Value} (hs : ∀ w, (Go.sizeOf ty).run Tryd.prog w = .ok n w) (h : w.heap[R]? = some (.cells c.toArray ty')) (V : List Value) (hV : V.length = n) (hl : o + n ≤ c.length) (h1 : ∀ v ∈ V, v.oneCell' = true) :
    ∃ w', (Instr.storeAt ty (.pointer (some ⟨R, o, none⟩)) (.agg V.toArray)).run Tryd.prog w = .ok () w' ∧ w'.heap[R]? = some (.cells (c.take o ++ (V ++ c.drop (o + n))).toArray ty') ∧ Only R w w' := by
  refine ⟨_, agg_store hs hV h1 (fun j hj => ?_) (fun j => blk_open h j), ?_, Only.sets _ _ _ (Only.refl _ _)⟩
  · rw [blk_cell h (j := o + j) (v := c[o + j]'(by omega)) (by simp)]
    rfl
  · rw [blk_sets V o c w h, setsL_eq _ _ _ (by omega), hV, List.append_assoc]

end Go.Proofs.YtloadmpappjceaaDoor

namespace Go.Proofs.YtloadmpappjceaaDoor
open Go Go.RowKit
set_option linter.unusedVariables false
set_option linter.unusedSimpArgs false

theorem armLg {P : Program} {w : World} {ops : Array Oper} {rest : List Oper} {o : Oper} {a : Act} {Q : Exit → Act → World → Prop} (p : Operand) (t : TypeId) (hop : o.op = Op.load t p) (hw : Region.wanted o (yielded ops a.tmps) = true) {vp v : Value} (hp : a.eval p = vp) (hrun : (Instr.loadAt t vp).run P w = .ok v w) (hK : wpList P ops Q rest (a.put o.dst v) w) : wpList P ops Q (o :: rest) a w :=
  arm_load hw p t hop hp hrun hK

/-- A rule's box, in every world above. -/
structure RuHi (W : World) (b : Nat) (r : Ru) : Prop where
  ldR : ∀ x : Hi W, (Instr.loadAt 31 (.pointer (some ⟨b, 0, none⟩))).run Tryd.prog x.W = .ok (RV r) x.W
  la6 : ∀ x : Hi W, (Instr.loadAt 23 (.pointer (some ⟨b, 0, none⟩))).run Tryd.prog x.W = .ok (A6 r.l6) x.W
  la4 : ∀ x : Hi W, (Instr.loadAt 27 (.pointer (some ⟨b, 17, none⟩))).run Tryd.prog x.W = .ok (A4L r.l4) x.W
  c16 : ∀ x : Hi W, x.W.cell? ⟨b, 16, none⟩ = some (.int .i64 r.n6)
  c21 : ∀ x : Hi W, x.W.cell? ⟨b, 21, none⟩ = some (.int .i64 r.n4)
  c22 : ∀ x : Hi W, x.W.cell? ⟨b, 22, none⟩ = some (.int .i64 r.ea)
  c23 : ∀ x : Hi W, x.W.cell? ⟨b, 23, none⟩ = some (.int .i64 r.off)
theorem RuHi.of {W : World} {b : Nat} {r : Ru} (hr : r.In) (h : W.heap[b]? = some (RO r)) : RuHi W b r :=
  ⟨fun x => (RuAt.of hr (Hi.blk h x)).ldR, fun x => (RuAt.of hr (Hi.blk h x)).la6, fun x => (RuAt.of hr (Hi.blk h x)).la4, fun x => (RuAt.of hr (Hi.blk h x)).c16, fun x => (RuAt.of hr (Hi.blk h x)).c21, fun x => (RuAt.of hr (Hi.blk h x)).c22, fun x => (RuAt.of hr (Hi.blk h x)).c23⟩

set_option maxHeartbeats 1000000 in
set_option maxRecDepth 100000 in
theorem psidBits_any (r : Ru) (hr : r.In) (hm : r.Mid) (w : World) :
    Calls Tryd.prog 49 #[RV r] w fun e w' => e = .returned (.int .i64 (qB r)) ∧ Below w.heap.size w w' := by
  have hB0 := bA w (RO r)
  have hb := blk_new w (RO r)
  obtain ⟨ldR, _, _, _, _, c22, _⟩ := RuHi.of hr hb
  have HLD : Hid _ := ldR
  have HC : Hid _ := fun W => hostBits_any r hr hm W
  have h1 := hB_le hm
  have h2 := hm.ea
  have hq : qB r = r.ea - hB r := rfl
  rw [hq]
  generalize hW : w.alloc (RO r) = W at *
  clear ldR hb hq
  generalize hB r = x at *
  generalize r.ea = ea at *
  generalize rc r = cs at *
  go_enter Tryd.func49, Tryd.ntmps49
  go_wp2_with fail
  refine wp_region_hi (by kernel_rfl) (by kernel_rfl) ?_
  repeat (first | go_big_quiet_skip | (go_big_quiet_want; refine hi_load (.tmp 1) 31 rfl rfl HLD.out ?_; simp only [Act.put, List.setIfInBounds_toArray, List.set_cons_zero, List.set_cons_succ]; go_big_quiet_on) | (go_big_quiet_want; go_big_quiet_op; first | go_big_quiet_on | go_big_quiet_call (first | (go_at_call 47; with_reducible exact Hi.calls (HC.out _)))))
  refine wpQuiet_nil ?_
  intro _ hw
  obtain ⟨y, rfl⟩ := hw
  go_wp2
  go_ret
  exact ⟨rfl, hB0.trans (y.below.mono hB0.size)⟩

set_option maxHeartbeats 1000000 in
set_option maxRecDepth 100000 in
theorem shared_any (r : Ru) (hr : r.In) (hm : r.Mid) (w : World) :
    Calls Tryd.prog 33 #[RV r] w fun e w' => e = .returned (.bool (decide (0 < qB r))) ∧ Below w.heap.size w w' := by
  have hB0 := bA w (RO r)
  have ldR := (RuAt.of hr (blk_new w (RO r))).ldR
  have HLD : Hid _ := ldR
  have HC : Hid _ := fun W => psidBits_any r hr hm W
  have h1 := qB_le hm
  generalize hW : w.alloc (RO r) = W at *
  clear ldR
  generalize qB r = x at *
  generalize rc r = cs at *
  go_enter Tryd.func33, Tryd.ntmps33
  go_wp2_with first
    | ((with_reducible show wpList _ _ _ _ _ _); refine armL (.tmp 1) 31 rfl rfl rfl HLD.out ?_)
  refine (HC.out _).mono ?_
  rintro e w2 ⟨rfl, hB2⟩
  go_wp2
  go_ret
  exact ⟨rfl, hB0.trans (hB2.mono hB0.size)⟩

abbrev PSL (o l p : Int) : List Value := [.int .i64 o, .int .i64 l, .int .u16 p]
theorem build_ps (o l : Int) (w : World) : (Instr.build 34 #[(0, .int .i64 o), (1, .int .i64 l)]).run Tryd.prog w = .ok (PS o l 0) w := run_build w _ _ _ (by kernel_rfl)

set_option maxHeartbeats 1000000 in
set_option maxRecDepth 100000 in
theorem anySet_any (r : Ru) (hr : r.In) (hm : r.Mid) (w : World) :
    Calls Tryd.prog 34 #[RV r] w fun e w' => e = .returned (PS r.off (qB r) 0) ∧ Below w.heap.size w w' := by
  generalize hQ : (fun (e : Ending) (w' : World) => e = .returned (PS r.off (qB r) 0) ∧ Below w.heap.size w w') = Q
  have HQ : Hid _ := hQ
  clear hQ
  have hB1 : Below w.heap.size w ((w.alloc (RO r)).alloc (.cells [.int .i64 0, .int .i64 0, .int .u16 0].toArray 34)) := (bA w (RO r)).alloc (by simp) _
  have hb := blk_alloc (blk_new w (RO r)) (.cells [.int .i64 0, .int .i64 0, .int .u16 0].toArray 34)
  have hb2 := blk_new (w.alloc (RO r)) (.cells [.int .i64 0, .int .i64 0, .int .u16 0].toArray 34)
  have hz : (w.alloc (RO r)).heap.size = w.heap.size + 1 := by simp
  rw [hz] at hb2
  generalize hW : (w.alloc (RO r)).alloc (.cells [.int .i64 0, .int .i64 0, .int .u16 0].toArray 34) = W at *
  have HBR : Hid _ := hb
  have HC : Hid _ := fun W => psidBits_any r hr hm W
  clear hb hz
  have HB2 : Hid _ := hb2
  have HB1 : Hid _ := hB1
  clear hb2 hB1
  generalize qB r = x at *
  go_enter Tryd.func34, Tryd.ntmps34
  go_wp2_with fail
  have hd : Below W.heap.size W W.drew := (Below.refl _ W).drew
  have hbr := HBR.out
  refine wp_region_held (S := fun W' => W'.heap[w.heap.size]? = some (RO r)) (by kernel_rfl) ?_
  show wpAnyH _ _ _ _ _ 6 (Array.replicate 6 false) _ W.drew
  refine take_one (i := 0) (d := some 3) (v := .pointer (some ⟨w.heap.size, 23, none⟩)) rfl rfl rfl (by kernel_rfl) (by kernel_rfl) (by kernel_rfl) (fun _ _ d _ _ h => by cases d <;> exact h) (fun W hS => by kernel_rfl) hbr ?_
  simp only [Act.put, List.setIfInBounds_toArray, List.set_cons_zero, List.set_cons_succ]
  refine take_one (i := 1) (d := some 4) (v := .int .i64 r.off) rfl rfl rfl (by kernel_rfl) (by kernel_rfl) (by kernel_rfl) (fun _ _ d _ _ h => by cases d <;> exact h) (fun W hS => ex_loadC 3 rfl rfl (RuAt.of hr hS).c23) hbr ?_
  simp only [Act.put, List.setIfInBounds_toArray, List.set_cons_zero, List.set_cons_succ]
  refine take_one (i := 2) (d := some 5) (v := RV r) rfl rfl rfl (by kernel_rfl) (by kernel_rfl) (by kernel_rfl) (fun _ _ d _ _ h => by cases d <;> exact h) (fun W hS => ex_loadA (.tmp 1) 31 rfl rfl (RuAt.of hr hS).ldR) hbr ?_
  simp only [Act.put, List.setIfInBounds_toArray, List.set_cons_zero, List.set_cons_succ]
  refine all_one (i := 3) (by kernel_rfl) rfl rfl ?_
  refine wp_call (d := some 6) 49 _ rfl (by kernel_rfl) (callR (HC.out _)) ?_
  rintro _ w2 ⟨rfl, hB2⟩
  have hx2 := hd.trans (hB2.mono hd.size)
  have hbr2 := blk_on HBR.out hx2
  refine ⟨hbr2, ?_⟩
  simp only [Act.put, List.setIfInBounds_toArray, List.set_cons_zero, List.set_cons_succ]
  refine take_one (i := 4) (d := some 7) (v := PS r.off x 0) rfl rfl rfl (by kernel_rfl) (by kernel_rfl) (by kernel_rfl) (fun _ _ d _ _ h => by cases d <;> exact h) (fun W hS => ex_buildA 34 [(0, .tmp 4), (1, .tmp 6)] rfl rfl (build_ps _ _ _)) hbr2 ?_
  simp only [Act.put, List.setIfInBounds_toArray, List.set_cons_zero, List.set_cons_succ]
  have hb4 := blk_on HB2.out hx2
  obtain ⟨wE, hst, bE, honE⟩ := box_store Tryd.sizeOf34 hb4 rfl (PSL r.off x 0) rfl (by simp [PSL, Value.oneCell'])
  have hBE : Below w.heap.size w wE := (HB1.out.trans (hx2.mono HB1.out.size)).trans (honE.below (by omega))
  have HLV : Hid _ := agg_loadVar (t := 34) Tryd.isAgg34 Tryd.sizeOf34 rfl (CellsAt.of_blk bE)
  refine all_one (i := 5) (by kernel_rfl) rfl rfl ?_
  refine wp_storeA (.tmp 2) (.tmp 7) 34 rfl rfl rfl rfl hst ⟨((honE.other _ (by omega)).trans hbr2), ?_⟩
  refine wpAnyH_done (by kernel_rfl) ?_ _
  go_show
  go_wp2
  refine bodyPost_ret (res_cell1 Tryd.results34 rfl HLV.out) rfl ?_
  rw [← HQ.out]
  exact ⟨rfl, hBE⟩

end Go.Proofs.YtloadmpappjceaaDoor

namespace Go.Proofs.YtloadmpappjceaaDoor
open Go Go.RowKit Fld
set_option linter.unusedVariables false
set_option linter.unusedSimpArgs false

/-- A rule that may be. -/
structure Ru.Ok (r : Ru) : Prop where
  inn : r.In
  p6 : okP6 r.l6 r.n6 = true
  p4 : okP4L r.l4 r.n4 = true
  ea : 0 ≤ r.ea ∧ r.ea ≤ 48
  len : r.n6 + r.ea ≤ 64
  off : 0 ≤ r.off ∧ r.off ≤ 15
  psid : qB r ≤ 16 - r.off
theorem Ru.Ok.mid {r : Ru} (h : r.Ok) : r.Mid := by
  have := h.p4
  unfold okP4L at this
  simp at this
  exact ⟨this.1, h.ea⟩
/-- The rule's numbers. -/
structure Nums (r : Ru) (a b d h q o : Nat) : Prop where
  e6 : r.n6 = a
  eb : r.ea = b
  e4 : r.n4 = d
  eh : hB r = h
  eq : qB r = q
  eo : r.off = o
  sum : b = h + q
  room : d + h ≤ 32
  full : 0 < q → d + h = 32
  len : a + b ≤ 64
  psid : q ≤ 16 - o
  off : o ≤ 15
theorem Ru.Ok.nums {r : Ru} (h : r.Ok) : ∃ a b d g q o : Nat, Nums r a b d g q o := by
  have h6 := h.p6
  unfold okP6 at h6
  simp at h6
  have hm := h.mid
  have h1 := hB_le hm
  have h2 := qB_le hm
  have h3 := hm.n4
  have h4 := h.ea
  have h5 := h.len
  have h7 := h.off
  have h8 := h.psid
  have e1 : qB r = r.ea - hB r := rfl
  have e2 : hB r = min r.ea (32 - r.n4) := rfl
  refine ⟨r.n6.toNat, r.ea.toNat, r.n4.toNat, (hB r).toNat, (qB r).toNat, r.off.toNat, ⟨by omega, by omega, by omega, by omega, by omega, by omega, by omega, by omega, fun _ => by omega, by omega, by omega, by omega⟩⟩
theorem Nums.low6 {r : Ru} {a b d h q o : Nat} (hr : r.Ok) (hn : Nums r a b d h q o) (i : Nat) (hi : i < 128) (ha : a ≤ i) : bitN r.l6 i = 0 := by
  have h6 := hr.p6
  unfold okP6 at h6
  simp at h6
  have e := h6.2
  rw [hn.e6] at e
  rw [e, bitN_blR hr.inn.f6 a i (by rw [hr.inn.k6]; omega), if_neg (by omega)]
theorem Nums.low4 {r : Ru} {a b d h q o : Nat} (hr : r.Ok) (hn : Nums r a b d h q o) (i : Nat) (hi : i < 32) (ha : d ≤ i) : bitN r.l4 i = 0 := by
  have h6 := hr.p4
  unfold okP4L at h6
  simp at h6
  have e := h6.2
  rw [hn.e4] at e
  rw [e, bitN_blR hr.inn.f4 d i (by rw [hr.inn.k4]; omega), if_neg (by omega)]

def endL (r : Ru) (v : Nat) : List Int := writeL r.l6 r.n6.toNat r.ea.toNat v r.ea.toNat
def v4L (r : Ru) (v : Nat) : List Int := writeL r.l4 r.n4.toNat (hB r).toNat (v / 2 ^ (qB r).toNat) (hB r).toNat
def pidV (r : Ru) (v : Nat) : Nat := v % 2 ^ (qB r).toNat
def ownL (r : Ru) (v : Nat) : List Int := writeL (writeL (endL r v) 80 32 (accN (v4L r v) 0 32) 32) 112 16 (pidV r v) 16

section
variable {r : Ru} {a b d h q o v : Nat}
theorem endL_length (hr : r.Ok) : (endL r v).length = 16 := by simp [endL, hr.inn.k6]
theorem endL_fit (hr : r.Ok) : FitB (endL r v) := writeL_fit hr.inn.f6 _ _ _ _
theorem v4L_length (hr : r.Ok) : (v4L r v).length = 4 := by simp [v4L, hr.inn.k4]
theorem v4L_fit (hr : r.Ok) : FitB (v4L r v) := writeL_fit hr.inn.f4 _ _ _ _
theorem ownL_length (hr : r.Ok) : (ownL r v).length = 16 := by simp [ownL, endL_length hr]
theorem ownL_fit (hr : r.Ok) : FitB (ownL r v) := writeL_fit (writeL_fit (endL_fit hr) _ _ _ _) _ _ _ _
theorem bit_end (hr : r.Ok) (hn : Nums r a b d h q o) (i : Nat) : bitN (endL r v) i = if a ≤ i ∧ i < a + b then bk v (b - 1 - (i - a)) else bitN r.l6 i := by
  have := hn.len
  unfold endL
  rw [hn.e6, hn.eb, Int.toNat_natCast, Int.toNat_natCast, bitN_writeL hr.inn.f6 _ _ _ _ _ (by rw [hr.inn.k6]; omega)]
theorem bit_v4 (hr : r.Ok) (hn : Nums r a b d h q o) (i : Nat) : bitN (v4L r v) i = if d ≤ i ∧ i < d + h then bk (v / 2 ^ q) (h - 1 - (i - d)) else bitN r.l4 i := by
  have := hn.room
  unfold v4L
  rw [hn.e4, hn.eh, hn.eq, Int.toNat_natCast, Int.toNat_natCast, Int.toNat_natCast, bitN_writeL hr.inn.f4 _ _ _ _ _ (by rw [hr.inn.k4]; omega)]
theorem bit_own (hr : r.Ok) (hn : Nums r a b d h q o) (i : Nat) (hi : i < 128) : bitN (ownL r v) i = if 112 ≤ i then bk (v % 2 ^ q) (15 - (i - 112)) else if 80 ≤ i then bitN (v4L r v) (i - 80) else bitN (endL r v) i := by
  have hl := endL_length (v := v) hr
  have hf := endL_fit (v := v) hr
  unfold ownL pidV
  rw [hn.eq, Int.toNat_natCast, bitN_writeL (writeL_fit hf _ _ _ _) _ _ _ _ _ (by simp [hl]), bitN_writeL hf _ _ _ _ _ (by omega)]
  by_cases c : 112 ≤ i
  · rw [if_pos (by omega), if_pos c]
  · rw [if_neg (by omega), if_neg c]
    by_cases e : 80 ≤ i
    · rw [if_pos (by omega), if_pos e, show 32 - 1 - (i - 80) = 32 - 1 - (i - 80) from rfl, bk_acc _ _ _ _ (by omega), Nat.zero_add]
    · rw [if_neg (by omega), if_neg e]

/-- What the program puts together is that. -/
theorem six_end (hr : r.Ok) (hn : Nums r a b d h q o) : padL (catRow [((a : Int), accN r.l6 0 a), ((b : Int), v)] (a + b) 2) 16 = endL r v := by
  have hlen := hn.len
  refine row_ext (by rw [padL_length _ _ (by simp; omega), endL_length hr]) (padL_fit (catRow_fit _ _ _) _) (endL_fit hr) fun i hi => ?_
  rw [padL_length _ _ (by simp; omega)] at hi
  rw [bitN_padL, cat2_bits, bit_end hr hn]
  by_cases c1 : i < a
  · rw [if_pos c1, if_neg (by omega), bk_acc _ _ _ _ c1, Nat.zero_add]
  · rw [if_neg c1]
    by_cases c2 : i - a < b
    · rw [if_pos c2, if_pos (by omega)]
    · rw [if_neg c2, if_neg (by omega), hn.low6 hr i (by omega) (by omega)]
theorem four_v4 (hr : r.Ok) (hn : Nums r a b d h q o) : padL (catRow [((d : Int), accN r.l4 0 d), ((h : Int), v / 2 ^ q)] (d + h) 2) 4 = v4L r v := by
  have hlen := hn.room
  refine row_ext (by rw [padL_length _ _ (by simp; omega), v4L_length hr]) (padL_fit (catRow_fit _ _ _) _) (v4L_fit hr) fun i hi => ?_
  rw [padL_length _ _ (by simp; omega)] at hi
  rw [bitN_padL, cat2_bits, bit_v4 hr hn]
  by_cases c1 : i < d
  · rw [if_pos c1, if_neg (by omega), bk_acc _ _ _ _ c1, Nat.zero_add]
  · rw [if_neg c1]
    by_cases c2 : i - d < h
    · rw [if_pos c2, if_pos (by omega)]
    · rw [if_neg c2, if_neg (by omega), hn.low4 hr i (by omega) (by omega)]
theorem six_own (hr : r.Ok) (hn : Nums r a b d h q o) : padL (catRow [((a : Int), accN r.l6 0 a), ((b : Int), v), (((64 - (a + b) : Nat) : Int), 0), (16, 0), (32, accN (v4L r v) 0 32), (16, v % 2 ^ q)] 128 6) 16 = ownL r v := by
  have hlen := hn.len
  refine row_ext (by rw [padL_length _ _ (by simp), ownL_length hr]) (padL_fit (catRow_fit _ _ _) _) (ownL_fit hr) fun i hi => ?_
  rw [padL_length _ _ (by simp)] at hi
  rw [bitN_padL, cat6_bits a b (64 - (a + b)) _ _ _ _ _ (by omega), bit_own hr hn i (by omega), bit_end hr hn]
  by_cases c1 : i < a
  · rw [if_pos c1, if_neg (by omega), if_neg (by omega), if_neg (by omega), bk_acc _ _ _ _ c1, Nat.zero_add]
  · rw [if_neg c1]
    by_cases c2 : i - a < b
    · rw [if_pos c2, if_neg (by omega), if_neg (by omega), if_pos (by omega)]
    · rw [if_neg c2]
      by_cases c3 : 80 ≤ i ∧ i < 112
      · rw [if_pos c3, if_neg (by omega), if_pos (by omega), show 31 - (i - 80) = 32 - 1 - (i - 80) by omega, bk_acc _ _ _ _ (by omega), Nat.zero_add]
      · rw [if_neg c3]
        by_cases c4 : 112 ≤ i
        · rw [if_pos (by omega), if_pos c4]
        · rw [if_neg (by omega), if_neg c4, if_neg (by omega), if_neg (by omega), hn.low6 hr i (by omega) (by omega)]

/-- A prefix has an address: its first bits are the same. -/
theorem has_bits {l k : List Int} {n : Nat} (hl : FitB l) (hk : FitB k) (he : k.length = l.length) (hn : n ≤ 8 * l.length) (ho : l = blR n l) : blR n k = l ↔ ∀ i, i < n → bitN k i = bitN l i := by
  constructor
  · intro e i hi
    rw [← e, bitN_blR hk n i (by omega), if_pos hi]
  · intro g
    refine row_ext (by rw [blR_length, he]) (blR_fit hk) hl fun i hi => ?_
    rw [blR_length] at hi
    rw [bitN_blR hk n i hi]
    by_cases c : i < n
    · rw [if_pos c, g i c]
    · rw [if_neg c]
      have : bitN l i = bitN (blR n l) i := congrArg (fun z => bitN z i) ho
      rw [this, bitN_blR hl n i (by omega), if_neg c]
theorem ok_bits {l : List Int} {n : Nat} (hl : FitB l) (h : ∀ i, i < 8 * l.length → n ≤ i → bitN l i = 0) : l = blR n l := by
  have e := low_blR hl n
  unfold lowB at e
  rw [decide_eq_true h] at e
  exact of_decide_eq_true e.symm

theorem end_ok (hr : r.Ok) (hn : Nums r a b d h q o) : okP6 (endL r v) (r.n6 + r.ea) = true := by
  have hlen := hn.len
  have e : r.n6 + r.ea = ((a + b : Nat) : Int) := by rw [hn.e6, hn.eb]; omega
  unfold okP6
  rw [e, decide_eq_true (show (0 : Int) ≤ ((a + b : Nat) : Int) ∧ ((a + b : Nat) : Int) ≤ 128 from ⟨by omega, by omega⟩), Bool.true_and]
  refine decide_eq_true (ok_bits (endL_fit hr) fun i hi hab => ?_)
  rw [endL_length hr] at hi
  rw [bit_end hr hn, if_neg (by omega), hn.low6 hr i (by omega) (by omega)]
theorem v4_ok (hr : r.Ok) (hn : Nums r a b d h q o) : okP4L (v4L r v) (r.n4 + hB r) = true := by
  have hlen := hn.room
  have e : r.n4 + hB r = ((d + h : Nat) : Int) := by rw [hn.e4, hn.eh]; omega
  unfold okP4L
  rw [e, decide_eq_true (show (0 : Int) ≤ ((d + h : Nat) : Int) ∧ ((d + h : Nat) : Int) ≤ 32 from ⟨by omega, by omega⟩), Bool.true_and]
  refine decide_eq_true (ok_bits (v4L_fit hr) fun i hi hab => ?_)
  rw [v4L_length hr] at hi
  rw [bit_v4 hr hn, if_neg (by omega), hn.low4 hr i (by omega) (by omega)]
theorem blR_of6 (hr : r.Ok) (hn : Nums r a b d h q o) : r.l6 = blR (a : Int) r.l6 := by
  have h6 := hr.p6
  unfold okP6 at h6
  simp at h6
  rw [← hn.e6]
  exact h6.2
theorem blR_of4 (hr : r.Ok) (hn : Nums r a b d h q o) : r.l4 = blR (d : Int) r.l4 := by
  have h6 := hr.p4
  unfold okP4L at h6
  simp at h6
  rw [← hn.e4]
  exact h6.2

theorem acc_iff {x : List Int} {p n v : Nat} (hv : v < 2 ^ n) : accN x p n = v ↔ ∀ j, j < n → bitN x (p + j) = bk v (n - 1 - j) :=
  ⟨fun e j hj => by rw [← e, bk_acc _ _ _ _ hj], fun g => accN_of g hv⟩

/-- Who has an address by its edge's prefix is found by it. -/
theorem end_has (hr : r.Ok) (hn : Nums r a b d h q o) (hv : v < 2 ^ b) {x : List Int} (hx : FitB x) (kx : x.length = 16) :
    blR (r.n6 + r.ea) x = endL r v ↔ (blR r.n6 x = r.l6 ∧ accN x a b = v) := by
  have hlen := hn.len
  have hok := end_ok (v := v) hr hn
  unfold okP6 at hok
  simp at hok
  have e : r.n6 + r.ea = ((a + b : Nat) : Int) := by rw [hn.e6, hn.eb]; omega
  have ho := hok.2
  rw [e] at ho ⊢
  rw [has_bits (endL_fit hr) hx (by rw [kx, endL_length hr]) (by rw [endL_length hr]; omega) ho, hn.e6, has_bits hr.inn.f6 hx (by rw [kx, hr.inn.k6]) (by rw [hr.inn.k6]; omega) (blR_of6 hr hn), acc_iff hv]
  constructor
  · intro g
    refine ⟨fun i hi => ?_, fun j hj => ?_⟩
    · rw [g i (by omega), bit_end hr hn, if_neg (by omega)]
    · rw [g (a + j) (by omega), bit_end hr hn, if_pos (by omega), show a + j - a = j by omega]
  · rintro ⟨g1, g2⟩ i hi
    rw [bit_end hr hn]
    by_cases c : i < a
    · rw [if_neg (by omega), g1 i c]
    · rw [if_pos (by omega)]
      have := g2 (i - a) (by omega)
      rwa [show a + (i - a) = i by omega] at this
theorem own_has (hr : r.Ok) (hn : Nums r a b d h q o) (hv : v < 2 ^ b) : blR r.n6 (ownL r v) = r.l6 ∧ accN (ownL r v) a b = v := by
  have hlen := hn.len
  rw [hn.e6, has_bits hr.inn.f6 (ownL_fit hr) (by rw [ownL_length hr, hr.inn.k6]) (by rw [hr.inn.k6]; omega) (blR_of6 hr hn), acc_iff hv]
  refine ⟨fun i hi => ?_, fun j hj => ?_⟩
  · rw [bit_own hr hn i (by omega), if_neg (by omega), if_neg (by omega), bit_end hr hn, if_neg (by omega)]
  · rw [bit_own hr hn _ (by omega), if_neg (by omega), if_neg (by omega), bit_end hr hn, if_pos (by omega), show a + j - a = j by omega]
theorem v4_has (hr : r.Ok) (hn : Nums r a b d h q o) (hv : v < 2 ^ b) {y : List Int} (hy : FitB y) (ky : y.length = 4) :
    blR (r.n4 + hB r) y = v4L r v ↔ (blR r.n4 y = r.l4 ∧ accN y d h = v / 2 ^ q) := by
  have hlen := hn.room
  have hok := v4_ok (v := v) hr hn
  unfold okP4L at hok
  simp at hok
  have e : r.n4 + hB r = ((d + h : Nat) : Int) := by rw [hn.e4, hn.eh]; omega
  have ho := hok.2
  have hv2 : v / 2 ^ q < 2 ^ h := by
    rw [Nat.div_lt_iff_lt_mul (Nat.two_pow_pos q), ← Nat.pow_add, ← hn.sum]
    exact hv
  rw [e] at ho ⊢
  rw [has_bits (v4L_fit hr) hy (by rw [ky, v4L_length hr]) (by rw [v4L_length hr]; omega) ho, hn.e4, has_bits hr.inn.f4 hy (by rw [ky, hr.inn.k4]) (by rw [hr.inn.k4]; omega) (blR_of4 hr hn), acc_iff hv2]
  constructor
  · intro g
    refine ⟨fun i hi => ?_, fun j hj => ?_⟩
    · rw [g i (by omega), bit_v4 hr hn, if_neg (by omega)]
    · rw [g (d + j) (by omega), bit_v4 hr hn, if_pos (by omega), show d + j - d = j by omega]
  · rintro ⟨g1, g2⟩ i hi
    rw [bit_v4 hr hn]
    by_cases c : i < d
    · rw [if_neg (by omega), g1 i c]
    · rw [if_pos (by omega)]
      have := g2 (i - d) (by omega)
      rwa [show d + (i - d) = i by omega] at this
end

end Go.Proofs.YtloadmpappjceaaDoor

namespace Go.Proofs.YtloadmpappjceaaDoor
open Go Go.RowKit
set_option linter.unusedVariables false
set_option linter.unusedSimpArgs false

theorem Check4_L (l : List Int) (n : Int) (w : World) (hf : FitB l) (hl : l.length = 4) (hb : In64 n) :
    Calls Tryd.prog 37 #[P4L l n] w fun e w' => e = .returned (.int .i64 (if okP4L l n then 0 else 22)) ∧ Below w.heap.size w w' := by
  obtain ⟨a0, a1, a2, a3, rfl⟩ := list4 hl
  have h := Check4_calls a0 a1 a2 a3 n w (hf a0 (by simp)) (hf a1 (by simp)) (hf a2 (by simp)) (hf a3 (by simp)) hb
  have e : okP4 a0 a1 a2 a3 n = okP4L [a0, a1, a2, a3] n := by unfold okP4 okP4L; rw [blR4]
  rw [e] at h
  exact h

/-- What Check says of a rule. -/
def rgOk (r : Ru) : Prop := 0 ≤ r.ea ∧ r.ea ≤ 48 ∧ r.n6 + r.ea ≤ 64 ∧ 0 ≤ r.off ∧ r.off ≤ 15 ∧ qB r ≤ 16 - r.off
instance (r : Ru) : Decidable (rgOk r) := by unfold rgOk; infer_instance
def ckE (r : Ru) : Int := if (okP6 r.l6 r.n6 && okP4L r.l4 r.n4) = true then (if rgOk r then 0 else 100) else 22
theorem Ru.ok_of {r : Ru} (hr : r.In) (h : ckE r = 0) : r.Ok := by
  unfold ckE at h
  by_cases c : (okP6 r.l6 r.n6 && okP4L r.l4 r.n4) = true
  · rw [if_pos c] at h
    by_cases d : rgOk r
    · simp at c
      exact ⟨hr, c.1, c.2, ⟨d.1, d.2.1⟩, d.2.2.1, ⟨d.2.2.2.1, d.2.2.2.2.1⟩, d.2.2.2.2.2⟩
    · rw [if_neg d] at h; omega
  · rw [if_neg c] at h; omega
theorem ok6_le {l : List Int} {n : Int} (h : okP6 l n = true) : 0 ≤ n ∧ n ≤ 128 := by unfold okP6 at h; simp at h; exact h.1
theorem ok4_le {l : List Int} {n : Int} (h : okP4L l n = true) : 0 ≤ n ∧ n ≤ 32 := by unfold okP4L at h; simp at h; exact h.1


set_option maxHeartbeats 1000000 in
set_option maxRecDepth 100000 in
theorem Check_any' (r : Ru) (hr : r.In) (w : World) :
    Calls Tryd.prog 14 #[RV r] w fun e w' => e = .returned (.int .i64 (ckE r)) ∧ Below w.heap.size w w' := by
  have hB0 := bA w (RO r)
  have hb := blk_new w (RO r)
  have HC6 : Hid _ := fun W => Check6_calls r.l6 r.n6 W hr.f6 hr.k6 hr.b6
  have HC4 : Hid _ := fun W => Check4_L r.l4 r.n4 W hr.f4 hr.k4 hr.b4
  have hD6 := (RuAt.of hr hb).ld6
  have HD6 : Hid _ := hD6
  clear hD6
  cases c6 : okP6 r.l6 r.n6
  · have e : ckE r = 22 := by unfold ckE; rw [c6]; rfl
    rw [e]
    rw [c6] at HC6
    clear HC4 e c6
    generalize hW : w.alloc (RO r) = W at *
    clear hb
    generalize r.l6 = l6 at *
    generalize r.n6 = n6 at *
    generalize rc r = cs at *
    go_enter Tryd.func14, Tryd.ntmps14
    go_wp2_with first
      | ((with_reducible show wpList _ _ _ _ _ _); refine armL (.tmp 3) 25 rfl rfl rfl HD6.out ?_)
    refine (HC6.out _).mono ?_
    rintro e w2 ⟨rfl, hB2⟩
    go_wp2
    go_ret
    exact ⟨rfl, hB0.trans (hB2.mono hB0.size)⟩
  · rw [c6] at HC6
    have hn6 := ok6_le c6
    cases c4 : okP4L r.l4 r.n4
    · have e : ckE r = 22 := by unfold ckE; rw [c6, c4]; rfl
      rw [e]
      rw [c4] at HC4
      clear e c6 c4
      generalize hW : w.alloc (RO r) = W at *
      go_enter Tryd.func14, Tryd.ntmps14
      go_wp2_with first
        | ((with_reducible show wpList _ _ _ _ _ _); refine armL (.tmp 3) 25 rfl rfl rfl HD6.out ?_)
      refine (HC6.out _).mono ?_
      rintro e w2 ⟨rfl, hB2⟩
      have HD4 : Hid _ := (RuAt.of hr (blk_on hb hB2)).ld4
      clear hb
      go_wp2_with first
        | ((with_reducible show wpList _ _ _ _ _ _); refine armLg (.tmp 8) 29 rfl rfl rfl HD4.out ?_)
      refine (HC4.out _).mono ?_
      rintro e w3 ⟨rfl, hB3⟩
      go_wp2
      go_ret
      exact ⟨rfl, (hB0.trans (hB2.mono hB0.size)).trans (hB3.mono (Nat.le_trans hB0.size hB2.size))⟩
    · rw [c4] at HC4
      have hn4 := ok4_le c4
      have hE : ckE r = if rgOk r then 0 else 100 := by unfold ckE; rw [c6, c4]; rfl
      by_cases hx : 0 ≤ r.ea ∧ r.ea ≤ 48 ∧ r.n6 + r.ea ≤ 64
      · have hm : r.Mid := ⟨hn4, hx.1, hx.2.1⟩
        have hq := qB_le hm
        have HAS : Hid _ := fun W => anySet_any r hr hm W
        have HPC : Hid _ := fun W => Check_any r.off (qB r) 0 W hr.bo ⟨by omega, by omega⟩ ⟨by omega, by omega⟩
        have hE2 : ckE r = if setOk r.off (qB r) 0 then 0 else 100 := by
          rw [hE]
          by_cases d : rgOk r
          · rw [if_pos d, if_pos (cutOk_zero ⟨d.2.2.2.1, d.2.2.2.2.1, hq.1, d.2.2.2.2.2⟩)]
          · rw [if_neg d, if_neg (fun k => d ⟨hx.1, hx.2.1, hx.2.2, k.1.1, k.1.2.1, k.1.2.2.2⟩)]
        rw [hE2]
        clear hE hE2 c6 c4
        by_cases hs : setOk r.off (qB r) 0
        all_goals
          first
            | rw [if_pos hs] at HPC ⊢
            | rw [if_neg hs] at HPC ⊢
          clear hs
          generalize hW : w.alloc (RO r) = W at *
          go_enter Tryd.func14, Tryd.ntmps14
          go_wp2_with first
            | ((with_reducible show wpList _ _ _ _ _ _); refine armL (.tmp 3) 25 rfl rfl rfl HD6.out ?_)
          refine (HC6.out _).mono ?_
          rintro e w2 ⟨rfl, hB2⟩
          have HD4 : Hid _ := (RuAt.of hr (blk_on hb hB2)).ld4
          go_wp2_with first
            | ((with_reducible show wpList _ _ _ _ _ _); refine armLg (.tmp 8) 29 rfl rfl rfl HD4.out ?_)
          refine (HC4.out _).mono ?_
          rintro e w3 ⟨rfl, hB3⟩
          have hB23 := hB2.trans (hB3.mono hB2.size)
          obtain ⟨ldR, _, _, _, _, c16, c21, c22, c23, _, _⟩ := RuAt.of hr (blk_on hb hB23)
          have HLR : Hid _ := ldR
          clear ldR
          generalize r.ea = ea at *
          generalize r.n6 = n6 at *
          generalize r.off = off at *
          generalize qB r = qb at *
          go_wp2_with first
            | ((with_reducible show wpList _ _ _ _ _ _); refine armL (.tmp 1) 31 rfl rfl rfl HLR.out ?_)
          refine (HAS.out _).mono ?_
          rintro e w4 ⟨rfl, hB4⟩
          go_wp2_with fail
          refine (HPC.out _).mono ?_
          rintro e w5 ⟨rfl, hB5⟩
          have hB24 := hB23.trans (hB4.mono hB23.size)
          have hB25 := hB24.trans (hB5.mono hB24.size)
          go_wp2
          go_ret
          exact ⟨rfl, hB0.trans (hB25.mono hB0.size)⟩
      · have e : ckE r = 100 := by rw [hE, if_neg (fun d => hx ⟨d.1, d.2.1, d.2.2.1⟩)]
        rw [e]
        clear e hE c6 c4
        have hbe := hr.be
        unfold In64 at hbe
        generalize hW : w.alloc (RO r) = W at *
        go_enter Tryd.func14, Tryd.ntmps14
        go_wp2_with first
          | ((with_reducible show wpList _ _ _ _ _ _); refine armL (.tmp 3) 25 rfl rfl rfl HD6.out ?_)
        refine (HC6.out _).mono ?_
        rintro e w2 ⟨rfl, hB2⟩
        have HD4 : Hid _ := (RuAt.of hr (blk_on hb hB2)).ld4
        go_wp2_with first
          | ((with_reducible show wpList _ _ _ _ _ _); refine armLg (.tmp 8) 29 rfl rfl rfl HD4.out ?_)
        refine (HC4.out _).mono ?_
        rintro e w3 ⟨rfl, hB3⟩
        have hB23 := hB2.trans (hB3.mono hB2.size)
        obtain ⟨_, _, _, _, _, c16, c21, c22, c23, _, _⟩ := RuAt.of hr (blk_on hb hB23)
        have HF : Hid _ := hB0.trans (hB23.mono hB0.size)
        clear HC6 HC4 HD6 HD4 hb hr hB0 hB2 hB3 hB23
        generalize r.ea = ea at *
        generalize r.n6 = n6 at *
        by_cases x1 : ea < 0
        · go_wp2
          go_ret
          exact ⟨rfl, HF.out⟩
        · by_cases x2 : 48 < ea
          · go_wp2
            go_ret
            exact ⟨rfl, HF.out⟩
          · have x3 : 64 < n6 + ea := by omega
            go_wp2
            all_goals first
              | (exfalso; omega)
              | (go_ret; exact ⟨rfl, HF.out⟩)

end Go.Proofs.YtloadmpappjceaaDoor
