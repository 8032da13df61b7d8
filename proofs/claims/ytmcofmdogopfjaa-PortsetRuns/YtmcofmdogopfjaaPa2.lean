/-
  Port sets: Of and Has of both sides.
-/
import Derived.Test.YtmcofmdogopfjaaPa1
import Derived.Handy
namespace Go.Proofs.Ytmcofmdogopfjaa
open Go Go.RowKit
set_option linter.unusedVariables false
set_option linter.unusedSimpArgs false

set_option maxHeartbeats 400000 in
theorem RCheck_any (o l p : Int) (w : World) (ho : In64 o) (hl : In64 l) (hp : 0 ≤ p ∧ p < 65536) :
    Calls Try.prog 14 #[PS o l p] w fun e w' => e = .returned (.int .i64 (if setOk o l p then 0 else 90)) ∧ Below w.heap.size w w' := by
  have HC : Hid _ := fun W => Right_any o l p W ho hl hp
  have hB := bA w (Obj.cells #[.int .i64 o, .int .i64 l, .int .u16 p] 24)
  by_cases hs : setOk o l p
  · rw [if_pos hs]
    rw [decide_eq_true hs] at HC
    clear hs
    go_enter Try.func14, Try.ntmps14
    go_wp2_with fail
    refine (HC.out _).mono ?_
    rintro e w2 ⟨rfl, hB2⟩
    go_wp2
    go_ret
    exact ⟨rfl, hB.trans (hB2.mono hB.size)⟩
  · rw [if_neg hs]
    rw [decide_eq_false hs] at HC
    clear hs
    go_enter Try.func14, Try.ntmps14
    go_wp2_with fail
    refine (HC.out _).mono ?_
    rintro e w2 ⟨rfl, hB2⟩
    go_wp2
    go_ret
    exact ⟨rfl, hB.trans (hB2.mono hB.size)⟩

/-- Whose a port is, and whether it is somebody's. -/
def isOnes (o n : Nat) : Prop := o = 0 ∨ n / 2 ^ (16 - o) ≠ 0
instance (o n : Nat) : Decidable (isOnes o n) := by unfold isOnes; infer_instance
def pidN (o l n : Nat) : Nat := n / 2 ^ (16 - o - l) % 2 ^ l
abbrev OfE (p : Int) (b : Bool) (e : Int) : Value := .tuple #[.int .u16 p, .bool b, .int .i64 e]

theorem cast_shr (n k : Nat) : ((n : Int) / 2 ^ k) = ((n / 2 ^ k : Nat) : Int) := by rw [Int.natCast_ediv, Int.natCast_pow]; rfl
theorem pid_eq (o l n : Nat) (ho : o ≤ 15) (hl : l ≤ 16 - o) : n * 2 ^ o % 65536 / 2 ^ (16 - l) = pidN o l n := by
  unfold pidN
  have e1 : 65536 = 2 ^ (16 - o) * 2 ^ o := by rw [← Nat.pow_add, show 16 - o + o = 16 by omega]
  have e2 : 2 ^ (16 - l) = 2 ^ (16 - o - l) * 2 ^ o := by rw [← Nat.pow_add, show 16 - o - l + o = 16 - l by omega]
  have e3 : 2 ^ (16 - o) = 2 ^ (16 - o - l) * 2 ^ l := by rw [← Nat.pow_add, show 16 - o - l + l = 16 - o by omega]
  rw [e1, e2, Nat.mul_mod_mul_right, Nat.mul_div_mul_right _ _ (Nat.two_pow_pos o), e3, Nat.mod_mul_right_div_self]
theorem wrap_u16 (x : Nat) : IntKind.u16.wrap (x : Int) = ((x % 65536 : Nat) : Int) := by
  simp [IntKind.wrap, IntKind.bits, IntKind.signed]
theorem pid_cast (o l n : Nat) (ho : o ≤ 15) (hl : l ≤ 16 - o) : IntKind.u16.wrap ((n : Int) * 2 ^ o) / 2 ^ (16 - l) = ((pidN o l n : Nat) : Int) := by
  have e : (n : Int) * 2 ^ o = ((n * 2 ^ o : Nat) : Int) := by rw [Int.natCast_mul, Int.natCast_pow]; rfl
  rw [e, wrap_u16, cast_shr, pid_eq o l n ho hl]
theorem pid_ref (o l n : Nat) (hl : l ≤ 16) : IntKind.u16.wrap (((n : Int) / 2 ^ (16 - o - l)).tmod (2 ^ l)) = ((pidN o l n : Nat) : Int) := by
  have e : (2 : Int) ^ l = ((2 ^ l : Nat) : Int) := by rw [Int.natCast_pow]; rfl
  have k : 2 ^ l ≤ 65536 := Nat.pow_le_pow_right (n := 2) (j := 16) (by omega) hl
  have h := Nat.mod_lt (n / 2 ^ (16 - o - l)) (Nat.two_pow_pos l)
  rw [cast_shr, e, ← Int.ofNat_tmod, wrap_u16, Nat.mod_eq_of_lt (by omega)]
  rfl
theorem pid_lt (o l n : Nat) : pidN o l n < 2 ^ l := Nat.mod_lt _ (Nat.two_pow_pos l)
theorem pow16 {l : Nat} (h : l ≤ 16) : 2 ^ l ≤ 65536 := Nat.pow_le_pow_right (n := 2) (j := 16) (by omega) h

set_option maxHeartbeats 400000 in
theorem a_calls (o n : Nat) (w : World) (ho : o ≤ 15) (hn : n < 65536) :
    Calls Try.prog 28 #[.int .i64 o, .int .u16 n] w fun e w' => e = .returned (.int .i64 ((n / 2 ^ (16 - o) : Nat) : Int)) ∧ Below w.heap.size w w' := by
  obtain ⟨k, hk⟩ : ∃ k : Nat, k = 16 - o := ⟨_, rfl⟩
  have hk2 : (16 : Int) - (o : Int) = (k : Int) := by omega
  rw [← hk]
  clear hk
  go_enter Try.func28, Try.ntmps28
  go_wp2
  go_ret
  exact ⟨congrArg (fun x : Int => Ending.returned (.int .i64 x)) (cast_shr n k), Below.refl _ _⟩

def ofE (o l n : Nat) : Value := if isOnes o n then OfE (pidN o l n) true 0 else OfE 0 false 0

set_option maxHeartbeats 400000 in
theorem Of_yes (o l n : Nat) (w : World) (ho : o ≤ 15) (hl : l ≤ 16 - o) (hn : n < 65536) :
    Calls Try.prog 9 #[.int .i64 o, .int .i64 l, .int .u16 n] w fun e w' => e = .returned (ofE o l n) ∧ Below w.heap.size w w' := by
  have HC : Hid _ := fun W => Check_any o l 0 W ⟨by omega, by omega⟩ ⟨by omega, by omega⟩ ⟨by omega, by omega⟩
  rw [if_pos (cutOk_zero (show cutOk o l from ⟨by omega, by omega, by omega, by omega⟩))] at HC
  have HP : Hid _ := pid_cast o l n ho hl
  by_cases h0 : ¬ 0 < o
  · have e : ofE o l n = OfE (pidN o l n) true 0 := if_pos (Or.inl (by omega))
    rw [e]
    clear e
    generalize pidN o l n = r at *
    go_enter Try.func9, Try.ntmps9
    go_wp2_with fail
    refine (HC.out _).mono ?_
    rintro e w2 ⟨rfl, hB2⟩
    go_wp2
    all_goals first
      | (exfalso; omega)
      | (go_returns; exact ⟨by rw [← HP.out]; rfl, hB2⟩)
  · have h0 : 0 < o := by omega
    by_cases h1 : n / 2 ^ (16 - o) = 0
    · have e : ofE o l n = OfE 0 false 0 := if_neg (fun h => h.elim (by omega) (fun k => k h1))
      rw [e]
      have h2 : ((n : Int) / 2 ^ (16 - o) == 0) = true := by rw [cast_shr, h1]; rfl
      clear e h1
      go_enter Try.func9, Try.ntmps9
      go_wp2_with fail
      refine (HC.out _).mono ?_
      rintro e w2 ⟨rfl, hB2⟩
      go_wp2
      all_goals first
        | (exfalso; omega)
        | (go_returns; exact ⟨rfl, hB2⟩)
    · have e : ofE o l n = OfE (pidN o l n) true 0 := if_pos (Or.inr h1)
      rw [e]
      have h2 : ((n : Int) / 2 ^ (16 - o) == 0) = false := by rw [cast_shr]; exact beq_eq_false_iff_ne.2 (fun k => h1 (Int.ofNat.inj k))
      clear e h1
      generalize pidN o l n = r at *
      go_enter Try.func9, Try.ntmps9
      go_wp2_with fail
      refine (HC.out _).mono ?_
      rintro e w2 ⟨rfl, hB2⟩
      go_wp2
      all_goals first
        | (exfalso; omega)
        | (go_returns; exact ⟨by rw [← HP.out]; rfl, hB2⟩)

set_option maxHeartbeats 400000 in
theorem Of_no (o l : Int) (n : Nat) (w : World) (ho : In64 o) (hl : In64 l) (h : ¬ cutOk o l) :
    Calls Try.prog 9 #[.int .i64 o, .int .i64 l, .int .u16 n] w fun e w' => e = .returned (OfE 0 false 90) ∧ Below w.heap.size w w' := by
  have HC : Hid _ := fun W => Check_any o l 0 W ho hl ⟨by omega, by omega⟩
  rw [if_neg (fun k => h k.1)] at HC
  go_enter Try.func9, Try.ntmps9
  go_wp2_with fail
  refine (HC.out _).mono ?_
  rintro e w2 ⟨rfl, hB2⟩
  go_wp2
  go_returns
  exact ⟨rfl, hB2⟩

set_option maxHeartbeats 400000 in
theorem ROf_no (o l : Int) (n : Nat) (w : World) (ho : In64 o) (hl : In64 l) (h : ¬ cutOk o l) :
    Calls Try.prog 10 #[.int .i64 o, .int .i64 l, .int .u16 n] w fun e w' => e = .returned (OfE 0 false 90) ∧ Below w.heap.size w w' := by
  have HC : Hid _ := fun W => Right_any o l 0 W ho hl ⟨by omega, by omega⟩
  rw [decide_eq_false (fun k => h k.1)] at HC
  go_enter Try.func10, Try.ntmps10
  go_wp2_with fail
  refine (HC.out _).mono ?_
  rintro e w2 ⟨rfl, hB2⟩
  go_wp2
  go_returns
  exact ⟨rfl, hB2⟩

set_option maxHeartbeats 400000 in
theorem ROf_yes (o l n : Nat) (w : World) (ho : o ≤ 15) (hl : l ≤ 16 - o) (hn : n < 65536) :
    Calls Try.prog 10 #[.int .i64 o, .int .i64 l, .int .u16 n] w fun e w' => e = .returned (ofE o l n) ∧ Below w.heap.size w w' := by
  have HC : Hid _ := fun W => Right_any o l 0 W ⟨by omega, by omega⟩ ⟨by omega, by omega⟩ ⟨by omega, by omega⟩
  rw [decide_eq_true (cutOk_zero (show cutOk o l from ⟨by omega, by omega, by omega, by omega⟩))] at HC
  have HA : Hid _ := fun W => a_calls o n W ho hn
  have HP : Hid _ := pid_ref o l n (by omega)
  have k1 := pow_le16 (l := l) (by omega)
  have k2 := pow_ge1 l
  by_cases h0 : ¬ 0 < o
  · have e : ofE o l n = OfE (pidN o l n) true 0 := if_pos (Or.inl (by omega))
    rw [e]
    clear e
    generalize pidN o l n = r at *
    go_enter Try.func10, Try.ntmps10
    go_wp2_with fail
    refine (HC.out _).mono ?_
    rintro e w2 ⟨rfl, hB2⟩
    go_wp2
    go_quiet (fail)
    go_wp2
    go_returns
    exact ⟨by rw [← HP.out]; rfl, bD hB2 _⟩
  · have h0 : 0 < o := by omega
    by_cases h1 : n / 2 ^ (16 - o) = 0
    · have e : ofE o l n = OfE 0 false 0 := if_neg (fun h => h.elim (by omega) (fun k => k h1))
      rw [e]
      rw [h1] at HA
      clear e h1
      go_enter Try.func10, Try.ntmps10
      go_wp2_with fail
      refine (HC.out _).mono ?_
      rintro e w2 ⟨rfl, hB2⟩
      go_wp2_with fail
      refine (HA.out _).mono ?_
      rintro e w3 ⟨rfl, hB3⟩
      go_wp2
      go_returns
      exact ⟨rfl, hB2.trans (hB3.mono hB2.size)⟩
    · have e : ofE o l n = OfE (pidN o l n) true 0 := if_pos (Or.inr h1)
      rw [e]
      have h2 : (((n / 2 ^ (16 - o) : Nat) : Int) == 0) = false := beq_eq_false_iff_ne.2 (fun k => h1 (Int.ofNat.inj k))
      clear e h1
      generalize pidN o l n = r at *
      generalize n / 2 ^ (16 - o) = q at *
      go_enter Try.func10, Try.ntmps10
      go_wp2_with fail
      refine (HC.out _).mono ?_
      rintro e w2 ⟨rfl, hB2⟩
      go_wp2_with fail
      refine (HA.out _).mono ?_
      rintro e w3 ⟨rfl, hB3⟩
      go_wp2
      go_quiet (fail)
      go_wp2
      go_returns
      exact ⟨by rw [← HP.out]; rfl, bD (hB2.trans (hB3.mono hB2.size)) _⟩

def hasN (o l p n : Nat) : Prop := isOnes o n ∧ pidN o l n = p
instance (o l p n : Nat) : Decidable (hasN o l p n) := by unfold hasN; infer_instance
abbrev HasE (b : Bool) (e : Int) : Value := .tuple #[.bool b, .int .i64 e]

set_option maxHeartbeats 400000 in
theorem Has_no (o l p : Int) (n : Nat) (w : World) (ho : In64 o) (hl : In64 l) (hp : 0 ≤ p ∧ p < 65536) (hs : ¬ setOk o l p) :
    Calls Try.prog 11 #[PS o l p, .int .u16 n] w fun e w' => e = .returned (HasE false 90) ∧ Below w.heap.size w w' := by
  have HC : Hid _ := fun W => Check_any o l p W ho hl hp
  rw [if_neg hs] at HC
  have hB := bA w (Obj.cells #[.int .i64 o, .int .i64 l, .int .u16 p] 24)
  clear hs
  go_enter Try.func11, Try.ntmps11
  go_wp2_with fail
  refine (HC.out _).mono ?_
  rintro e w2 ⟨rfl, hB2⟩
  go_wp2
  go_returns
  exact ⟨rfl, hB.trans (hB2.mono hB.size)⟩

set_option maxHeartbeats 400000 in
theorem Has_yes (o l p n : Nat) (w : World) (ho : o ≤ 15) (hl : l ≤ 16 - o) (hp : p < 2 ^ l) (hn : n < 65536) :
    Calls Try.prog 11 #[PS o l p, .int .u16 n] w fun e w' => e = .returned (HasE (decide (hasN o l p n)) 0) ∧ Below w.heap.size w w' := by
  have hp2 := pow16 (l := l) (by omega)
  have hs : setOk o l p := ⟨⟨by omega, by omega, by omega, by omega⟩, by rw [Int.toNat_natCast]; exact_mod_cast hp⟩
  have HC : Hid _ := fun W => Check_any o l p W ⟨by omega, by omega⟩ ⟨by omega, by omega⟩ ⟨by omega, by omega⟩
  rw [if_pos hs] at HC
  have HO : Hid _ := fun W => Of_yes o l n W ho hl hn
  have hB := bA w (Obj.cells #[.int .i64 o, .int .i64 l, .int .u16 p] 24)
  have hc := blk_new w (Obj.cells #[.int .i64 o, .int .i64 l, .int .u16 p] 24)
  have hz : w.heap.size < (w.alloc (Obj.cells #[.int .i64 o, .int .i64 l, .int .u16 p] 24)).heap.size := by simp
  have hv : ∀ W, Below (w.alloc (Obj.cells #[.int .i64 o, .int .i64 l, .int .u16 p] 24)).heap.size (w.alloc (Obj.cells #[.int .i64 o, .int .i64 l, .int .u16 p] 24)) W → W.cell? ⟨w.heap.size, 0, none⟩ = some (.int .i64 o) ∧ W.cell? ⟨w.heap.size, 1, none⟩ = some (.int .i64 l) ∧ W.cell? ⟨w.heap.size, 2, none⟩ = some (.int .u16 p) := by
    intro W h
    have hk := (h.block _ hz).trans hc
    simp [World.cell?, hk]
  have HV : Hid _ := hv
  clear hs hc hz hv hp2
  by_cases h1 : isOnes o n
  · have e : ofE o l n = OfE (pidN o l n) true 0 := if_pos h1
    have e2 : decide (hasN o l p n) = ((pidN o l n : Int) == (p : Int)) := by
      rw [Bool.eq_iff_iff, decide_eq_true_eq, beq_iff_eq]
      exact ⟨fun h => by rw [h.2], fun h => ⟨h1, Int.ofNat.inj h⟩⟩
    rw [e] at HO
    rw [e2]
    clear e e2 h1
    generalize pidN o l n = r at *
    go_enter Try.func11, Try.ntmps11
    go_wp2_with fail
    refine (HC.out _).mono ?_
    rintro e w2 ⟨rfl, hB2⟩
    obtain ⟨c0, c1, c2⟩ := HV.out _ hB2
    go_wp2_with fail
    refine (HO.out _).mono ?_
    rintro e w3 ⟨rfl, hB3⟩
    obtain ⟨d0, d1, d2⟩ := HV.out _ (hB2.trans (hB3.mono hB2.size))
    go_wp2
    go_returns
    exact ⟨rfl, (hB.trans (hB2.mono hB.size)).trans (hB3.mono (Nat.le_trans hB.size hB2.size))⟩
  · have e : ofE o l n = OfE 0 false 0 := if_neg h1
    have e2 : decide (hasN o l p n) = false := decide_eq_false (fun h => h1 h.1)
    rw [e] at HO
    rw [e2]
    clear e e2 h1
    go_enter Try.func11, Try.ntmps11
    go_wp2_with fail
    refine (HC.out _).mono ?_
    rintro e w2 ⟨rfl, hB2⟩
    obtain ⟨c0, c1, c2⟩ := HV.out _ hB2
    go_wp2_with fail
    refine (HO.out _).mono ?_
    rintro e w3 ⟨rfl, hB3⟩
    go_wp2
    go_returns
    exact ⟨rfl, (hB.trans (hB2.mono hB.size)).trans (hB3.mono (Nat.le_trans hB.size hB2.size))⟩

set_option maxHeartbeats 400000 in
theorem RHas_no (o l p : Int) (n : Nat) (w : World) (ho : In64 o) (hl : In64 l) (hp : 0 ≤ p ∧ p < 65536) (hs : ¬ setOk o l p) :
    Calls Try.prog 12 #[PS o l p, .int .u16 n] w fun e w' => e = .returned (HasE false 90) ∧ Below w.heap.size w w' := by
  have HC : Hid _ := fun W => Right_any o l p W ho hl hp
  rw [decide_eq_false hs] at HC
  have hB := bA w (Obj.cells #[.int .i64 o, .int .i64 l, .int .u16 p] 24)
  clear hs
  go_enter Try.func12, Try.ntmps12
  go_wp2_with fail
  refine (HC.out _).mono ?_
  rintro e w2 ⟨rfl, hB2⟩
  go_wp2
  go_returns
  exact ⟨rfl, hB.trans (hB2.mono hB.size)⟩

set_option maxHeartbeats 400000 in
theorem RHas_yes (o l p n : Nat) (w : World) (ho : o ≤ 15) (hl : l ≤ 16 - o) (hp : p < 2 ^ l) (hn : n < 65536) :
    Calls Try.prog 12 #[PS o l p, .int .u16 n] w fun e w' => e = .returned (HasE (decide (hasN o l p n)) 0) ∧ Below w.heap.size w w' := by
  have hp2 := pow16 (l := l) (by omega)
  have hs : setOk o l p := ⟨⟨by omega, by omega, by omega, by omega⟩, by rw [Int.toNat_natCast]; exact_mod_cast hp⟩
  have HC : Hid _ := fun W => Right_any o l p W ⟨by omega, by omega⟩ ⟨by omega, by omega⟩ ⟨by omega, by omega⟩
  rw [decide_eq_true hs] at HC
  have HO : Hid _ := fun W => ROf_yes o l n W ho hl hn
  have hB := bA w (Obj.cells #[.int .i64 o, .int .i64 l, .int .u16 p] 24)
  have hc := blk_new w (Obj.cells #[.int .i64 o, .int .i64 l, .int .u16 p] 24)
  have hz : w.heap.size < (w.alloc (Obj.cells #[.int .i64 o, .int .i64 l, .int .u16 p] 24)).heap.size := by simp
  have hv : ∀ W, Below (w.alloc (Obj.cells #[.int .i64 o, .int .i64 l, .int .u16 p] 24)).heap.size (w.alloc (Obj.cells #[.int .i64 o, .int .i64 l, .int .u16 p] 24)) W → W.cell? ⟨w.heap.size, 0, none⟩ = some (.int .i64 o) ∧ W.cell? ⟨w.heap.size, 1, none⟩ = some (.int .i64 l) ∧ W.cell? ⟨w.heap.size, 2, none⟩ = some (.int .u16 p) := by
    intro W h
    have hk := (h.block _ hz).trans hc
    simp [World.cell?, hk]
  have HV : Hid _ := hv
  clear hs hc hz hv hp2
  by_cases h1 : isOnes o n
  · have e : ofE o l n = OfE (pidN o l n) true 0 := if_pos h1
    have e2 : decide (hasN o l p n) = ((pidN o l n : Int) == (p : Int)) := by
      rw [Bool.eq_iff_iff, decide_eq_true_eq, beq_iff_eq]
      exact ⟨fun h => by rw [h.2], fun h => ⟨h1, Int.ofNat.inj h⟩⟩
    rw [e] at HO
    rw [e2]
    clear e e2 h1
    generalize pidN o l n = r at *
    go_enter Try.func12, Try.ntmps12
    go_wp2_with fail
    refine (HC.out _).mono ?_
    rintro e w2 ⟨rfl, hB2⟩
    obtain ⟨c0, c1, c2⟩ := HV.out _ hB2
    go_wp2_with fail
    refine (HO.out _).mono ?_
    rintro e w3 ⟨rfl, hB3⟩
    obtain ⟨d0, d1, d2⟩ := HV.out _ (hB2.trans (hB3.mono hB2.size))
    go_wp2
    go_returns
    exact ⟨rfl, (hB.trans (hB2.mono hB.size)).trans (hB3.mono (Nat.le_trans hB.size hB2.size))⟩
  · have e : ofE o l n = OfE 0 false 0 := if_neg h1
    have e2 : decide (hasN o l p n) = false := decide_eq_false (fun h => h1 h.1)
    rw [e] at HO
    rw [e2]
    clear e e2 h1
    go_enter Try.func12, Try.ntmps12
    go_wp2_with fail
    refine (HC.out _).mono ?_
    rintro e w2 ⟨rfl, hB2⟩
    obtain ⟨c0, c1, c2⟩ := HV.out _ hB2
    go_wp2_with fail
    refine (HO.out _).mono ?_
    rintro e w3 ⟨rfl, hB3⟩
    go_wp2
    go_returns
    exact ⟨rfl, (hB.trans (hB2.mono hB.size)).trans (hB3.mono (Nat.le_trans hB.size hB2.size))⟩

end Go.Proofs.Ytmcofmdogopfjaa
