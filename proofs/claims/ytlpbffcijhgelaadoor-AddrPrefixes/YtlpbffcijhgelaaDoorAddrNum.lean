/-
  number.take, dotted.take, dotted.whole and dotted.addr, at whatever address.
-/
import Derived.Test.YtlpbffcijhgelaaDoorAddrMem
import Derived.Test.YtlpbffcijhgelaaDoorAddrPure
import Derived.BigRegion
import Derived.OpenShut
namespace Go.Proofs.YtlpbffcijhgelaaDoor
set_option linter.unusedVariables false
set_option linter.unusedSimpArgs false
open Go Go.RowKit

def NumTook (x : Option Num) (b o : Nat) (w : World) (e : Ending) (w' : World) : Prop :=
  match x with
  | none => e = .returned (.bool false) ∧ w' = w
  | some n' => e = .returned (.bool true) ∧ w' = (w.setCell ⟨b, o, none⟩ (.int .i64 n'.value)).setCell ⟨b, o + 1, none⟩ (.bool n'.begun)

set_option maxHeartbeats 2000000 in
set_option maxRecDepth 100000 in
theorem num_take (n : Num) (r most : Int) (b o : Nat) (w : World) (hn : n.Ok most) (hm : most ≤ 255) (hr : 0 ≤ r ∧ r < 2147483648)
    (h0 : w.cell? ⟨b, o, none⟩ = some (.int .i64 n.value)) (h1 : w.cell? ⟨b, o + 1, none⟩ = some (.bool n.begun)) (hf : ∀ i, w.frozen? ⟨b, i, none⟩ = false) :
    Calls Tryd.prog 121 #[.pointer (some ⟨b, o, none⟩), .int .i32 r, .int .i64 most] w fun e w' => NumTook (n.take r most) b o w e w' := by
  obtain ⟨v, g⟩ := n
  obtain ⟨hv0, hv1⟩ := hn
  dsimp only at *
  have hno : (r < 48 ∨ 57 < r ∨ (g = true ∧ v = 0)) → NumTook (Num.take ⟨v, g⟩ r most) b o w (.returned (.bool false)) w := fun h => by
    unfold Num.take; rw [if_pos h]; exact ⟨rfl, rfl⟩
  have hbig : ¬ (r < 48 ∨ 57 < r ∨ (g = true ∧ v = 0)) → most < 10 * v + (r - 48) → NumTook (Num.take ⟨v, g⟩ r most) b o w (.returned (.bool false)) w := fun h h' => by
    unfold Num.take; rw [if_neg h, if_pos h']; exact ⟨rfl, rfl⟩
  have hyes : ¬ (r < 48 ∨ 57 < r ∨ (g = true ∧ v = 0)) → ¬ most < 10 * v + (r - 48) → NumTook (Num.take ⟨v, g⟩ r most) b o w (.returned (.bool true)) ((w.setCell ⟨b, o, none⟩ (.int .i64 (10 * v + (r - 48)))).setCell ⟨b, o + 1, none⟩ (.bool true)) := fun h h' => by
    unfold Num.take; rw [if_neg h, if_neg h']; exact ⟨rfl, rfl⟩
  have HA : Hid _ := hno
  have HB : Hid _ := hbig
  have HC : Hid _ := hyes
  clear hno hbig hyes
  generalize Num.take ⟨v, g⟩ r most = X at HA HB HC ⊢
  go_enter Tryd.func121, Tryd.ntmps121
  go_wp2
  all_goals go_ret
  all_goals first
    | (refine HA.out ?_; simp_all <;> omega)
    | (refine HB.out ?_ ?_ <;> simp_all <;> omega)
    | (refine HC.out ?_ ?_ <;> simp_all <;> omega)

/-- The six cells of a dotted. -/
structure DotAt (d : Dot) (w : World) (b o : Nat) : Prop where
  c0 : w.cell? ⟨b, o, none⟩ = some (.int .u8 d.e0)
  c1 : w.cell? ⟨b, o + 1, none⟩ = some (.int .u8 d.e1)
  c2 : w.cell? ⟨b, o + 2, none⟩ = some (.int .u8 d.e2)
  c3 : w.cell? ⟨b, o + 3, none⟩ = some (.int .i64 d.count)
  c4 : w.cell? ⟨b, o + 4, none⟩ = some (.int .i64 d.num.value)
  c5 : w.cell? ⟨b, o + 5, none⟩ = some (.bool d.num.begun)

def DotTook (x : Option Dot) (b o : Nat) (w : World) (e : Ending) (w' : World) : Prop :=
  e = .returned (.bool x.isSome) ∧ Wrote b o 6 w w' ∧ ∀ d, x = some d → DotAt d w' b o

set_option maxHeartbeats 4000000 in
set_option maxRecDepth 100000 in
theorem dot_take (d : Dot) (r : Int) (b o : Nat) (w : World) (hd : d.Ok) (hr : 0 ≤ r ∧ r < 2147483648) (hat : DotAt d w b o) (hf : ∀ i, w.frozen? ⟨b, i, none⟩ = false) :
    Calls Tryd.prog 119 #[.pointer (some ⟨b, o, none⟩), .int .i32 r] w fun e w' => DotTook (d.take r) b o w e w' := by
  obtain ⟨c0, c1, c2, c3, c4, c5⟩ := hat
  obtain ⟨e0, e1, e2, cnt, ⟨v, g⟩⟩ := d
  obtain ⟨k0, k1, k2, kc, kn⟩ := hd
  dsimp only at *
  have hf' : ∀ i, w.drew.frozen? ⟨b, i, none⟩ = false := hf
  by_cases h46 : r = 46
  · subst h46
    cases g with
    | false =>
      go_enter Tryd.func119, Tryd.ntmps119
      go_wp2
      go_ret
      exact ⟨rfl, Wrote.refl _ _ _ _, fun d hd => by simp [Dot.take] at hd⟩
    | true =>
      by_cases h3 : cnt = 3
      · subst h3
        go_enter Tryd.func119, Tryd.ntmps119
        go_wp2
        go_ret
        exact ⟨rfl, Wrote.refl _ _ _ _, fun d hd => by simp [Dot.take] at hd⟩
      · have hv : 0 ≤ v ∧ v ≤ 255 := kn
        have hcase : cnt = 0 ∨ cnt = 1 ∨ cnt = 2 := by omega
        clear kc h3 kn
        rcases hcase with rfl | rfl | rfl
        all_goals
          go_enter Tryd.func119, Tryd.ntmps119
          go_wp2
        all_goals try go_region
        all_goals try go_wp2
        all_goals go_ret
        all_goals refine ⟨rfl, ((((Wrote.refl _ _ _ _).set (by omega) _).set (by omega) _).set (by omega) _).set (by omega) _ |>.drew, fun d hd => ?_⟩
        all_goals cases hd
        all_goals constructor <;> dsimp only [Dot.put, Num.new] <;> first | go_cell | (simp; go_cell)
  · have hne : (r != 46) = true := by simpa using h46
    have hN := num_take ⟨v, g⟩ r 255 b (o + 4) w kn (by decide) hr c4 c5 hf
    have hX : Dot.take ⟨e0, e1, e2, cnt, ⟨v, g⟩⟩ r = (Num.take ⟨v, g⟩ r 255).map (fun n => ⟨e0, e1, e2, cnt, n⟩) := by
      unfold Dot.take
      rw [if_pos h46]
    rw [hX]
    clear hX
    generalize Num.take ⟨v, g⟩ r 255 = x at hN ⊢
    go_enter Tryd.func119, Tryd.ntmps119
    go_wp2_with fail
    refine hN.mono ?_
    intro e w' hT
    clear hN
    cases x with
    | none =>
      obtain ⟨rfl, rfl⟩ := hT
      go_wp2
      go_ret
      exact ⟨rfl, Wrote.refl _ _ _ _, fun d hd => by cases hd⟩
    | some n =>
      obtain ⟨rfl, rfl⟩ := hT
      go_wp2
      go_ret
      refine ⟨rfl, ((Wrote.refl _ _ _ _).set (by omega) _).set (by omega) _, fun d hd => ?_⟩
      cases hd
      constructor <;> dsimp only <;> go_cell
end Go.Proofs.YtlpbffcijhgelaaDoor
