/-
  Regions that draw, by hand: operations that are guarded, and small ones.
-/
import Derived.Test.YtbaeogoojpngbaaGc
namespace Go.Proofs.Ytbaeogoojpngbaa
open Go Go.RowKit
set_option linter.unusedVariables false
set_option linter.unusedSimpArgs false

theorem take_w {d : Option Nat} {P : Program} {ops : Array Oper} {Q : Exit → Act → World → Prop} {md : Region.Mode} {S : World → Prop} {i : Nat} {o : Oper} {v : Value} {fuel : Nat} {listed : Array Bool} {a : Act} {w : World} (hi : ops[i]? = some o) (hw : Region.wanted o (yielded ops a.tmps) = true) (hd : o.dst = d)
    (hs : Region.noSelect ops = true) (hf : Region.free md ops listed i = true) (hr : (Region.ready md ops listed).contains i = true) (hQ : ∀ c (a : Act) d v w, Q (.panic c) (a.put d v) w → Q (.panic c) a w)
    (hy : ∀ w, S w → (execOp a.eval o).run P w = .ok (.value v) w) (hS : S w) (h : wpAnyH P md ops Q S fuel (listed.setIfInBounds i true) (a.put d v) w) : wpAnyH P md ops Q S (fuel + 1) listed a w :=
  wpAnyH_take hi hs hf hr (fun c a w q => hQ c a _ _ w q) (.inl ⟨hw, hy⟩) hS (hd ▸ h)
theorem take_un {d : Option Nat} {P : Program} {ops : Array Oper} {Q : Exit → Act → World → Prop} {md : Region.Mode} {S : World → Prop} {i : Nat} {o : Oper} {fuel : Nat} {listed : Array Bool} {a : Act} {w : World} (hi : ops[i]? = some o) (hw : Region.wanted o (yielded ops a.tmps) = false) (hd : o.dst = d)
    (hs : Region.noSelect ops = true) (hf : Region.free md ops listed i = true) (hr : (Region.ready md ops listed).contains i = true) (hQ : ∀ c (a : Act) d v w, Q (.panic c) (a.put d v) w → Q (.panic c) a w)
    (hS : S w) (h : wpAnyH P md ops Q S fuel (listed.setIfInBounds i true) (a.put d undef) w) : wpAnyH P md ops Q S (fuel + 1) listed a w :=
  wpAnyH_take hi hs hf hr (fun c a w q => hQ c a _ _ w q) (.inr ⟨hw, rfl⟩) hS (hd ▸ h)
theorem all_w {P : Program} {ops : Array Oper} {Q : Exit → Act → World → Prop} {md : Region.Mode} {S : World → Prop} {i : Nat} {o : Oper} {fuel : Nat} {listed : Array Bool} {a : Act} {w : World} (hr : Region.ready md ops listed = [i]) (hi : ops[i]? = some o) (hw : Region.wanted o (yielded ops a.tmps) = true)
    (h : o.wp P a w (fun a' w' => S w' ∧ wpAnyH P md ops Q S fuel (listed.setIfInBounds i true) a' w') Q) : wpAnyH P md ops Q S (fuel + 1) listed a w := by
  refine wpAnyH_all (rs := [i]) hr (by simp) ?_
  intro j hj
  obtain rfl : j = i := by simpa using hj
  unfold wpOp
  rw [hi]
  simp only
  rw [if_pos hw]
  exact .inl h
theorem all_un {P : Program} {ops : Array Oper} {Q : Exit → Act → World → Prop} {md : Region.Mode} {S : World → Prop} {i : Nat} {o : Oper} {fuel : Nat} {listed : Array Bool} {a : Act} {w : World} (hr : Region.ready md ops listed = [i]) (hi : ops[i]? = some o) (hw : Region.wanted o (yielded ops a.tmps) = false)
    (h : S w ∧ wpAnyH P md ops Q S fuel (listed.setIfInBounds i true) (a.put o.dst undef) w) : wpAnyH P md ops Q S (fuel + 1) listed a w := by
  refine wpAnyH_all (rs := [i]) hr (by simp) ?_
  intro j hj
  obtain rfl : j = i := by simpa using hj
  unfold wpOp
  rw [hi]
  simp only
  rw [if_neg (by rw [hw]; simp)]
  exact h
theorem ex_len {o : Oper} {a : Act} {W : World} (p : Operand) (hop : o.op = Op.call { callee := .builtin .len, args := #[p], argTypes := #[26] }) {x : Option Addr} {n m : Nat} (hp : a.eval p = .slice x n m) :
    (execOp a.eval o).run Try.prog W = .ok (.value (.int .i64 n)) W := by
  generalize a.eval = ev at *
  simp [execOp, hop, hp, go_sem]
theorem ex_pick {P : Program} {o : Oper} {a : Act} {W : World} (p q r : Operand) (hop : o.op = Op.pick p q r) {b : Bool} {v : Value} (hp : a.eval p = .bool b) (hv : (if b then a.eval q else a.eval r) = v) : (execOp a.eval o).run P W = .ok (.value v) W := by
  subst hv
  generalize a.eval = ev at *
  cases b <;> simp [execOp, hop, hp, go_sem]
theorem ex_neq16 {o : Oper} {a : Act} {W : World} (p : Operand) (c : Int) {t : TypeId} (hop : o.op = Op.binOp .neq 48 p (.const (.int .u16 c)) t) {x : Int} (hp : a.eval p = .int .u16 x) : (execOp a.eval o).run Try.prog W = .ok (.value (.bool (x != c))) W := by
  have hc : a.eval (.const (.int .u16 c)) = .int .u16 c := rfl
  generalize a.eval = ev at *
  simp [execOp, hop, hp, hc, go_sem]
theorem ex_eql16 {o : Oper} {a : Act} {W : World} (p : Operand) (c : Int) {t : TypeId} (hop : o.op = Op.binOp .eql 48 p (.const (.int .u16 c)) t) {x : Int} (hp : a.eval p = .int .u16 x) : (execOp a.eval o).run Try.prog W = .ok (.value (.bool (x == c))) W := by
  have hc : a.eval (.const (.int .u16 c)) = .int .u16 c := rfl
  generalize a.eval = ev at *
  simp [execOp, hop, hp, hc, go_sem]
theorem ex_eqlE {o : Oper} {a : Act} {W : World} (p : Operand) (c : Int) {t : TypeId} (hop : o.op = Op.binOp .eql 29 p (.const (.int .i64 c)) t) {x : Int} (hp : a.eval p = .int .i64 x) : (execOp a.eval o).run Try.prog W = .ok (.value (.bool (x == c))) W := by
  have hc : a.eval (.const (.int .i64 c)) = .int .i64 c := rfl
  generalize a.eval = ev at *
  simp [execOp, hop, hp, hc, go_sem]
theorem ex_neqE {o : Oper} {a : Act} {W : World} (p : Operand) (c : Int) {t : TypeId} (hop : o.op = Op.binOp .neq 29 p (.const (.int .i64 c)) t) {x : Int} (hp : a.eval p = .int .i64 x) : (execOp a.eval o).run Try.prog W = .ok (.value (.bool (x != c))) W := by
  have hc : a.eval (.const (.int .i64 c)) = .int .i64 c := rfl
  generalize a.eval = ev at *
  simp [execOp, hop, hp, hc, go_sem]
theorem ex_add {o : Oper} {a : Act} {W : World} (p q : Operand) {t : TypeId} (hop : o.op = Op.binOp .add 3 p q t) {x y : Int} (hp : a.eval p = .int .i64 x) (hq : a.eval q = .int .i64 y) (hb : -9223372036854775808 ≤ x + y ∧ x + y ≤ 9223372036854775807) : (execOp a.eval o).run Try.prog W = .ok (.value (.int .i64 (x + y))) W := by
  have e := wrapi64 (x + y) hb
  generalize a.eval = ev at *
  simp [execOp, hop, hp, hq, go_sem, e]
theorem ex_neqI {o : Oper} {a : Act} {W : World} (p q : Operand) {t : TypeId} (hop : o.op = Op.binOp .neq 3 p q t) {x y : Int} (hp : a.eval p = .int .i64 x) (hq : a.eval q = .int .i64 y) : (execOp a.eval o).run Try.prog W = .ok (.value (.bool (x != y))) W := by
  generalize a.eval = ev at *
  simp [execOp, hop, hp, hq, go_sem]
theorem ex_eqlI {o : Oper} {a : Act} {W : World} (p q : Operand) {t : TypeId} (hop : o.op = Op.binOp .eql 3 p q t) {x y : Int} (hp : a.eval p = .int .i64 x) (hq : a.eval q = .int .i64 y) : (execOp a.eval o).run Try.prog W = .ok (.value (.bool (x == y))) W := by
  generalize a.eval = ev at *
  simp [execOp, hop, hp, hq, go_sem]

end Go.Proofs.Ytbaeogoojpngbaa
