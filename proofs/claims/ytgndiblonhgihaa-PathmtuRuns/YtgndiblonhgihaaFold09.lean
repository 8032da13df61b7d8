/-
  Boxes: blocks of cells that a call makes for itself.
  Regions that draw, by hand.
-/
import Derived.Test.YtgndiblonhgihaaFold08
import Derived.Test.YtgndiblonhgihaaFold01
import Derived.OrdersHeld
namespace Go.Proofs.Ytgndiblonhgihaa
open Go Go.RowKit
set_option linter.unusedVariables false
set_option linter.unusedSimpArgs false

theorem Only.sets {b : Nat} {u : World} : ∀ (vs : List Value) (o : Nat) (w : World), Only b u w → Only b u (w.setCells b o vs)
  | [], _, _, h => h
  | v :: r, o, w, h => by
    unfold World.setCells
    exact Only.sets r (o + 1) _ (h.set o v)

theorem Only.trans {b : Nat} {u v w : World} (h : Only b u v) (g : Only b v w) : Only b u w :=
  ⟨g.os.trans h.os, g.tape.trans h.tape, g.output.trans h.output, g.size.trans h.size, fun j hj => (g.other j hj).trans (h.other j hj)⟩

theorem blk_set {w : World} {b : Nat} {c : List Value} {t : TypeId} (h : w.heap[b]? = some (.cells c.toArray t)) (j : Nat) (v : Value) : (w.setCell ⟨b, j, none⟩ v).heap[b]? = some (.cells (c.set j v).toArray t) := by
  simp [World.setCell, Array.getElem?_modify, h]

theorem blk_set_other {w : World} {b b' : Nat} {o : Obj} (h : w.heap[b]? = some o) (hb : b ≠ b') (j : Nat) (v : Value) : (w.setCell ⟨b', j, none⟩ v).heap[b]? = some o :=
  (Below.heap_setCell _ _ _ _ hb).trans h

theorem blk_open {w : World} {b : Nat} {c : List Value} {t : TypeId} (h : w.heap[b]? = some (.cells c.toArray t)) (j : Nat) : w.frozen? ⟨b, j, none⟩ = false := by
  simp [World.frozen?, h]

theorem blk_cell {w : World} {b : Nat} {c : List Value} {t : TypeId} (h : w.heap[b]? = some (.cells c.toArray t)) {j : Nat} {v : Value} (hj : c[j]? = some v) : w.cell? ⟨b, j, none⟩ = some v := by
  simp [World.cell?, h, hj]

def setsL (c : List Value) (o : Nat) : List Value → List Value
  | [] => c
  | v :: r => setsL (c.set o v) (o + 1) r

theorem blk_sets {b : Nat} {t : TypeId} : ∀ (vs : List Value) (o : Nat) (c : List Value) (w : World), w.heap[b]? = some (.cells c.toArray t) → (w.setCells b o vs).heap[b]? = some (.cells (setsL c o vs).toArray t)
  | [], _, _, _, h => h
  | v :: r, o, c, w, h => by
    unfold World.setCells setsL
    exact blk_sets r (o + 1) _ _ (blk_set h o v)

theorem setsL_eq : ∀ (vs : List Value) (o : Nat) (c : List Value), o + vs.length ≤ c.length → setsL c o vs = c.take o ++ vs ++ c.drop (o + vs.length)
  | [], o, c, h => by simp [setsL]
  | v :: r, o, c, h => by
    simp only [List.length_cons] at h
    unfold setsL
    rw [setsL_eq r (o + 1) (c.set o v) (by simp; omega), List.take_succ_eq_append_getElem (by simp; omega)]
    have e1 : (c.set o v).take o = c.take o := by
      rw [List.take_set]
      exact List.set_eq_of_length_le (by simp; omega)
    rw [e1]
    simp only [List.getElem_set_self, List.length_cons]
    rw [List.drop_set, if_pos (by omega), show o + 1 + r.length = o + (r.length + 1) by omega]
    simp

theorem setsL_all (c vs : List Value) (h : vs.length = c.length) : setsL c 0 vs = vs := by
  rw [setsL_eq vs 0 c (by omega)]
  simp [h]

theorem box_store {ty : TypeId} {n : Nat} {w : World} {R : Nat} {c : List Value} (hs : ∀ w, (Go.sizeOf ty).run Try.prog w = .ok n w) (h : w.heap[R]? = some (.cells c.toArray ty)) (hl : c.length = n) (V : List Value) (hV : V.length = n) (h1 : ∀ v ∈ V, v.oneCell' = true) :
    ∃ w', (Instr.storeAt ty (.pointer (some ⟨R, 0, none⟩)) (.agg V.toArray)).run Try.prog w = .ok () w' ∧ w'.heap[R]? = some (.cells V.toArray ty) ∧ Only R w w' := by
  refine ⟨_, agg_store hs hV h1 (fun j hj => ?_) (fun j => blk_open h j), ?_, Only.sets _ _ _ (Only.refl _ _)⟩
  · rw [Nat.zero_add, blk_cell h (j := j) (v := c[j]'(by omega)) (by simp)]
    rfl
  · rw [blk_sets V 0 c w h, setsL_all _ _ (by omega)]

/-- A new box is given its cells. -/
theorem box_new {ty : TypeId} {n : Nat} (hs : ∀ w, (Go.sizeOf ty).run Try.prog w = .ok n w) (w : World) (c : List Value) (hl : c.length = n) (V : List Value) (hV : V.length = n) (h1 : ∀ v ∈ V, v.oneCell' = true) :
    ∃ w', (Instr.storeAt ty (.pointer (some ⟨w.heap.size, 0, none⟩)) (.agg V.toArray)).run Try.prog (w.alloc (.cells c.toArray ty)) = .ok () w' ∧ w'.heap[w.heap.size]? = some (.cells V.toArray ty) ∧ Below w.heap.size w w' := by
  obtain ⟨w', h, hb, ho⟩ := box_store hs (blk_new w (.cells c.toArray ty)) hl V hV h1
  exact ⟨w', h, hb, ((Below.refl _ w).alloc (Nat.le_refl _) _).trans (ho.below (Nat.le_refl _))⟩

/-- As arm_load and arm_store, the form of the operation asked first. -/
theorem armL {P : Program} {w : World} {ops : Array Oper} {rest : List Oper} {o : Oper} {a : Act} {Q : Exit → Act → World → Prop} (p : Operand) (t : TypeId) (hop : o.op = Op.load t p) (hg : o.guard = none) {vp v : Value} (hp : a.eval p = vp) (hrun : (Instr.loadAt t vp).run P w = .ok v w) (hK : wpList P ops Q rest (a.put o.dst v) w) : wpList P ops Q (o :: rest) a w :=
  arm_load (by simp [Region.wanted, hg]) p t hop hp hrun hK
theorem armS {P : Program} {w w2 : World} {ops : Array Oper} {rest : List Oper} {o : Oper} {a : Act} {Q : Exit → Act → World → Prop} (p x : Operand) (t : TypeId) (hop : o.op = Op.store t p x) (hg : o.guard = none) {vp vx : Value} (hp : a.eval p = vp) (hx : a.eval x = vx) (hrun : (Instr.storeAt t vp vx).run P w = .ok () w2) (hK : wpList P ops Q rest (a.put o.dst (.tuple #[])) w2) : wpList P ops Q (o :: rest) a w :=
  arm_store (by simp [Region.wanted, hg]) p x t hop hp hx hrun hK

theorem step_callR {P : Program} {ops : Array Oper} {o : Oper} {a : Act} {w : World} {K : Act → World → Prop} {Q : Exit → Act → World → Prop} {E : Prop} {R : Value → World → Prop} (hg : o.guard = none) (f : FuncId) (vs : Array Value)
    (hrun : (execOp a.eval o).run P w = .ok (.enter f vs) w) (hc : Calls P f vs w fun e w' => ∃ v, e = .returned v ∧ R v w') (hK : ∀ v w2, R v w2 → K (a.put o.dst v) w2) :
    if Region.wanted o (yielded ops a.tmps) = true then Oper.wp P o a w K Q else E := by
  have hw : Region.wanted o (yielded ops a.tmps) = true := by simp [Region.wanted, hg]
  rw [if_pos hw]
  unfold Oper.wp
  rw [hrun]
  refine hc.mono ?_
  rintro e w' ⟨v, rfl, hr⟩
  exact hK v w' hr

/-- Bytes as cells. -/
def b8 (l : List Int) : List Value := l.map (fun z => Value.int .u8 z)
theorem b8_length (l : List Int) : (b8 l).length = l.length := by simp [b8]
theorem b8_one (l : List Int) : ∀ v ∈ b8 l, v.oneCell' = true := by
  intro v hv
  obtain ⟨z, _, rfl⟩ := List.mem_map.1 hv
  rfl
theorem b8_set (l : List Int) (k : Nat) (z : Int) : (b8 l).set k (.int .u8 z) = b8 (l.set k z) := by simp [b8, List.map_set]

theorem res3c {P : Program} {fn : Func} {a b c : Tmp} {t : TypeId} (h : fn.results = #[.cell a t, .tmp b, .tmp c]) {tmps : Array Value} {R : Addr} (hp : tmps.getD a undef = .pointer (some R)) {v : Value} {w : World} (hl : (loadVar t R).run P w = .ok v w) :
    (results fn tmps).run P w = .ok (.tuple #[v, tmps.getD b undef, tmps.getD c undef]) w := by
  rw [Array.getD_eq_getD_getElem?] at hp
  simp [results, h, hp, asAddr, hl]

end Go.Proofs.Ytgndiblonhgihaa

namespace Go.Proofs.Ytgndiblonhgihaa
open Go Go.RowKit
set_option linter.unusedVariables false
set_option linter.unusedSimpArgs false

theorem wpOp_none {P : Program} {ops : Array Oper} {i : Nat} {o : Oper} {K : Act → World → Prop} {Q : Exit → Act → World → Prop} {a : Act} {w : World} (hi : ops[i]? = some o) (hg : o.guard = none) (h : o.wp P a w K Q) : wpOp P ops Q i K a w := by
  unfold wpOp
  rw [hi]
  simp only
  rw [if_pos (by simp [Region.wanted, hg])]
  exact .inl h

theorem all_one {P : Program} {ops : Array Oper} {Q : Exit → Act → World → Prop} {md : Region.Mode} {S : World → Prop} {i : Nat} {o : Oper} {fuel : Nat} {listed : Array Bool} {a : Act} {w : World} (hr : Region.ready md ops listed = [i]) (hi : ops[i]? = some o) (hg : o.guard = none)
    (h : o.wp P a w (fun a' w' => S w' ∧ wpAnyH P md ops Q S fuel (listed.setIfInBounds i true) a' w') Q) : wpAnyH P md ops Q S (fuel + 1) listed a w := by
  refine wpAnyH_all (rs := [i]) hr (by simp) ?_
  intro j hj
  obtain rfl : j = i := by simpa using hj
  exact wpOp_none hi hg h

theorem all_two {P : Program} {ops : Array Oper} {Q : Exit → Act → World → Prop} {md : Region.Mode} {S : World → Prop} {i1 i2 : Nat} {o1 o2 : Oper} {fuel : Nat} {listed : Array Bool} {a : Act} {w : World} (hr : Region.ready md ops listed = [i1, i2]) (h1 : ops[i1]? = some o1) (g1 : o1.guard = none) (h2 : ops[i2]? = some o2) (g2 : o2.guard = none)
    (k1 : o1.wp P a w (fun a' w' => S w' ∧ wpAnyH P md ops Q S fuel (listed.setIfInBounds i1 true) a' w') Q) (k2 : o2.wp P a w (fun a' w' => S w' ∧ wpAnyH P md ops Q S fuel (listed.setIfInBounds i2 true) a' w') Q) : wpAnyH P md ops Q S (fuel + 1) listed a w := by
  refine wpAnyH_all (rs := [i1, i2]) hr (by simp) ?_
  intro j hj
  simp at hj
  rcases hj with rfl | rfl
  · exact wpOp_none h1 g1 k1
  · exact wpOp_none h2 g2 k2

theorem take_one {d : Option Nat} {P : Program} {ops : Array Oper} {Q : Exit → Act → World → Prop} {md : Region.Mode} {S : World → Prop} {i : Nat} {o : Oper} {v : Value} {fuel : Nat} {listed : Array Bool} {a : Act} {w : World} (hi : ops[i]? = some o) (hg : o.guard = none) (hd : o.dst = d)
    (hs : Region.noSelect ops = true) (hf : Region.free md ops listed i = true) (hr : (Region.ready md ops listed).contains i = true) (hQ : ∀ c (a : Act) d v w, Q (.panic c) (a.put d v) w → Q (.panic c) a w)
    (hy : ∀ w, S w → (execOp a.eval o).run P w = .ok (.value v) w) (hS : S w) (h : wpAnyH P md ops Q S fuel (listed.setIfInBounds i true) (a.put d v) w) : wpAnyH P md ops Q S (fuel + 1) listed a w :=
  wpAnyH_take hi hs hf hr (fun c a w q => hQ c a _ _ w q) (.inl ⟨by simp [Region.wanted, hg], hy⟩) hS (hd ▸ h)

theorem wp_call {P : Program} {o : Oper} {a : Act} {d : Option Nat} {w : World} {K : Act → World → Prop} {Q : Exit → Act → World → Prop} {R : Value → World → Prop} (f : FuncId) (vs : Array Value) (hd : o.dst = d)
    (hrun : (execOp a.eval o).run P w = .ok (.enter f vs) w) (hc : Calls P f vs w fun e w' => ∃ v, e = .returned v ∧ R v w') (hK : ∀ v w2, R v w2 → K (a.put d v) w2) : o.wp P a w K Q := by
  subst hd
  unfold Oper.wp
  rw [hrun]
  refine hc.mono ?_
  rintro e w' ⟨v, rfl, hr⟩
  exact hK v w' hr

theorem ex_loadA {P : Program} {o : Oper} {a : Act} {W : World} (k : Operand) (t : TypeId) {vp v : Value} (hop : o.op = Op.load t k) (hk : a.eval k = vp) (h : (Instr.loadAt t vp).run P W = .ok v W) : (execOp a.eval o).run P W = .ok (.value v) W := by
  simp [execOp, hop, hk, h, Result.andThen]
theorem ex_moveA {P : Program} {o : Oper} {a : Act} {W : World} (p : Operand) (hop : o.op = Op.move p) {v : Value} (hp : a.eval p = v) : (execOp a.eval o).run P W = .ok (.value v) W := by
  generalize a.eval = ev at *
  simp [execOp, hop, hp, go_sem]
theorem ex_buildA {P : Program} {o : Oper} {a : Act} {W : World} (t : TypeId) (ps : List (Nat × Operand)) (hop : o.op = Op.build t ps.toArray) {vs : List (Nat × Value)} (hv : ps.map (fun p => (p.1, a.eval p.2)) = vs) {v : Value} (hrun : (Instr.build t vs.toArray).run P W = .ok v W) : (execOp a.eval o).run P W = .ok (.value v) W := by
  have e : (ps.toArray.map fun (i, x) => (i, a.eval x)) = vs.toArray := by
    rw [← hv]
    simp
  simp only [execOp, hop]
  rw [e]
  simp [hrun, Result.andThen]
theorem wp_storeA {P : Program} {o : Oper} {a : Act} {w w2 : World} {K : Act → World → Prop} {Q : Exit → Act → World → Prop} (p x : Operand) (t : TypeId) (hop : o.op = Op.store t p x) (hd : o.dst = none) {vp vx : Value} (hp : a.eval p = vp) (hx : a.eval x = vx) (hrun : (Instr.storeAt t vp vx).run P w = .ok () w2) (hK : K a w2) : o.wp P a w K Q := by
  have hK' : K (a.put o.dst (.tuple #[])) w2 := by rw [hd]; exact hK
  unfold Oper.wp
  simp [execOp, hop, hp, hx, hrun, Result.andThen]
  exact hK'
theorem wp_allocA {P : Program} {o : Oper} {a : Act} {d : Option Nat} {w : World} {K : Act → World → Prop} {Q : Exit → Act → World → Prop} (t : TypeId) (hop : o.op = Op.alloc t) (hd : o.dst = d) {v : Value} {w2 : World} (hrun : (execOp a.eval o).run P w = .ok (.value v) w2) (hK : K (a.put d v) w2) : o.wp P a w K Q := by
  subst hd
  unfold Oper.wp
  rw [hrun]
  exact hK

end Go.Proofs.Ytgndiblonhgihaa
