/-
  Boxes: blocks of cells that a call makes for itself.
-/
import Derived.Test.YtlpbffcijhgelaaDoorAgg
import Derived.Test.YtlpbffcijhgelaaDoorAddrCut
namespace Go.Proofs.YtlpbffcijhgelaaDoor
open Go Go.RowKit
set_option linter.unusedVariables false
set_option linter.unusedSimpArgs false

theorem Only.sets {b : Nat} {u : World} : ∀ (vs : List Value) (o : Nat) (w : World), Only b u w → Only b u (w.setCells b o vs)
  | [], _, _, h => h
  | v :: r, o, w, h => by
    unfold World.setCells
    exact Only.sets r (o + 1) _ (h.set o v)

theorem Only.trans {b : Nat} {u v w : World} (h : Only b u v) (g : Only b v w) : Only b u w :=
  ⟨g.os.trans h.os, g.tape.trans h.tape, g.output.trans h.output, g.size.trans h.size, fun j hj => (g.other j hj).trans (h.other j hj)⟩

theorem blk_set {w : World} {b : Nat} {c : List Value} {t : TypeId} (h : w.heap[b]? = some (.cells c.toArray t)) (j : Nat) (v : Value) : (w.setCell ⟨b, j, none⟩ v).heap[b]? = some (.cells (c.set j v).toArray t) := by
  simp [World.setCell, Array.getElem?_modify, h]

theorem blk_set_other {w : World} {b b' : Nat} {o : Obj} (h : w.heap[b]? = some o) (hb : b ≠ b') (j : Nat) (v : Value) : (w.setCell ⟨b', j, none⟩ v).heap[b]? = some o :=
  (Below.heap_setCell _ _ _ _ hb).trans h

theorem blk_open {w : World} {b : Nat} {c : List Value} {t : TypeId} (h : w.heap[b]? = some (.cells c.toArray t)) (j : Nat) : w.frozen? ⟨b, j, none⟩ = false := by
  simp [World.frozen?, h]

theorem blk_cell {w : World} {b : Nat} {c : List Value} {t : TypeId} (h : w.heap[b]? = some (.cells c.toArray t)) {j : Nat} {v : Value} (hj : c[j]? = some v) : w.cell? ⟨b, j, none⟩ = some v := by
  simp [World.cell?, h, hj]

def setsL (c : List Value) (o : Nat) : List Value → List Value
  | [] => c
  | v :: r => setsL (c.set o v) (o + 1) r

theorem blk_sets {b : Nat} {t : TypeId} : ∀ (vs : List Value) (o : Nat) (c : List Value) (w : World), w.heap[b]? = some (.cells c.toArray t) → (w.setCells b o vs).heap[b]? = some (.cells (setsL c o vs).toArray t)
  | [], _, _, _, h => h
  | v :: r, o, c, w, h => by
    unfold World.setCells setsL
    exact blk_sets r (o + 1) _ _ (blk_set h o v)

theorem setsL_eq : ∀ (vs : List Value) (o : Nat) (c : List Value), o + vs.length ≤ c.length → setsL c o vs = c.take o ++ vs ++ c.drop (o + vs.length)
  | [], o, c, h => by simp [setsL]
  | v :: r, o, c, h => by
    simp only [List.length_cons] at h
    unfold setsL
    rw [setsL_eq r (o + 1) (c.set o v) (by simp; omega), List.take_succ_eq_append_getElem (by simp; omega)]
    have e1 : (c.set o v).take o = c.take o := by
      rw [List.take_set]
      exact List.set_eq_of_length_le (by simp; omega)
    rw [e1]
    simp only [List.getElem_set_self, List.length_cons]
    rw [List.drop_set, if_pos (by omega), show o + 1 + r.length = o + (r.length + 1) by omega]
    simp

theorem setsL_all (c vs : List Value) (h : vs.length = c.length) : setsL c 0 vs = vs := by
  rw [setsL_eq vs 0 c (by omega)]
  simp [h]

theorem box_store {ty : TypeId} {n : Nat} {w : World} {R : Nat} {c : List Value} (hs : ∀ w, (Go.sizeOf ty).run Tryd.prog w = .ok n w) (h : w.heap[R]? = some (.cells c.toArray ty)) (hl : c.length = n) (V : List Value) (hV : V.length = n) (h1 : ∀ v ∈ V, v.oneCell' = true) :
    ∃ w', (Instr.storeAt ty (.pointer (some ⟨R, 0, none⟩)) (.agg V.toArray)).run Tryd.prog w = .ok () w' ∧ w'.heap[R]? = some (.cells V.toArray ty) ∧ Only R w w' := by
  refine ⟨_, agg_store hs hV h1 (fun j hj => ?_) (fun j => blk_open h j), ?_, Only.sets _ _ _ (Only.refl _ _)⟩
  · rw [Nat.zero_add, blk_cell h (j := j) (v := c[j]'(by omega)) (by simp)]
    rfl
  · rw [blk_sets V 0 c w h, setsL_all _ _ (by omega)]

/-- A new box is given its cells. -/
theorem box_new {ty : TypeId} {n : Nat} (hs : ∀ w, (Go.sizeOf ty).run Tryd.prog w = .ok n w) (w : World) (c : List Value) (hl : c.length = n) (V : List Value) (hV : V.length = n) (h1 : ∀ v ∈ V, v.oneCell' = true) :
    ∃ w', (Instr.storeAt ty (.pointer (some ⟨w.heap.size, 0, none⟩)) (.agg V.toArray)).run Tryd.prog (w.alloc (.cells c.toArray ty)) = .ok () w' ∧ w'.heap[w.heap.size]? = some (.cells V.toArray ty) ∧ Below w.heap.size w w' := by
  obtain ⟨w', h, hb, ho⟩ := box_store hs (blk_new w (.cells c.toArray ty)) hl V hV h1
  exact ⟨w', h, hb, ((Below.refl _ w).alloc (Nat.le_refl _) _).trans (ho.below (Nat.le_refl _))⟩

/-- As arm_load and arm_store, the form of the operation asked first. -/
theorem armL {P : Program} {w : World} {ops : Array Oper} {rest : List Oper} {o : Oper} {a : Act} {Q : Exit → Act → World → Prop} (p : Operand) (t : TypeId) (hop : o.op = Op.load t p) (hg : o.guard = none) {vp v : Value} (hp : a.eval p = vp) (hrun : (Instr.loadAt t vp).run P w = .ok v w) (hK : wpList P ops Q rest (a.put o.dst v) w) : wpList P ops Q (o :: rest) a w :=
  arm_load (by simp [Region.wanted, hg]) p t hop hp hrun hK
theorem armS {P : Program} {w w2 : World} {ops : Array Oper} {rest : List Oper} {o : Oper} {a : Act} {Q : Exit → Act → World → Prop} (p x : Operand) (t : TypeId) (hop : o.op = Op.store t p x) (hg : o.guard = none) {vp vx : Value} (hp : a.eval p = vp) (hx : a.eval x = vx) (hrun : (Instr.storeAt t vp vx).run P w = .ok () w2) (hK : wpList P ops Q rest (a.put o.dst (.tuple #[])) w2) : wpList P ops Q (o :: rest) a w :=
  arm_store (by simp [Region.wanted, hg]) p x t hop hp hx hrun hK

theorem step_callR {P : Program} {ops : Array Oper} {o : Oper} {a : Act} {w : World} {K : Act → World → Prop} {Q : Exit → Act → World → Prop} {E : Prop} {R : Value → World → Prop} (hg : o.guard = none) (f : FuncId) (vs : Array Value)
    (hrun : (execOp a.eval o).run P w = .ok (.enter f vs) w) (hc : Calls P f vs w fun e w' => ∃ v, e = .returned v ∧ R v w') (hK : ∀ v w2, R v w2 → K (a.put o.dst v) w2) :
    if Region.wanted o (yielded ops a.tmps) = true then Oper.wp P o a w K Q else E := by
  have hw : Region.wanted o (yielded ops a.tmps) = true := by simp [Region.wanted, hg]
  rw [if_pos hw]
  unfold Oper.wp
  rw [hrun]
  refine hc.mono ?_
  rintro e w' ⟨v, rfl, hr⟩
  exact hK v w' hr

/-- Bytes as cells. -/
def b8 (l : List Int) : List Value := l.map (fun z => Value.int .u8 z)
theorem b8_length (l : List Int) : (b8 l).length = l.length := by simp [b8]
theorem b8_one (l : List Int) : ∀ v ∈ b8 l, v.oneCell' = true := by
  intro v hv
  obtain ⟨z, _, rfl⟩ := List.mem_map.1 hv
  rfl
theorem b8_set (l : List Int) (k : Nat) (z : Int) : (b8 l).set k (.int .u8 z) = b8 (l.set k z) := by simp [b8, List.map_set]

theorem res3c {P : Program} {fn : Func} {a b c : Tmp} {t : TypeId} (h : fn.results = #[.cell a t, .tmp b, .tmp c]) {tmps : Array Value} {R : Addr} (hp : tmps.getD a undef = .pointer (some R)) {v : Value} {w : World} (hl : (loadVar t R).run P w = .ok v w) :
    (results fn tmps).run P w = .ok (.tuple #[v, tmps.getD b undef, tmps.getD c undef]) w := by
  rw [Array.getD_eq_getD_getElem?] at hp
  simp [results, h, hp, asAddr, hl]

end Go.Proofs.YtlpbffcijhgelaaDoor
