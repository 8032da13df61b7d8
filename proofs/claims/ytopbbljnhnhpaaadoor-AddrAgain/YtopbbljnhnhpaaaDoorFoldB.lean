/-
  Boxes: blocks of cells that a call makes for itself.
  Regions that draw, by hand.
  Regions that draw, by hand: what is left of one, a call in it, a load of a number.
  Prefix6.
-/
import Derived.Test.YtopbbljnhnhpaaaDoorAgg
import Derived.Test.YtopbbljnhnhpaaaDoorAddrCut
import Derived.OrdersHeld
import Derived.Test.YtopbbljnhnhpaaaDoorRd2
import Derived.Test.YtopbbljnhnhpaaaDoorFoldA
import Derived.Test.YtopbbljnhnhpaaaDoorSixM
import Derived.Test.YtopbbljnhnhpaaaDoorShelf
namespace Go.Proofs.YtopbbljnhnhpaaaDoor
open Go Go.RowKit
set_option linter.unusedVariables false
set_option linter.unusedSimpArgs false

theorem Only.sets {b : Nat} {u : World} : ∀ (vs : List Value) (o : Nat) (w : World), Only b u w → Only b u (w.setCells b o vs)
  | [], _, _, h => h
  | v :: r, o, w, h => by
    unfold World.setCells
    exact Only.sets r (o + 1) _ (h.set o v)

theorem Only.trans {b : Nat} {u v w : World} (h : Only b u v) (g : Only b v w) : Only b u w :=
  ⟨g.os.trans h.os, g.tape.trans h.tape, g.output.trans h.output, g.size.trans h.size, fun j hj => (g.other j hj).trans (h.other j hj)⟩

theorem blk_set {w : World} {b : Nat} {c : List Value} {t : TypeId} (h : w.heap[b]? = some (.cells c.toArray t)) (j : Nat) (v : Value) : (w.setCell ⟨b, j, none⟩ v).heap[b]? = some (.cells (c.set j v).toArray t) := by
  simp [World.setCell, Array.getElem?_modify, h]

theorem blk_set_other {w : World} {b b' : Nat} {o : Obj} (h : w.heap[b]? = some o) (hb : b ≠ b') (j : Nat) (v : Value) : (w.setCell ⟨b', j, none⟩ v).heap[b]? = some o :=
  (Below.heap_setCell _ _ _ _ hb).trans h

theorem blk_open {w : World} {b : Nat} {c : List Value} {t : TypeId} (h : w.heap[b]? = some (.cells c.toArray t)) (j : Nat) : w.frozen? ⟨b, j, none⟩ = false := by
  simp [World.frozen?, h]

theorem blk_cell {w : World} {b : Nat} {c : List Value} {t : TypeId} (h : w.heap[b]? = some (.cells c.toArray t)) {j : Nat} {v : Value} (hj : c[j]? = some v) : w.cell? ⟨b, j, none⟩ = some v := by
  simp [World.cell?, h, hj]

def setsL (c : List Value) (o : Nat) : List Value → List Value
  | [] => c
  | v :: r => setsL (c.set o v) (o + 1) r

theorem blk_sets {b : Nat} {t : TypeId} : ∀ (vs : List Value) (o : Nat) (c : List Value) (w : World), w.heap[b]? = some (.cells c.toArray t) → (w.setCells b o vs).heap[b]? = some (.cells (setsL c o vs).toArray t)
  | [], _, _, _, h => h
  | v :: r, o, c, w, h => by
    unfold World.setCells setsL
    exact blk_sets r (o + 1) _ _ (blk_set h o v)

theorem setsL_eq : ∀ (vs : List Value) (o : Nat) (c : List Value), o + vs.length ≤ c.length → setsL c o vs = c.take o ++ vs ++ c.drop (o + vs.length)
  | [], o, c, h => by simp [setsL]
  | v :: r, o, c, h => by
    simp only [List.length_cons] at h
    unfold setsL
    rw [setsL_eq r (o + 1) (c.set o v) (by simp; omega), List.take_succ_eq_append_getElem (by simp; omega)]
    have e1 : (c.set o v).take o = c.take o := by
      rw [List.take_set]
      exact List.set_eq_of_length_le (by simp; omega)
    rw [e1]
    simp only [List.getElem_set_self, List.length_cons]
    rw [List.drop_set, if_pos (by omega), show o + 1 + r.length = o + (r.length + 1) by omega]
    simp

theorem setsL_all (c vs : List Value) (h : vs.length = c.length) : setsL c 0 vs = vs := by
  rw [setsL_eq vs 0 c (by omega)]
  simp [h]

theorem box_store {ty : TypeId} {n : Nat} {w : World} {R : Nat} {c : List Value} (hs : ∀ w, (Go.sizeOf ty).run Tryd.prog w = .ok n w) (h : w.heap[R]? = some (.cells c.toArray ty)) (hl : c.length = n) (V : List Value) (hV : V.length = n) (h1 : ∀ v ∈ V, v.oneCell' = true) :
    ∃ w', (Instr.storeAt ty (.pointer (some ⟨R, 0, none⟩)) (.agg V.toArray)).run Tryd.prog w = .ok () w' ∧ w'.heap[R]? = some (.cells V.toArray ty) ∧ Only R w w' := by
  refine ⟨_, agg_store hs hV h1 (fun j hj => ?_) (fun j => blk_open h j), ?_, Only.sets _ _ _ (Only.refl _ _)⟩
  · rw [Nat.zero_add, blk_cell h (j := j) (v := c[j]'(by omega)) (by simp)]
    rfl
  · rw [blk_sets V 0 c w h, setsL_all _ _ (by omega)]

/-- A new box is given its cells. -/
theorem box_new {ty : TypeId} {n : Nat} (hs : ∀ w, (Go.sizeOf ty).run Tryd.prog w = .ok n w) (w : World) (c : List Value) (hl : c.length = n) (V : List Value) (hV : V.length = n) (h1 : ∀ v ∈ V, v.oneCell' = true) :
    ∃ w', (Instr.storeAt ty (.pointer (some ⟨w.heap.size, 0, none⟩)) (.agg V.toArray)).run Tryd.prog (w.alloc (.cells c.toArray ty)) = .ok () w' ∧ w'.heap[w.heap.size]? = some (.cells V.toArray ty) ∧ Below w.heap.size w w' := by
  obtain ⟨w', h, hb, ho⟩ := box_store hs (blk_new w (.cells c.toArray ty)) hl V hV h1
  exact ⟨w', h, hb, ((Below.refl _ w).alloc (Nat.le_refl _) _).trans (ho.below (Nat.le_refl _))⟩

/-- As arm_load and arm_store, the form of the operation asked first. -/
theorem armL {P : Program} {w : World} {ops : Array Oper} {rest : List Oper} {o : Oper} {a : Act} {Q : Exit → Act → World → Prop} (p : Operand) (t : TypeId) (hop : o.op = Op.load t p) (hg : o.guard = none) {vp v : Value} (hp : a.eval p = vp) (hrun : (Instr.loadAt t vp).run P w = .ok v w) (hK : wpList P ops Q rest (a.put o.dst v) w) : wpList P ops Q (o :: rest) a w :=
  arm_load (by simp [Region.wanted, hg]) p t hop hp hrun hK
theorem armS {P : Program} {w w2 : World} {ops : Array Oper} {rest : List Oper} {o : Oper} {a : Act} {Q : Exit → Act → World → Prop} (p x : Operand) (t : TypeId) (hop : o.op = Op.store t p x) (hg : o.guard = none) {vp vx : Value} (hp : a.eval p = vp) (hx : a.eval x = vx) (hrun : (Instr.storeAt t vp vx).run P w = .ok () w2) (hK : wpList P ops Q rest (a.put o.dst (.tuple #[])) w2) : wpList P ops Q (o :: rest) a w :=
  arm_store (by simp [Region.wanted, hg]) p x t hop hp hx hrun hK

theorem step_callR {P : Program} {ops : Array Oper} {o : Oper} {a : Act} {w : World} {K : Act → World → Prop} {Q : Exit → Act → World → Prop} {E : Prop} {R : Value → World → Prop} (hg : o.guard = none) (f : FuncId) (vs : Array Value)
    (hrun : (execOp a.eval o).run P w = .ok (.enter f vs) w) (hc : Calls P f vs w fun e w' => ∃ v, e = .returned v ∧ R v w') (hK : ∀ v w2, R v w2 → K (a.put o.dst v) w2) :
    if Region.wanted o (yielded ops a.tmps) = true then Oper.wp P o a w K Q else E := by
  have hw : Region.wanted o (yielded ops a.tmps) = true := by simp [Region.wanted, hg]
  rw [if_pos hw]
  unfold Oper.wp
  rw [hrun]
  refine hc.mono ?_
  rintro e w' ⟨v, rfl, hr⟩
  exact hK v w' hr

/-- Bytes as cells. -/
def b8 (l : List Int) : List Value := l.map (fun z => Value.int .u8 z)
theorem b8_length (l : List Int) : (b8 l).length = l.length := by simp [b8]
theorem b8_one (l : List Int) : ∀ v ∈ b8 l, v.oneCell' = true := by
  intro v hv
  obtain ⟨z, _, rfl⟩ := List.mem_map.1 hv
  rfl
theorem b8_set (l : List Int) (k : Nat) (z : Int) : (b8 l).set k (.int .u8 z) = b8 (l.set k z) := by simp [b8, List.map_set]

theorem res3c {P : Program} {fn : Func} {a b c : Tmp} {t : TypeId} (h : fn.results = #[.cell a t, .tmp b, .tmp c]) {tmps : Array Value} {R : Addr} (hp : tmps.getD a undef = .pointer (some R)) {v : Value} {w : World} (hl : (loadVar t R).run P w = .ok v w) :
    (results fn tmps).run P w = .ok (.tuple #[v, tmps.getD b undef, tmps.getD c undef]) w := by
  rw [Array.getD_eq_getD_getElem?] at hp
  simp [results, h, hp, asAddr, hl]

end Go.Proofs.YtopbbljnhnhpaaaDoor

namespace Go.Proofs.YtopbbljnhnhpaaaDoor
open Go Go.RowKit
set_option linter.unusedVariables false
set_option linter.unusedSimpArgs false

theorem wpOp_none {P : Program} {ops : Array Oper} {i : Nat} {o : Oper} {K : Act → World → Prop} {Q : Exit → Act → World → Prop} {a : Act} {w : World} (hi : ops[i]? = some o) (hg : o.guard = none) (h : o.wp P a w K Q) : wpOp P ops Q i K a w := by
  unfold wpOp
  rw [hi]
  simp only
  rw [if_pos (by simp [Region.wanted, hg])]
  exact .inl h

theorem all_one {P : Program} {ops : Array Oper} {Q : Exit → Act → World → Prop} {md : Region.Mode} {S : World → Prop} {i : Nat} {o : Oper} {fuel : Nat} {listed : Array Bool} {a : Act} {w : World} (hr : Region.ready md ops listed = [i]) (hi : ops[i]? = some o) (hg : o.guard = none)
    (h : o.wp P a w (fun a' w' => S w' ∧ wpAnyH P md ops Q S fuel (listed.setIfInBounds i true) a' w') Q) : wpAnyH P md ops Q S (fuel + 1) listed a w := by
  refine wpAnyH_all (rs := [i]) hr (by simp) ?_
  intro j hj
  obtain rfl : j = i := by simpa using hj
  exact wpOp_none hi hg h

theorem all_two {P : Program} {ops : Array Oper} {Q : Exit → Act → World → Prop} {md : Region.Mode} {S : World → Prop} {i1 i2 : Nat} {o1 o2 : Oper} {fuel : Nat} {listed : Array Bool} {a : Act} {w : World} (hr : Region.ready md ops listed = [i1, i2]) (h1 : ops[i1]? = some o1) (g1 : o1.guard = none) (h2 : ops[i2]? = some o2) (g2 : o2.guard = none)
    (k1 : o1.wp P a w (fun a' w' => S w' ∧ wpAnyH P md ops Q S fuel (listed.setIfInBounds i1 true) a' w') Q) (k2 : o2.wp P a w (fun a' w' => S w' ∧ wpAnyH P md ops Q S fuel (listed.setIfInBounds i2 true) a' w') Q) : wpAnyH P md ops Q S (fuel + 1) listed a w := by
  refine wpAnyH_all (rs := [i1, i2]) hr (by simp) ?_
  intro j hj
  simp at hj
  rcases hj with rfl | rfl
  · exact wpOp_none h1 g1 k1
  · exact wpOp_none h2 g2 k2

theorem take_one {d : Option Nat} {P : Program} {ops : Array Oper} {Q : Exit → Act → World → Prop} {md : Region.Mode} {S : World → Prop} {i : Nat} {o : Oper} {v : Value} {fuel : Nat} {listed : Array Bool} {a : Act} {w : World} (hi : ops[i]? = some o) (hg : o.guard = none) (hd : o.dst = d)
    (hs : Region.noSelect ops = true) (hf : Region.free md ops listed i = true) (hr : (Region.ready md ops listed).contains i = true) (hQ : ∀ c (a : Act) d v w, Q (.panic c) (a.put d v) w → Q (.panic c) a w)
    (hy : ∀ w, S w → (execOp a.eval o).run P w = .ok (.value v) w) (hS : S w) (h : wpAnyH P md ops Q S fuel (listed.setIfInBounds i true) (a.put d v) w) : wpAnyH P md ops Q S (fuel + 1) listed a w :=
  wpAnyH_take hi hs hf hr (fun c a w q => hQ c a _ _ w q) (.inl ⟨by simp [Region.wanted, hg], hy⟩) hS (hd ▸ h)

theorem wp_call {P : Program} {o : Oper} {a : Act} {d : Option Nat} {w : World} {K : Act → World → Prop} {Q : Exit → Act → World → Prop} {R : Value → World → Prop} (f : FuncId) (vs : Array Value) (hd : o.dst = d)
    (hrun : (execOp a.eval o).run P w = .ok (.enter f vs) w) (hc : Calls P f vs w fun e w' => ∃ v, e = .returned v ∧ R v w') (hK : ∀ v w2, R v w2 → K (a.put d v) w2) : o.wp P a w K Q := by
  subst hd
  unfold Oper.wp
  rw [hrun]
  refine hc.mono ?_
  rintro e w' ⟨v, rfl, hr⟩
  exact hK v w' hr

theorem ex_loadA {P : Program} {o : Oper} {a : Act} {W : World} (k : Operand) (t : TypeId) {vp v : Value} (hop : o.op = Op.load t k) (hk : a.eval k = vp) (h : (Instr.loadAt t vp).run P W = .ok v W) : (execOp a.eval o).run P W = .ok (.value v) W := by
  simp [execOp, hop, hk, h, Result.andThen]
theorem ex_moveA {P : Program} {o : Oper} {a : Act} {W : World} (p : Operand) (hop : o.op = Op.move p) {v : Value} (hp : a.eval p = v) : (execOp a.eval o).run P W = .ok (.value v) W := by
  generalize a.eval = ev at *
  simp [execOp, hop, hp, go_sem]
theorem ex_buildA {P : Program} {o : Oper} {a : Act} {W : World} (t : TypeId) (ps : List (Nat × Operand)) (hop : o.op = Op.build t ps.toArray) {vs : List (Nat × Value)} (hv : ps.map (fun p => (p.1, a.eval p.2)) = vs) {v : Value} (hrun : (Instr.build t vs.toArray).run P W = .ok v W) : (execOp a.eval o).run P W = .ok (.value v) W := by
  have e : (ps.toArray.map fun (i, x) => (i, a.eval x)) = vs.toArray := by
    rw [← hv]
    simp
  simp only [execOp, hop]
  rw [e]
  simp [hrun, Result.andThen]
theorem wp_storeA {P : Program} {o : Oper} {a : Act} {w w2 : World} {K : Act → World → Prop} {Q : Exit → Act → World → Prop} (p x : Operand) (t : TypeId) (hop : o.op = Op.store t p x) (hd : o.dst = none) {vp vx : Value} (hp : a.eval p = vp) (hx : a.eval x = vx) (hrun : (Instr.storeAt t vp vx).run P w = .ok () w2) (hK : K a w2) : o.wp P a w K Q := by
  have hK' : K (a.put o.dst (.tuple #[])) w2 := by rw [hd]; exact hK
  unfold Oper.wp
  simp [execOp, hop, hp, hx, hrun, Result.andThen]
  exact hK'
theorem wp_allocA {P : Program} {o : Oper} {a : Act} {d : Option Nat} {w : World} {K : Act → World → Prop} {Q : Exit → Act → World → Prop} (t : TypeId) (hop : o.op = Op.alloc t) (hd : o.dst = d) {v : Value} {w2 : World} (hrun : (execOp a.eval o).run P w = .ok (.value v) w2) (hK : K (a.put d v) w2) : o.wp P a w K Q := by
  subst hd
  unfold Oper.wp
  rw [hrun]
  exact hK

end Go.Proofs.YtopbbljnhnhpaaaDoor

namespace Go.Proofs.YtopbbljnhnhpaaaDoor
open Go Go.RowKit
set_option linter.unusedVariables false
set_option linter.unusedSimpArgs false

theorem ex_loadG {o : Oper} {a : Act} {W : World} (k : Nat) {p : Addr} {x : Int} (hop : o.op = Op.load 3 (.tmp k)) (hk : a.eval (.tmp k) = .pointer (some p)) (hc : W.cell? p = some (.int .i64 x)) :
    (execOp a.eval o).run Tryd.prog W = .ok (.value (.int .i64 x)) W := by
  generalize a.eval = ev at *
  simp [execOp, hop, hk, go_sem, hc]
theorem region_midG {P : Program} {id : Nat} {ops : Array Oper} {Q : Exit → Act → World → Prop} {a : Act} {w : World} (M : Act → Act → World → Prop) (h : (Code.region id ops true).wp P (fun e a' w' => match e with | .normal => M a a' w' | _ => False) a w) (hM : ∀ a' w', M a a' w' → Q .normal a' w') : (Code.region id ops true).wp P Q a w :=
  wp_mono h (fun e a' w' hm => by cases e <;> first | exact hM a' w' hm | exact hm.elim)
theorem callG {P : Program} {f : FuncId} {vs : Array Value} {w : World} {v : Value} {B : World → Prop} (h : Calls P f vs w fun e w' => e = .returned v ∧ B w') : Calls P f vs w fun e w' => ∃ v', e = .returned v' ∧ (v' = v ∧ B w') :=
  h.mono fun e w' k => ⟨v, k.1, rfl, k.2⟩

end Go.Proofs.YtopbbljnhnhpaaaDoor

namespace Go.Proofs.YtopbbljnhnhpaaaDoor
open Go Go.RowKit
set_option linter.unusedVariables false
set_option linter.unusedSimpArgs false

/-- What was read whole had a whole address ahead of its slash. -/
theorem pre_whole_addr {σ : Type} {R : Reader σ} {most : Int} : ∀ (l : List UInt8) (pos : Nat) (p p' : Pre σ), (p.slashed = true → R.whole p.addr = true) → (p.num.begun = true → p.slashed = true) → (preReader R most).read l pos p = .good p' → R.whole p'.addr = true
  | [], pos, p, p', h1, h2, h => by
    unfold Reader.read at h
    split at h
    · rename_i hw
      injection h with h
      rw [← h]
      exact h1 (h2 hw)
    · cases h
  | c :: l, pos, p, p', h1, h2, h => by
    unfold Reader.read at h
    split at h
    · cases h
    · rename_i q hq
      refine pre_whole_addr l _ q p' ?_ ?_ h
      · have hq' : preTake R most p c.toNat = some q := hq
        unfold preTake at hq'
        split at hq'
        · rename_i hs
          obtain ⟨n, _, rfl⟩ := Option.map_eq_some_iff.1 hq'
          exact h1
        · split at hq'
          · rename_i hs hc
            cases hq'
            exact fun _ => hc.2
          · rename_i hs hc
            obtain ⟨n, _, rfl⟩ := Option.map_eq_some_iff.1 hq'
            exact fun e => absurd e hs
      · have hq' : preTake R most p c.toNat = some q := hq
        unfold preTake at hq'
        split at hq'
        · rename_i hs
          obtain ⟨n, _, rfl⟩ := Option.map_eq_some_iff.1 hq'
          exact fun _ => hs
        · split at hq'
          · cases hq'
            exact fun _ => rfl
          · obtain ⟨n, _, rfl⟩ := Option.map_eq_some_iff.1 hq'
            exact h2

/-- A grouped stays where another block is written. -/
theorem grp_frame {B b c : Nat} (hne : c ≠ b) (st : Grp) (w w' : World) (o k : Nat) (ht : Typed w b 105) (h : GrpIn B c st w) (g : Wrote b o k w w') : GrpIn B c st w' :=
  ⟨h.cells.move (g.other c hne) (fun G cs hG => g.other G (fun e => by
    obtain ⟨cs', hc⟩ := ht
    rw [e, hc] at hG
    cases hG)), h.ok⟩

def PxPost (v : Value) (w : World) (e : Ending) (w' : World) : Prop := e = .returned v ∧ Below w.heap.size w w'

theorem Grp.addr_fit {g : Grp} (hk : g.Ok) : FitB g.addr := by
  have h1 : FitB g.given := by
    unfold Grp.given
    intro z hz
    have hv := hk.value
    split at hz
    · rcases List.mem_append.1 hz with h | h
      · exact ⟨(hk.bytes z h).1, by have := (hk.bytes z h).2; omega⟩
      · unfold Dot.addr at h
        have t0 := hk.tail.e0; have t1 := hk.tail.e1; have t2 := hk.tail.e2; have t3 := hk.tail.num
        simp only [List.mem_cons, List.not_mem_nil, or_false] at h
        rcases h with rfl | rfl | rfl | rfl
        · exact ⟨t0.1, by have := t0.2; omega⟩
        · exact ⟨t1.1, by have := t1.2; omega⟩
        · exact ⟨t2.1, by have := t2.2; omega⟩
        · exact ⟨t3.1, by have := t3.2; omega⟩
    · split at hz
      · rcases List.mem_append.1 hz with h | h
        · exact ⟨(hk.bytes z h).1, by have := (hk.bytes z h).2; omega⟩
        · simp only [List.mem_cons, List.not_mem_nil, or_false] at h
          rcases h with rfl | rfl <;> omega
      · exact ⟨(hk.bytes z hz).1, by have := (hk.bytes z hz).2; omega⟩
  unfold Grp.addr
  split
  · intro z hz
    rcases List.mem_append.1 hz with h | h
    · rcases List.mem_append.1 h with h | h
      · exact h1 z (List.mem_of_mem_take h)
      · rw [(List.mem_replicate.1 h).2]
        decide
    · exact h1 z (List.mem_of_mem_drop h)
  · exact h1

def Pre.new6 : Pre Grp := ⟨Grp.new, false, ⟨0, false⟩⟩

theorem pre6_kind (n : Nat) : Kind (preReader grpReader 128) (n + 1) (fun j => j = n + 1 ∨ j = n + 2) 106 (.pointer (some ⟨n + 2, 0, none⟩)) 130 131 (PreIn 85 (.pointer (some ⟨n + 1, 0, none⟩)) (GrpIn (n + 1) (n + 1)) 128 (n + 2)) :=
  pre_kind (grp_kind (B := n + 1) (b := n + 1)) (by omega) (by omega) (by decide) (grp_frame (by omega))

def prefix6E (l : List UInt8) (x : End (Pre Grp)) : Value :=
  match x with
  | .bad n => .tuple #[P6 (List.replicate 16 0) 0, .int .i64 n, .int .i64 20]
  | .good p => if okP6 p.addr.addr p.num.value then .tuple #[P6 p.addr.addr p.num.value, .int .i64 0, .int .i64 0] else .tuple #[P6 (List.replicate 16 0) 0, .int .i64 (Lib.indexByte l 47), .int .i64 21]


theorem w0_pre6 (w : World) : ∃ W0, W0 = ((w.alloc (.cells #[.int .u8 0, .int .u8 0, .int .u8 0, .int .u8 0, .int .u8 0, .int .u8 0, .int .u8 0, .int .u8 0, .int .u8 0, .int .u8 0, .int .u8 0, .int .u8 0, .int .u8 0, .int .u8 0, .int .u8 0, .int .u8 0, .int .i64 0] 40)).alloc (.cells #[.slice none 0 0, .string ⟨#[]⟩, .int .u16 0, .int .i64 0, .bool false, .int .i64 0, .bool false, .int .u8 0, .int .u8 0, .int .u8 0, .int .i64 0, .int .i64 0, .bool false] 84)).alloc (.cells #[.iface 85 (.pointer (some ⟨w.heap.size + 1, 0, none⟩)), .int .i64 128, .bool false, .int .i64 0, .bool false] 105) ∧ PreIn 85 (.pointer (some ⟨w.heap.size + 1, 0, none⟩)) (GrpIn (w.heap.size + 1) (w.heap.size + 1)) 128 (w.heap.size + 2) Pre.new6 W0 ∧ Below w.heap.size w W0 ∧ W0.heap[w.heap.size]? = some (.cells #[.int .u8 0, .int .u8 0, .int .u8 0, .int .u8 0, .int .u8 0, .int .u8 0, .int .u8 0, .int .u8 0, .int .u8 0, .int .u8 0, .int .u8 0, .int .u8 0, .int .u8 0, .int .u8 0, .int .u8 0, .int .u8 0, .int .i64 0] 40) ∧ W0.heap.size = w.heap.size + 3 := by
  refine ⟨_, rfl, ?_⟩
  have a0 : (((w.alloc (.cells #[.int .u8 0, .int .u8 0, .int .u8 0, .int .u8 0, .int .u8 0, .int .u8 0, .int .u8 0, .int .u8 0, .int .u8 0, .int .u8 0, .int .u8 0, .int .u8 0, .int .u8 0, .int .u8 0, .int .u8 0, .int .u8 0, .int .i64 0] 40)).alloc (.cells #[.slice none 0 0, .string ⟨#[]⟩, .int .u16 0, .int .i64 0, .bool false, .int .i64 0, .bool false, .int .u8 0, .int .u8 0, .int .u8 0, .int .i64 0, .int .i64 0, .bool false] 84)).alloc (.cells #[.iface 85 (.pointer (some ⟨w.heap.size + 1, 0, none⟩)), .int .i64 128, .bool false, .int .i64 0, .bool false] 105)).heap[w.heap.size]? = some (.cells #[.int .u8 0, .int .u8 0, .int .u8 0, .int .u8 0, .int .u8 0, .int .u8 0, .int .u8 0, .int .u8 0, .int .u8 0, .int .u8 0, .int .u8 0, .int .u8 0, .int .u8 0, .int .u8 0, .int .u8 0, .int .u8 0, .int .i64 0] 40) := by
    rw [Below.heap_alloc _ _ _ (by simp; omega), Below.heap_alloc _ _ _ (by simp)]
    exact alloc_new _ _
  have a1 : (((w.alloc (.cells #[.int .u8 0, .int .u8 0, .int .u8 0, .int .u8 0, .int .u8 0, .int .u8 0, .int .u8 0, .int .u8 0, .int .u8 0, .int .u8 0, .int .u8 0, .int .u8 0, .int .u8 0, .int .u8 0, .int .u8 0, .int .u8 0, .int .i64 0] 40)).alloc (.cells #[.slice none 0 0, .string ⟨#[]⟩, .int .u16 0, .int .i64 0, .bool false, .int .i64 0, .bool false, .int .u8 0, .int .u8 0, .int .u8 0, .int .i64 0, .int .i64 0, .bool false] 84)).alloc (.cells #[.iface 85 (.pointer (some ⟨w.heap.size + 1, 0, none⟩)), .int .i64 128, .bool false, .int .i64 0, .bool false] 105)).heap[w.heap.size + 1]? = some (.cells #[.slice none 0 0, .string ⟨#[]⟩, .int .u16 0, .int .i64 0, .bool false, .int .i64 0, .bool false, .int .u8 0, .int .u8 0, .int .u8 0, .int .i64 0, .int .i64 0, .bool false] 84) := by
    rw [Below.heap_alloc _ _ _ (by simp)]
    exact alloc_new2 _ _ _
  have a2 : (((w.alloc (.cells #[.int .u8 0, .int .u8 0, .int .u8 0, .int .u8 0, .int .u8 0, .int .u8 0, .int .u8 0, .int .u8 0, .int .u8 0, .int .u8 0, .int .u8 0, .int .u8 0, .int .u8 0, .int .u8 0, .int .u8 0, .int .u8 0, .int .i64 0] 40)).alloc (.cells #[.slice none 0 0, .string ⟨#[]⟩, .int .u16 0, .int .i64 0, .bool false, .int .i64 0, .bool false, .int .u8 0, .int .u8 0, .int .u8 0, .int .i64 0, .int .i64 0, .bool false] 84)).alloc (.cells #[.iface 85 (.pointer (some ⟨w.heap.size + 1, 0, none⟩)), .int .i64 128, .bool false, .int .i64 0, .bool false] 105)).heap[w.heap.size + 2]? = some (.cells #[.iface 85 (.pointer (some ⟨w.heap.size + 1, 0, none⟩)), .int .i64 128, .bool false, .int .i64 0, .bool false] 105) := by
    simpa using alloc_new ((w.alloc (.cells #[.int .u8 0, .int .u8 0, .int .u8 0, .int .u8 0, .int .u8 0, .int .u8 0, .int .u8 0, .int .u8 0, .int .u8 0, .int .u8 0, .int .u8 0, .int .u8 0, .int .u8 0, .int .u8 0, .int .u8 0, .int .u8 0, .int .i64 0] 40)).alloc (.cells #[.slice none 0 0, .string ⟨#[]⟩, .int .u16 0, .int .i64 0, .bool false, .int .i64 0, .bool false, .int .u8 0, .int .u8 0, .int .u8 0, .int .i64 0, .int .i64 0, .bool false] 84)) (.cells #[.iface 85 (.pointer (some ⟨w.heap.size + 1, 0, none⟩)), .int .i64 128, .bool false, .int .i64 0, .bool false] 105)
  refine ⟨⟨⟨⟨⟨_, a1⟩, Nat.le_refl _, ⟨.slice none 0 0, ?_, World.ownsRow_nil _ _ _ _⟩, ?_, ?_, ?_, ?_, ?_, ?_, ⟨?_, ?_, ?_, ?_, ?_, ?_⟩⟩, Grp.ok_new⟩, ?_, ?_, ?_, ?_, ?_, ⟨by decide, by decide⟩, ⟨_, a2⟩⟩, (((Below.refl _ w).alloc (Nat.le_refl _) _).alloc (by simp) _).alloc (by simp; omega) _, a0, by simp⟩
  all_goals (unfold World.cell?; first | (rw [a1]; rfl) | (rw [a2]; rfl))


set_option maxHeartbeats 8000000 in
set_option maxRecDepth 100000 in
theorem prefix6_calls (s : ByteArray) (hs : s.size ≤ 140737488355328) (w : World) :
    Calls Tryd.prog 24 #[.string s] w fun e w' => PxPost (prefix6E s.data.toList ((preReader grpReader 128).read s.data.toList 0 Pre.new6)) w e w' := by
  generalize hQ : (fun e w' => PxPost (prefix6E s.data.toList ((preReader grpReader 128).read s.data.toList 0 Pre.new6)) w e w') = Q
  have HQ : Hid _ := hQ
  clear hQ
  obtain ⟨W0, hW0, hnew, hB0, hres, hsz⟩ := w0_pre6 w
  have hC := read_calls (pre6_kind w.heap.size) s hs Pre.new6 _ hnew (by rw [hsz]; omega) (fun k hk => by rw [hsz]; omega)
  have HWH : Hid _ := fun p' => pre_whole_addr (R := grpReader) (most := 128) s.data.toList 0 Pre.new6 p' (fun e => by cases e) (fun e => by cases e)
  have HC : Hid _ := hC
  clear hC
  generalize (preReader grpReader 128).read s.data.toList 0 Pre.new6 = x at HC HWH HQ
  have HX : Hid _ := hW0
  clear hW0
  go_enter Tryd.func24, Tryd.ntmps24
  go_wp2_with fail
  rw [← HX.out]
  refine Calls.mono HC.out ?_
  rintro e W1 ⟨hT, hx⟩
  have hblk := (hT.below.block w.heap.size (Nat.lt_succ_self _)).trans hres
  have hB1 : Below w.heap.size w W1 := hB0.trans (hT.below.mono (Nat.le_succ _))
  have lR := (Array.getElem?_eq_some_iff.1 hblk).1
  clear hT hB0 hres hsz hnew HC HX
  cases x with
  | bad n =>
    subst hx
    obtain ⟨w6, hst6, hb6, ho6⟩ := box_store (ty := 40) (c := [.int .u8 0, .int .u8 0, .int .u8 0, .int .u8 0, .int .u8 0, .int .u8 0, .int .u8 0, .int .u8 0, .int .u8 0, .int .u8 0, .int .u8 0, .int .u8 0, .int .u8 0, .int .u8 0, .int .u8 0, .int .u8 0, .int .i64 0]) Tryd.sizeOf40 hblk rfl (cp6 (List.replicate 16 0) 0) rfl (cp6_one _ _)
    have HST : Hid _ := hst6
    have HB : Hid _ := buildZ6
    have HRES : Hid _ := loadVarP6 (l := List.replicate 16 0) (n := 0) rfl (CellsAt.pfx rfl hb6).1
    clear hst6
    go_wp2_with first
      | ((with_reducible show wpList _ _ _ _ _ _); refine armS (.tmp 2) (.tmp 20) 40 rfl rfl rfl rfl HST.out ?_)
    refine bodyPost_ret (res3c Tryd.results24 (R := ⟨w.heap.size, 0, none⟩) rfl HRES.out) rfl ?_
    rw [← HQ.out]
    exact ⟨rfl, hB1.trans (ho6.below (Nat.le_refl _))⟩
  | good p =>
    obtain ⟨rfl, hP⟩ := hx
    have hok := hP.inner.ok
    have hwh := HWH.out p rfl
    have hl16 : p.addr.addr.length = 16 := Grp.addr_len hok hwh
    have c3 : W1.cell? ⟨w.heap.size + 1 + 1, 3, none⟩ = some (.int .i64 p.num.value) := hP.c3
    have l3 := World.block_lt_of_cell? W1 _ c3
    have HA : Hid (∀ X, Below W1.heap.size W1 X → Calls Tryd.prog 56 #[.pointer (some ⟨w.heap.size + 1, 0, none⟩)] X fun e w' => e = .returned (addrV p.addr.addr) ∧ Below X.heap.size X w') := fun X hX => by
      refine grp_addr (B := w.heap.size + 1) (hP.inner.cells.move (hX.block _ (by
        obtain ⟨cs, hcs⟩ := hP.inner.cells.typed
        exact (Array.getElem?_eq_some_iff.1 hcs).1)) (fun G cs hG => hX.block G (Array.getElem?_eq_some_iff.1 hG).1)) hok (fun e => Grp.whole_full hok hwh e)
    have hnum := hP.ok
    have hfit : FitB p.addr.addr := Grp.addr_fit hok
    generalize hLe : p.addr.addr = L at *
    have hnv : 0 ≤ p.num.value ∧ p.num.value ≤ 128 := ⟨hnum.1, hnum.2⟩
    generalize hNe : p.num.value = N at *
    have HE : Hid _ := And.intro hLe hNe
    clear hLe hNe
    clear hP hok hwh HWH hnum
    have HCK : Hid _ := fun X => Check6_calls L N X hfit hl16 ⟨by omega, by omega⟩
    have HBL : Hid (∀ X, (Instr.build 40 #[(0, addrV L), (1, .int .i64 N)]).run Tryd.prog X = .ok (P6 L N) X) := fun X => build6 L N hl16 X
    have hd1 : Below W1.heap.size W1 W1.drew := (Below.refl _ W1).drew
    have c3d : W1.drew.cell? ⟨w.heap.size + 2, 3, none⟩ = some (.int .i64 N) := c3
    have l2 : w.heap.size + 2 < W1.heap.size := l3
    go_wp2_with fail
    refine region_midG (fun a0 a' w' => ∃ b9, a' = ((((((a0.put (some 23) (.pointer (some ⟨w.heap.size + 2, 3, none⟩))).put (some 24) (.pointer (some ⟨w.heap.size + 2, 3, none⟩))).put (some 25) (.int .i64 N)).put (some 22) (addrV L)).put (some 26) (P6 L N)).put (some 9) (.pointer (some ⟨b9, 0, none⟩))) ∧ W1.heap.size ≤ b9 ∧ w'.heap[b9]? = some (.cells (cp6 L N).toArray 40) ∧ Below W1.heap.size W1 w') ?_ ?_
    · skip

      refine wp_region_held (S := fun W => W.cell? ⟨w.heap.size + 2, 3, none⟩ = some (.int .i64 N)) (by kernel_rfl) ?_
      show wpAnyH _ _ _ _ _ 7 (Array.replicate 7 false) _ W1.drew
      refine take_one (i := 1) (d := some 23) (v := .pointer (some ⟨w.heap.size + 2, 3, none⟩)) rfl rfl rfl (by kernel_rfl) (by kernel_rfl) (by kernel_rfl) (fun _ _ _ _ _ h => h.elim) (fun W hS => by kernel_rfl) c3d ?_
      simp only [Act.put, List.setIfInBounds_toArray, List.set_cons_zero, List.set_cons_succ]
      refine take_one (i := 2) (d := some 24) (v := .pointer (some ⟨w.heap.size + 2, 3, none⟩)) rfl rfl rfl (by kernel_rfl) (by kernel_rfl) (by kernel_rfl) (fun _ _ _ _ _ h => h.elim) (fun W hS => by kernel_rfl) c3d ?_
      simp only [Act.put, List.setIfInBounds_toArray, List.set_cons_zero, List.set_cons_succ]
      refine take_one (i := 3) (d := some 25) (v := .int .i64 N) rfl rfl rfl (by kernel_rfl) (by kernel_rfl) (by kernel_rfl) (fun _ _ _ _ _ h => h.elim) (fun W hS => ex_loadG 24 rfl rfl hS) c3d ?_
      simp only [Act.put, List.setIfInBounds_toArray, List.set_cons_zero, List.set_cons_succ]
      refine all_two (i1 := 0) (i2 := 5) (by kernel_rfl) rfl rfl rfl rfl ?_ ?_
      · refine wp_call (d := some 22) 56 _ rfl (by kernel_rfl) (callG (HA.out _ hd1)) ?_
        rintro _ W2 ⟨rfl, hB2⟩
        have hB2' := hd1.trans hB2
        have c32 := (hB2'.cell (p := ⟨w.heap.size + 2, 3, none⟩) l2).trans c3
        refine ⟨c32, ?_⟩
        simp only [Act.put, List.setIfInBounds_toArray, List.set_cons_zero, List.set_cons_succ]
        refine take_one (i := 4) (d := some 26) (v := P6 L N) rfl rfl rfl (by kernel_rfl) (by kernel_rfl) (by kernel_rfl) (fun _ _ _ _ _ h => h.elim) (fun W hS => ex_buildA 40 [(0, .tmp 22), (1, .tmp 25)] rfl (vs := [(0, addrV L), (1, .int .i64 N)]) rfl (HBL.out _)) c32 ?_
        simp only [Act.put, List.setIfInBounds_toArray, List.set_cons_zero, List.set_cons_succ]
        obtain ⟨w5, hst, hb5, hB5⟩ := box_new (ty := 40) Tryd.sizeOf40 W2 [.int .u8 0, .int .u8 0, .int .u8 0, .int .u8 0, .int .u8 0, .int .u8 0, .int .u8 0, .int .u8 0, .int .u8 0, .int .u8 0, .int .u8 0, .int .u8 0, .int .u8 0, .int .u8 0, .int .u8 0, .int .u8 0, .int .i64 0] rfl (cp6 L N) (cp6_length L N hl16) (cp6_one _ _)
        have hB2a := hB2'.trans (((Below.refl _ W2).alloc (Nat.le_refl _) (.cells #[.int .u8 0, .int .u8 0, .int .u8 0, .int .u8 0, .int .u8 0, .int .u8 0, .int .u8 0, .int .u8 0, .int .u8 0, .int .u8 0, .int .u8 0, .int .u8 0, .int .u8 0, .int .u8 0, .int .u8 0, .int .u8 0, .int .i64 0] 40)).mono hB2'.size)
        have c32a := (hB2a.cell (p := ⟨w.heap.size + 2, 3, none⟩) l2).trans c3
        refine all_one (i := 5) (by kernel_rfl) rfl rfl ?_
        refine wp_allocA (d := some 9) 40 rfl rfl (v := .pointer (some ⟨W2.heap.size, 0, none⟩)) (w2 := W2.alloc (.cells #[.int .u8 0, .int .u8 0, .int .u8 0, .int .u8 0, .int .u8 0, .int .u8 0, .int .u8 0, .int .u8 0, .int .u8 0, .int .u8 0, .int .u8 0, .int .u8 0, .int .u8 0, .int .u8 0, .int .u8 0, .int .u8 0, .int .i64 0] 40)) (by simp [execOp, go_sem]) ⟨c32a, ?_⟩
        simp only [Act.put, List.setIfInBounds_toArray, List.set_cons_zero, List.set_cons_succ]
        have hB5' := hB2'.trans (hB5.mono hB2'.size)
        refine all_one (i := 6) (by kernel_rfl) rfl rfl ?_
        refine wp_storeA (.tmp 9) (.tmp 26) 40 rfl rfl rfl rfl hst ⟨(hB5'.cell (p := ⟨w.heap.size + 2, 3, none⟩) l2).trans c3, ?_⟩
        refine wpAnyH_done (by kernel_rfl) ?_ _
        exact ⟨W2.heap.size, rfl, hB2'.size, hb5, hB5'⟩
      · have hBa := hd1.trans ((Below.refl _ W1.drew).alloc (Nat.le_refl _) (.cells #[.int .u8 0, .int .u8 0, .int .u8 0, .int .u8 0, .int .u8 0, .int .u8 0, .int .u8 0, .int .u8 0, .int .u8 0, .int .u8 0, .int .u8 0, .int .u8 0, .int .u8 0, .int .u8 0, .int .u8 0, .int .u8 0, .int .i64 0] 40))
        have hk := blk_new W1.drew (.cells #[.int .u8 0, .int .u8 0, .int .u8 0, .int .u8 0, .int .u8 0, .int .u8 0, .int .u8 0, .int .u8 0, .int .u8 0, .int .u8 0, .int .u8 0, .int .u8 0, .int .u8 0, .int .u8 0, .int .u8 0, .int .u8 0, .int .i64 0] 40)
        have c3a := (hBa.cell (p := ⟨w.heap.size + 2, 3, none⟩) l2).trans c3
        refine wp_allocA (d := some 9) 40 rfl rfl (v := .pointer (some ⟨W1.heap.size, 0, none⟩)) (w2 := W1.drew.alloc (.cells #[.int .u8 0, .int .u8 0, .int .u8 0, .int .u8 0, .int .u8 0, .int .u8 0, .int .u8 0, .int .u8 0, .int .u8 0, .int .u8 0, .int .u8 0, .int .u8 0, .int .u8 0, .int .u8 0, .int .u8 0, .int .u8 0, .int .i64 0] 40)) (by simp [execOp, go_sem]) ⟨c3a, ?_⟩
        simp only [Act.put, List.setIfInBounds_toArray, List.set_cons_zero, List.set_cons_succ]
        refine all_one (i := 0) (by kernel_rfl) rfl rfl ?_
        refine wp_call (d := some 22) 56 _ rfl (by kernel_rfl) (callG (HA.out _ hBa)) ?_
        rintro _ W2 ⟨rfl, hB2⟩
        have hB2' := hBa.trans (hB2.mono hBa.size)
        have hk2 := (hB2.block W1.heap.size (by simp)).trans hk
        have c32 := (hB2'.cell (p := ⟨w.heap.size + 2, 3, none⟩) l2).trans c3
        refine ⟨c32, ?_⟩
        simp only [Act.put, List.setIfInBounds_toArray, List.set_cons_zero, List.set_cons_succ]
        refine take_one (i := 4) (d := some 26) (v := P6 L N) rfl rfl rfl (by kernel_rfl) (by kernel_rfl) (by kernel_rfl) (fun _ _ _ _ _ h => h.elim) (fun W hS => ex_buildA 40 [(0, .tmp 22), (1, .tmp 25)] rfl (vs := [(0, addrV L), (1, .int .i64 N)]) rfl (HBL.out _)) c32 ?_
        simp only [Act.put, List.setIfInBounds_toArray, List.set_cons_zero, List.set_cons_succ]
        obtain ⟨w5, hst, hb5, ho5⟩ := box_store (ty := 40) (c := [.int .u8 0, .int .u8 0, .int .u8 0, .int .u8 0, .int .u8 0, .int .u8 0, .int .u8 0, .int .u8 0, .int .u8 0, .int .u8 0, .int .u8 0, .int .u8 0, .int .u8 0, .int .u8 0, .int .u8 0, .int .u8 0, .int .i64 0]) Tryd.sizeOf40 hk2 rfl (cp6 L N) (cp6_length L N hl16) (cp6_one _ _)
        have hB5' := hB2'.trans (ho5.below (Nat.le_refl _))
        refine all_one (i := 6) (by kernel_rfl) rfl rfl ?_
        refine wp_storeA (.tmp 9) (.tmp 26) 40 rfl rfl rfl rfl hst ⟨(hB5'.cell (p := ⟨w.heap.size + 2, 3, none⟩) l2).trans c3, ?_⟩
        refine wpAnyH_done (by kernel_rfl) ?_ _
        exact ⟨W1.heap.size, rfl, Nat.le_refl _, hb5, hB5'⟩
    rintro a' V ⟨b9, rfl, hb9, hbx, hBV⟩
    simp only [Act.put, List.setIfInBounds_toArray, List.set_cons_zero, List.set_cons_succ]
    have HLD : Hid _ := loadP6 hl16 (CellsAt.pfx hl16 hbx).1
    have hrV := (hBV.block w.heap.size lR).trans hblk
    have hBV1 := hB1.trans (hBV.mono hB1.size)
    have l9 := (Array.getElem?_eq_some_iff.1 hbx).1
    have lV := hBV.size
    clear HA HBL c3 c3d hd1 hBV
    go_wp2_with first
      | ((with_reducible show wpList _ _ _ _ _ _); refine armL (.tmp 9) 40 rfl rfl rfl HLD.out ?_)
    refine Calls.mono (HCK.out _) ?_
    rintro e W4 ⟨rfl, hB4⟩
    have hr4 := (hB4.block w.heap.size (by omega)).trans hrV
    have hx4 := (hB4.block b9 l9).trans hbx
    have hBw4 := hBV1.trans (hB4.mono hBV1.size)
    clear HLD HCK hrV hbx hBV1 hB4
    cases hq : okP6 L N
    · obtain ⟨w6, hst6, hb6, ho6⟩ := box_store (ty := 40) (c := [.int .u8 0, .int .u8 0, .int .u8 0, .int .u8 0, .int .u8 0, .int .u8 0, .int .u8 0, .int .u8 0, .int .u8 0, .int .u8 0, .int .u8 0, .int .u8 0, .int .u8 0, .int .u8 0, .int .u8 0, .int .u8 0, .int .i64 0]) Tryd.sizeOf40 hr4 rfl (cp6 (List.replicate 16 0) 0) rfl (cp6_one _ _)
      have HST : Hid _ := hst6
      have HB : Hid _ := buildZ6
      have HRES : Hid _ := loadVarP6 (l := List.replicate 16 0) (n := 0) rfl (CellsAt.pfx rfl hb6).1
      have HI : Hid _ := Tryd.strings_IndexByte s 47 W4
      have hE : prefix6E s.data.toList (.good p) = .tuple #[P6 (List.replicate 16 0) 0, .int .i64 (Lib.indexByte s.data.toList 47), .int .i64 21] := by
        unfold prefix6E
        dsimp only
        rw [HE.out.1, HE.out.2, hq]
        rfl
      simp only [Bool.false_eq_true, if_false]
      clear hst6
      go_wp2_with fail
      refine Calls.mono HI.out ?_
      rintro e W5 ⟨rfl, rfl⟩
      go_wp2_with first
        | ((with_reducible show wpList _ _ _ _ _ _); refine armS (.tmp 2) (.tmp 30) 40 rfl rfl rfl rfl HST.out ?_)
      refine bodyPost_ret (res3c Tryd.results24 (R := ⟨w.heap.size, 0, none⟩) rfl HRES.out) rfl ?_
      rw [← HQ.out]
      exact ⟨by rw [hE]; rfl, hBw4.trans (ho6.below (Nat.le_refl _))⟩
    · obtain ⟨w6, hst6, hb6, ho6⟩ := box_store (ty := 40) (c := [.int .u8 0, .int .u8 0, .int .u8 0, .int .u8 0, .int .u8 0, .int .u8 0, .int .u8 0, .int .u8 0, .int .u8 0, .int .u8 0, .int .u8 0, .int .u8 0, .int .u8 0, .int .u8 0, .int .u8 0, .int .u8 0, .int .i64 0]) Tryd.sizeOf40 hr4 rfl (cp6 L N) (cp6_length L N hl16) (cp6_one _ _)
      have HST : Hid _ := hst6
      have HLD : Hid _ := loadP6 hl16 (CellsAt.pfx hl16 hx4).1
      have HRES : Hid _ := loadVarP6 hl16 (CellsAt.pfx hl16 hb6).1
      have hE : prefix6E s.data.toList (.good p) = .tuple #[P6 L N, .int .i64 0, .int .i64 0] := by
        unfold prefix6E
        dsimp only
        rw [HE.out.1, HE.out.2, hq]
        rfl
      clear hst6
      simp only [if_true]
      go_wp2_with first
        | ((with_reducible show wpList _ _ _ _ _ _); refine armL (.tmp 9) 40 rfl rfl rfl HLD.out ?_)
        | ((with_reducible show wpList _ _ _ _ _ _); refine armS (.tmp 2) (.tmp 33) 40 rfl rfl rfl rfl HST.out ?_)
      refine bodyPost_ret (res3c Tryd.results24 (R := ⟨w.heap.size, 0, none⟩) rfl HRES.out) rfl ?_
      rw [← HQ.out]
      exact ⟨by rw [hE]; rfl, hBw4.trans (ho6.below (Nat.le_refl _))⟩

end Go.Proofs.YtopbbljnhnhpaaaDoor
