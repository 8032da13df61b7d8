/-
  Structs and arrays as one value: loads, stores and literals of them, whatever the type; none of their cells is looked at.
  Boxes: blocks of cells that a call makes for itself.
  Numbers below 65536 in hex digits.
  The table of trailing zeros, out of what the statements lay.
-/
import Derived.Test.YtaebknkjhhcneaaGreatDoorFold07
import Derived.Laws.IdiomCopy
import Derived.Laws.Tables
import Derived.Test.YtaebknkjhhcneaaGreatDoorFold04
import Derived.Handy
import Derived.Laws.BytesString
import Derived.Laws.BitsAllLaws
import Derived.Test.YtaebknkjhhcneaaGreatDoorRows
import Derived.Lib.LaidTab
import Derived.Stop.LaidErr
namespace Go.Proofs.YtaebknkjhhcneaaGreatDoor
open Go Go.RowKit
set_option linter.unusedVariables false
set_option linter.unusedSimpArgs false

/-- The cells of a block from a place on. -/
def CellsAt (w : World) (b o : Nat) (vs : List Value) : Prop := ∀ j v, vs[j]? = some v → w.cell? ⟨b, o + j, none⟩ = some v
theorem CellsAt.of_blk {w : World} {b : Nat} {A : Array Value} {t : TypeId} {fr : Nat × Nat} (h : w.heap[b]? = some (.cells A t fr)) : CellsAt w b 0 A.toList := by
  intro j v hj
  simp only [World.cell?, h, Nat.zero_add]
  simpa using hj
theorem CellsAt.part {w : World} {b o : Nat} {xs ys zs : List Value} (h : CellsAt w b o (xs ++ (ys ++ zs))) : CellsAt w b (o + xs.length) ys := by
  intro j v hj
  have hl := (List.getElem?_eq_some_iff.1 hj).1
  have := h (xs.length + j) v (by rw [List.getElem?_append_right (by omega), Nat.add_sub_cancel_left, List.getElem?_append_left hl]; exact hj)
  rwa [Nat.add_assoc]
theorem CellsAt.fst {w : World} {b o : Nat} {xs ys : List Value} (h : CellsAt w b o (xs ++ ys)) : CellsAt w b o xs := by
  intro j v hj
  have hl := (List.getElem?_eq_some_iff.1 hj).1
  exact h j v (by rw [List.getElem?_append_left hl]; exact hj)

theorem CellsAt.lt {w : World} {b o : Nat} {v : Value} {vs : List Value} (h : CellsAt w b o (v :: vs)) : b < w.heap.size := by
  have := h 0 v rfl
  unfold World.cell? at this
  cases hw : w.heap[b]? with
  | none => rw [hw] at this; simp at this
  | some ob => exact (Array.getElem?_eq_some_iff.1 hw).1
theorem CellsAt.up {w : World} {b o : Nat} {vs : List Value} (h : CellsAt w b o vs) (hb : b < w.heap.size) (x : Hi w) : CellsAt x.W b o vs := by
  intro j v hj
  exact (x.below.cell (p := ⟨b, o + j, none⟩) hb).trans (h j v hj)
theorem agg_load {t n : Nat} {w : World} {b o : Nat} {vs : List Value} (ha : ∀ w, (isAgg t).run Tryz.prog w = .ok true w) (hs : ∀ w, (Go.sizeOf t).run Tryz.prog w = .ok n w) (hl : vs.length = n) (h : CellsAt w b o vs) :
    (Instr.loadAt t (.pointer (some ⟨b, o, none⟩))).run Tryz.prog w = .ok (.agg vs.toArray) w := by
  have hl' := run_loadCells_list (P := Tryz.prog) w ⟨b, o, none⟩ vs (fun j v hj => by rw [Go.WideShapes.add_plain]; exact h j v hj)
  rw [hl] at hl'
  simp [Instr.loadAt, Instr.sureAddr, loadVar, ha, hs, hl']
theorem agg_loadVar {t n : Nat} {w : World} {b o : Nat} {vs : List Value} (ha : ∀ w, (isAgg t).run Tryz.prog w = .ok true w) (hs : ∀ w, (Go.sizeOf t).run Tryz.prog w = .ok n w) (hl : vs.length = n) (h : CellsAt w b o vs) :
    (loadVar t ⟨b, o, none⟩).run Tryz.prog w = .ok (.agg vs.toArray) w := by
  have := agg_load ha hs hl h
  simpa [Instr.loadAt, Instr.sureAddr] using this
theorem agg_store {t n : Nat} {w : World} {b o : Nat} {vs : List Value} (hs : ∀ w, (Go.sizeOf t).run Tryz.prog w = .ok n w) (hl : vs.length = n) (h1 : ∀ v ∈ vs, v.oneCell' = true)
    (hc : ∀ j, j < vs.length → (w.cell? ⟨b, o + j, none⟩).isSome = true) (hf : ∀ j, w.frozen? ⟨b, j, none⟩ = false) :
    (Instr.storeAt t (.pointer (some ⟨b, o, none⟩)) (.agg vs.toArray)).run Tryz.prog w = .ok () (w.setCells b o vs) := by
  have hst := run_storeCells_cells (P := Tryz.prog) b o vs 0 w (fun j hj => by simpa using hc j hj) (fun j hj => hf _) h1
  simp [Instr.storeAt, Instr.sureAddr, storeVar, hs, Value.cells, hl]
  simpa using hst

theorem arm_load {P : Program} {w : World} {ops : Array Oper} {rest : List Oper} {o : Oper} {a : Act} {Q : Exit → Act → World → Prop} (hg : Region.wanted o (yielded ops a.tmps) = true) (p : Operand) (t : TypeId)
    (hop : o.op = Op.load t p) {vp v : Value} (hp : a.eval p = vp) (hrun : (Instr.loadAt t vp).run P w = .ok v w) (hK : wpList P ops Q rest (a.put o.dst v) w) : wpList P ops Q (o :: rest) a w := by
  refine BigFrame.wpList_want hg fun K hK' => ?_
  unfold Oper.wp
  simp [execOp, hop, hp, hrun, Result.andThen]
  exact hK' _ _ hK
theorem arm_store {P : Program} {w w2 : World} {ops : Array Oper} {rest : List Oper} {o : Oper} {a : Act} {Q : Exit → Act → World → Prop} (hg : Region.wanted o (yielded ops a.tmps) = true) (p x : Operand) (t : TypeId)
    (hop : o.op = Op.store t p x) {vp vx : Value} (hp : a.eval p = vp) (hx : a.eval x = vx) (hrun : (Instr.storeAt t vp vx).run P w = .ok () w2) (hK : wpList P ops Q rest (a.put o.dst (.tuple #[])) w2) : wpList P ops Q (o :: rest) a w := by
  refine BigFrame.wpList_want hg fun K hK' => ?_
  unfold Oper.wp
  simp [execOp, hop, hp, hx, hrun, Result.andThen]
  exact hK' _ _ hK
theorem arm_build {P : Program} {w : World} {ops : Array Oper} {rest : List Oper} {o : Oper} {a : Act} {Q : Exit → Act → World → Prop} (hg : Region.wanted o (yielded ops a.tmps) = true) (t : TypeId) (ps : List (Nat × Operand))
    (hop : o.op = Op.build t ps.toArray) {vs : List (Nat × Value)} (hv : ps.map (fun p => (p.1, a.eval p.2)) = vs) {v : Value} (hrun : (Instr.build t vs.toArray).run P w = .ok v w) (hK : wpList P ops Q rest (a.put o.dst v) w) : wpList P ops Q (o :: rest) a w := by
  refine BigFrame.wpList_want hg fun K hK' => ?_
  unfold Oper.wp
  have e : (ps.toArray.map fun (i, x) => (i, a.eval x)) = vs.toArray := by
    rw [← hv]
    simp
  simp only [execOp, hop]
  rw [e]
  simp [hrun, Result.andThen]
  exact hK' _ _ hK
theorem CellsAt.stored {b o : Nat} (vs : List Value) {w : World} (hc : ∀ j, j < vs.length → (w.cell? ⟨b, o + j, none⟩).isSome = true) : CellsAt (w.setCells b o vs) b o vs := by
  intro j v hj
  obtain ⟨hlt, hz⟩ := List.getElem?_eq_some_iff.1 hj
  have := World.cell?_setCells_in b vs o w hc j hlt
  rw [this, hz]
theorem Below.sets {B : Nat} {a : World} {R : Nat} (hB : B ≤ R) : ∀ (vs : List Value) (o : Nat) (w : World), Below B a w → Below B a (w.setCells R o vs)
  | [], _, _, h => h
  | v :: r, o, w, h => by
    unfold World.setCells
    exact Below.sets hB r (o + 1) _ (h.setCell hB v)
theorem arm_bin {P : Program} {w : World} {ops : Array Oper} {rest : List Oper} {o : Oper} {a : Act} {Q : Exit → Act → World → Prop} (hg : Region.wanted o (yielded ops a.tmps) = true) (b : BinOp) (t u : TypeId) (x y : Operand)
    (hop : o.op = Op.binOp b t x y u) {vx vy v : Value} (hx : a.eval x = vx) (hy : a.eval y = vy) (hgd : (eqGuard b t x y vx vy).run P w = .ok () w) (hrun : (binOp b t vx vy).run P w = .ok v w) (hK : wpList P ops Q rest (a.put o.dst v) w) : wpList P ops Q (o :: rest) a w := by
  refine BigFrame.wpList_want hg fun K hK' => ?_
  unfold Oper.wp
  simp [execOp, hop, hx, hy, hgd, hrun, Result.andThen]
  exact hK' _ _ hK

/-- The same in a region that draws: a load, in every world above. -/
theorem hi_load {P : Program} {w : World} {o : Oper} {a : Act} {K : Act → Prop} (p : Operand) (t : TypeId) (hop : o.op = Op.load t p) {vp v : Value} (hp : a.eval p = vp) (hrun : ∀ x : Hi w, (Instr.loadAt t vp).run P x.W = .ok v x.W) (hK : K (a.put o.dst v)) :
    o.quiet P a (fun w' => ∃ x : Hi w, w' = x.W) K := by
  refine ⟨v, fun W hW => ?_, hK⟩
  obtain ⟨x, rfl⟩ := hW
  unfold Oper.quietAt
  simp [execOp, hop, hp, hrun, Result.andThen, Oper.quietUpon]

end Go.Proofs.YtaebknkjhhcneaaGreatDoor

namespace Go.Proofs.YtaebknkjhhcneaaGreatDoor
open Go Go.RowKit
set_option linter.unusedVariables false
set_option linter.unusedSimpArgs false

theorem Only.sets {b : Nat} {u : World} : ∀ (vs : List Value) (o : Nat) (w : World), Only b u w → Only b u (w.setCells b o vs)
  | [], _, _, h => h
  | v :: r, o, w, h => by
    unfold World.setCells
    exact Only.sets r (o + 1) _ (h.set o v)

theorem Only.trans {b : Nat} {u v w : World} (h : Only b u v) (g : Only b v w) : Only b u w :=
  ⟨g.os.trans h.os, g.tape.trans h.tape, g.output.trans h.output, g.size.trans h.size, fun j hj => (g.other j hj).trans (h.other j hj)⟩

theorem blk_set {w : World} {b : Nat} {c : List Value} {t : TypeId} (h : w.heap[b]? = some (.cells c.toArray t)) (j : Nat) (v : Value) : (w.setCell ⟨b, j, none⟩ v).heap[b]? = some (.cells (c.set j v).toArray t) := by
  simp [World.setCell, Array.getElem?_modify, h]

theorem blk_set_other {w : World} {b b' : Nat} {o : Obj} (h : w.heap[b]? = some o) (hb : b ≠ b') (j : Nat) (v : Value) : (w.setCell ⟨b', j, none⟩ v).heap[b]? = some o :=
  (Below.heap_setCell _ _ _ _ hb).trans h

theorem blk_open {w : World} {b : Nat} {c : List Value} {t : TypeId} (h : w.heap[b]? = some (.cells c.toArray t)) (j : Nat) : w.frozen? ⟨b, j, none⟩ = false := by
  simp [World.frozen?, h]

theorem blk_cell {w : World} {b : Nat} {c : List Value} {t : TypeId} (h : w.heap[b]? = some (.cells c.toArray t)) {j : Nat} {v : Value} (hj : c[j]? = some v) : w.cell? ⟨b, j, none⟩ = some v := by
  simp [World.cell?, h, hj]

def setsL (c : List Value) (o : Nat) : List Value → List Value
  | [] => c
  | v :: r => setsL (c.set o v) (o + 1) r

theorem blk_sets {b : Nat} {t : TypeId} : ∀ (vs : List Value) (o : Nat) (c : List Value) (w : World), w.heap[b]? = some (.cells c.toArray t) → (w.setCells b o vs).heap[b]? = some (.cells (setsL c o vs).toArray t)
  | [], _, _, _, h => h
  | v :: r, o, c, w, h => by
    unfold World.setCells setsL
    exact blk_sets r (o + 1) _ _ (blk_set h o v)

theorem setsL_eq : ∀ (vs : List Value) (o : Nat) (c : List Value), o + vs.length ≤ c.length → setsL c o vs = c.take o ++ vs ++ c.drop (o + vs.length)
  | [], o, c, h => by simp [setsL]
  | v :: r, o, c, h => by
    simp only [List.length_cons] at h
    unfold setsL
    rw [setsL_eq r (o + 1) (c.set o v) (by simp; omega), List.take_succ_eq_append_getElem (by simp; omega)]
    have e1 : (c.set o v).take o = c.take o := by
      rw [List.take_set]
      exact List.set_eq_of_length_le (by simp; omega)
    rw [e1]
    simp only [List.getElem_set_self, List.length_cons]
    rw [List.drop_set, if_pos (by omega), show o + 1 + r.length = o + (r.length + 1) by omega]
    simp

theorem setsL_all (c vs : List Value) (h : vs.length = c.length) : setsL c 0 vs = vs := by
  rw [setsL_eq vs 0 c (by omega)]
  simp [h]

theorem box_store {ty : TypeId} {n : Nat} {w : World} {R : Nat} {c : List Value} (hs : ∀ w, (Go.sizeOf ty).run Tryz.prog w = .ok n w) (h : w.heap[R]? = some (.cells c.toArray ty)) (hl : c.length = n) (V : List Value) (hV : V.length = n) (h1 : ∀ v ∈ V, v.oneCell' = true) :
    ∃ w', (Instr.storeAt ty (.pointer (some ⟨R, 0, none⟩)) (.agg V.toArray)).run Tryz.prog w = .ok () w' ∧ w'.heap[R]? = some (.cells V.toArray ty) ∧ Only R w w' := by
  refine ⟨_, agg_store hs hV h1 (fun j hj => ?_) (fun j => blk_open h j), ?_, Only.sets _ _ _ (Only.refl _ _)⟩
  · rw [Nat.zero_add, blk_cell h (j := j) (v := c[j]'(by omega)) (by simp)]
    rfl
  · rw [blk_sets V 0 c w h, setsL_all _ _ (by omega)]

/-- A new box is given its cells. -/
theorem box_new {ty : TypeId} {n : Nat} (hs : ∀ w, (Go.sizeOf ty).run Tryz.prog w = .ok n w) (w : World) (c : List Value) (hl : c.length = n) (V : List Value) (hV : V.length = n) (h1 : ∀ v ∈ V, v.oneCell' = true) :
    ∃ w', (Instr.storeAt ty (.pointer (some ⟨w.heap.size, 0, none⟩)) (.agg V.toArray)).run Tryz.prog (w.alloc (.cells c.toArray ty)) = .ok () w' ∧ w'.heap[w.heap.size]? = some (.cells V.toArray ty) ∧ Below w.heap.size w w' := by
  obtain ⟨w', h, hb, ho⟩ := box_store hs (blk_new w (.cells c.toArray ty)) hl V hV h1
  exact ⟨w', h, hb, ((Below.refl _ w).alloc (Nat.le_refl _) _).trans (ho.below (Nat.le_refl _))⟩

/-- As arm_load and arm_store, the form of the operation asked first. -/
theorem armL {P : Program} {w : World} {ops : Array Oper} {rest : List Oper} {o : Oper} {a : Act} {Q : Exit → Act → World → Prop} (p : Operand) (t : TypeId) (hop : o.op = Op.load t p) (hg : o.guard = none) {vp v : Value} (hp : a.eval p = vp) (hrun : (Instr.loadAt t vp).run P w = .ok v w) (hK : wpList P ops Q rest (a.put o.dst v) w) : wpList P ops Q (o :: rest) a w :=
  arm_load (by simp [Region.wanted, hg]) p t hop hp hrun hK
theorem armS {P : Program} {w w2 : World} {ops : Array Oper} {rest : List Oper} {o : Oper} {a : Act} {Q : Exit → Act → World → Prop} (p x : Operand) (t : TypeId) (hop : o.op = Op.store t p x) (hg : o.guard = none) {vp vx : Value} (hp : a.eval p = vp) (hx : a.eval x = vx) (hrun : (Instr.storeAt t vp vx).run P w = .ok () w2) (hK : wpList P ops Q rest (a.put o.dst (.tuple #[])) w2) : wpList P ops Q (o :: rest) a w :=
  arm_store (by simp [Region.wanted, hg]) p x t hop hp hx hrun hK

theorem step_callR {P : Program} {ops : Array Oper} {o : Oper} {a : Act} {w : World} {K : Act → World → Prop} {Q : Exit → Act → World → Prop} {E : Prop} {R : Value → World → Prop} (hg : o.guard = none) (f : FuncId) (vs : Array Value)
    (hrun : (execOp a.eval o).run P w = .ok (.enter f vs) w) (hc : Calls P f vs w fun e w' => ∃ v, e = .returned v ∧ R v w') (hK : ∀ v w2, R v w2 → K (a.put o.dst v) w2) :
    if Region.wanted o (yielded ops a.tmps) = true then Oper.wp P o a w K Q else E := by
  have hw : Region.wanted o (yielded ops a.tmps) = true := by simp [Region.wanted, hg]
  rw [if_pos hw]
  unfold Oper.wp
  rw [hrun]
  refine hc.mono ?_
  rintro e w' ⟨v, rfl, hr⟩
  exact hK v w' hr

/-- Bytes as cells. -/
def b8 (l : List Int) : List Value := l.map (fun z => Value.int .u8 z)
theorem b8_length (l : List Int) : (b8 l).length = l.length := by simp [b8]
theorem b8_one (l : List Int) : ∀ v ∈ b8 l, v.oneCell' = true := by
  intro v hv
  obtain ⟨z, _, rfl⟩ := List.mem_map.1 hv
  rfl
theorem b8_set (l : List Int) (k : Nat) (z : Int) : (b8 l).set k (.int .u8 z) = b8 (l.set k z) := by simp [b8, List.map_set]

theorem res3c {P : Program} {fn : Func} {a b c : Tmp} {t : TypeId} (h : fn.results = #[.cell a t, .tmp b, .tmp c]) {tmps : Array Value} {R : Addr} (hp : tmps.getD a undef = .pointer (some R)) {v : Value} {w : World} (hl : (loadVar t R).run P w = .ok v w) :
    (results fn tmps).run P w = .ok (.tuple #[v, tmps.getD b undef, tmps.getD c undef]) w := by
  rw [Array.getD_eq_getD_getElem?] at hp
  simp [results, h, hp, asAddr, hl]

end Go.Proofs.YtaebknkjhhcneaaGreatDoor

namespace Go.Proofs.YtaebknkjhhcneaaGreatDoor
open Go Go.RowKit
set_option linter.unusedVariables false
set_option linter.unusedSimpArgs false


set_option maxRecDepth 100000 in
theorem tz16 (w : World) (hc : w.cell? ⟨3, 15, none⟩ = some (.int .u8 4)) :
    Calls Tryz.prog 192 #[.int .u64 16] w fun e w' => e = .returned (.int .i64 4) ∧ w' = w := by
  have e1 : IntKind.u64.wrap (-16) = 18446744073709551600 := by decide
  have e2 : bits .and .u64 16 18446744073709551600 = 16 := by kernel_rfl
  have e3 : IntKind.u64.wrap (16 * 285870213051353865) = 4573923408821661840 := by decide
  have e4 : IntKind.u64.wrap 4573923408821661840 = 4573923408821661840 := by decide
  go_enter Tryz.func192, Tryz.ntmps192
  go_wp2
  go_ret
  exact ⟨rfl, rfl⟩

set_option maxRecDepth 100000 in
theorem tz (w : World) (hc : w.cell? ⟨3, 15, none⟩ = some (.int .u8 4)) :
    Calls Tryz.prog 179 #[.int .u64 16] w fun e w' => e = .returned (.int .i64 4) ∧ w' = w := by
  go_enter Tryz.func179, Tryz.ntmps179
  go_wp2_with fail
  refine (tz16 w hc).mono ?_
  rintro e w' ⟨rfl, rfl⟩
  go_wp2
  go_ret
  exact ⟨rfl, rfl⟩

set_option maxRecDepth 100000 in
theorem pow2 (w : World) : Calls Tryz.prog 178 #[.int .i64 16] w fun e w' => e = .returned (.bool true) ∧ w' = w := by
  go_enter Tryz.func178, Tryz.ntmps178
  go_wp2
  go_ret
  exact ⟨rfl, rfl⟩



theorem push_all : ∀ (zs : List Int) (s : ByteArray), zs.foldl (fun r n => r.push (UInt8.ofNat n.toNat)) s = ⟨s.data ++ (zs.map (fun z => UInt8.ofNat z.toNat)).toArray⟩
  | [], s => by simp
  | z :: r, s => by
    rw [List.foldl_cons, push_all r]
    simp [ByteArray.push]

theorem conv_str (W : World) (b o n c : Nat) (zs : List Int) (hn : zs.length = n) (hc : ∀ (j : Nat) z, zs[j]? = some z → W.cell? ⟨b, o + j, none⟩ = some (.int .u8 z)) :
    (convert 127 9 (.slice (some ⟨b, o, none⟩) n c)).run Tryz.prog W = .ok (.string ⟨(zs.map (fun z => UInt8.ofNat z.toNat)).toArray⟩) W := by
  rw [run_convert_bytes_string W _ _ _ _ _ _ Tryz.underlying127 Tryz.underlying5 Tryz.underlying9]
  have hl := run_loadCells_list (P := Tryz.prog) W ⟨b, o, none⟩ (zs.map (fun z => Value.int .u8 z)) (fun j v hj => by
    rw [Go.WideShapes.add_plain]
    rw [List.getElem?_map] at hj
    cases hz : zs[j]? with
    | none => simp [hz] at hj
    | some z => simp [hz] at hj; subst hj; exact hc j z hz)
  rw [List.length_map, hn] at hl
  rw [run_bytesToString W _ n c zs hl, push_all]
  simp

/-- The digit that counts k. -/
def hexd (k : Nat) : UInt8 := ((#[48, 49, 50, 51, 52, 53, 54, 55, 56, 57, 97, 98, 99, 100, 101, 102] : Array UInt8)[k]?).getD 0

theorem digits_at (k : Nat) (hk : k < 16) (h : k < (⟨#[48, 49, 50, 51, 52, 53, 54, 55, 56, 57, 97, 98, 99, 100, 101, 102, 103, 104, 105, 106, 107, 108, 109, 110, 111, 112, 113, 114, 115, 116, 117, 118, 119, 120, 121, 122]⟩ : ByteArray).size) :
    (⟨#[48, 49, 50, 51, 52, 53, 54, 55, 56, 57, 97, 98, 99, 100, 101, 102, 103, 104, 105, 106, 107, 108, 109, 110, 111, 112, 113, 114, 115, 116, 117, 118, 119, 120, 121, 122]⟩ : ByteArray)[k] = hexd k := by
  match k, hk with
  | 0, _ => rfl
  | 1, _ => rfl
  | 2, _ => rfl
  | 3, _ => rfl
  | 4, _ => rfl
  | 5, _ => rfl
  | 6, _ => rfl
  | 7, _ => rfl
  | 8, _ => rfl
  | 9, _ => rfl
  | 10, _ => rfl
  | 11, _ => rfl
  | 12, _ => rfl
  | 13, _ => rfl
  | 14, _ => rfl
  | 15, _ => rfl
  | n + 16, h => exact absurd h (by omega)

theorem and15 (x : Int) (h0 : 0 ≤ x) (h1 : x < 18446744073709551616) : bits .and .u64 x 15 = x % 16 := by
  rw [u64_and x 15 h0 h1 (by decide) (by decide)]
  have e : (x.toNat &&& (15 : Int).toNat) = x.toNat % 2 ^ 4 := by
    rw [show ((15 : Int).toNat) = 2 ^ 4 - 1 from rfl, Nat.and_two_pow_sub_one_eq_mod]
  rw [e]
  omega

set_option maxHeartbeats 4000000 in
set_option maxRecDepth 100000 in
theorem bits16_one (u : Int) (hu : 0 ≤ u ∧ u < 16) (w : World) (hc : w.cell? ⟨3, 15, none⟩ = some (.int .u8 4)) (hlt : 3 < w.heap.size) :
    Calls Tryz.prog 150 #[.slice none 0 0, .int .u64 u, .int .i64 16, .bool false, .bool false] w fun e w' => e = .returned (.tuple #[.slice none 0 0, .string ⟨#[hexd u.toNat]⟩]) ∧ Below w.heap.size w w' := by
  have ha : ∀ o, (w.alloc o).cell? ⟨3, 15, none⟩ = some (.int .u8 4) := fun o => (World.cell?_alloc_lt _ _ _ hlt).trans hc
  have hz65 : Tryz.zeroCells245.size = 65 := by kernel_rfl
  have q0 : decide (16 ≤ u) = false := by simp; omega
  go_enter Tryz.func150, Tryz.ntmps150
  go_wp2_with (first
    | (go_at_call 178; refine (pow2 _).mono ?_; rintro e w' ⟨rfl, rfl⟩)
    | (go_at_call 179; refine (tz _ (ha _)).mono ?_; rintro e w' ⟨rfl, rfl⟩))
  go_rounds 1
  all_goals
    rw [digits_at u.toNat (by omega)]
    rw [conv_str _ _ 64 1 1 [((hexd u.toNat).toNat : Int)] rfl (fun j z hj => by
      match j, hj with
      | 0, hj =>
        cases hj
        rw [World.cell?_alloc_new]
        simp [Array.getElem?_setIfInBounds, hz65]
      | n + 1, hj => simp at hj)]
    go_wp2
    go_ret2
    exact ⟨rfl, (Below.refl _ w).alloc (Nat.le_refl _) _⟩

set_option maxHeartbeats 4000000 in
set_option maxRecDepth 100000 in
theorem bits16_two (u : Int) (hu : 16 ≤ u ∧ u < 256) (w : World) (hc : w.cell? ⟨3, 15, none⟩ = some (.int .u8 4)) (hlt : 3 < w.heap.size) :
    Calls Tryz.prog 150 #[.slice none 0 0, .int .u64 u, .int .i64 16, .bool false, .bool false] w fun e w' => e = .returned (.tuple #[.slice none 0 0, .string ⟨#[hexd (u / 16).toNat, hexd (u % 16).toNat]⟩]) ∧ Below w.heap.size w w' := by
  have ha : ∀ o, (w.alloc o).cell? ⟨3, 15, none⟩ = some (.int .u8 4) := fun o => (World.cell?_alloc_lt _ _ _ hlt).trans hc
  have hz65 : Tryz.zeroCells245.size = 65 := by kernel_rfl
  have q0 : decide (16 ≤ u) = true := by simp; omega
  have n0 : bits .and .u64 u 15 = u % 16 := and15 _ (by omega) (by omega)
  have q1 : decide (16 ≤ u / 16) = false := by simp; omega
  go_enter Tryz.func150, Tryz.ntmps150
  go_wp2_with (first
    | (go_at_call 178; refine (pow2 _).mono ?_; rintro e w' ⟨rfl, rfl⟩)
    | (go_at_call 179; refine (tz _ (ha _)).mono ?_; rintro e w' ⟨rfl, rfl⟩))
  go_rounds 2
  all_goals
    rw [digits_at (u % 16).toNat (by omega)]
    rw [digits_at (u / 16).toNat (by omega)]
    rw [conv_str _ _ 63 2 2 [((hexd (u / 16).toNat).toNat : Int), ((hexd (u % 16).toNat).toNat : Int)] rfl (fun j z hj => by
      match j, hj with
      | 0, hj =>
        cases hj
        rw [World.cell?_alloc_new]
        simp [Array.getElem?_setIfInBounds, hz65]
      | 1, hj =>
        cases hj
        rw [World.cell?_alloc_new]
        simp [Array.getElem?_setIfInBounds, hz65]
      | n + 2, hj => simp at hj)]
    go_wp2
    go_ret2
    exact ⟨rfl, (Below.refl _ w).alloc (Nat.le_refl _) _⟩

set_option maxHeartbeats 4000000 in
set_option maxRecDepth 100000 in
theorem bits16_three (u : Int) (hu : 256 ≤ u ∧ u < 4096) (w : World) (hc : w.cell? ⟨3, 15, none⟩ = some (.int .u8 4)) (hlt : 3 < w.heap.size) :
    Calls Tryz.prog 150 #[.slice none 0 0, .int .u64 u, .int .i64 16, .bool false, .bool false] w fun e w' => e = .returned (.tuple #[.slice none 0 0, .string ⟨#[hexd ((u / 16) / 16).toNat, hexd ((u / 16) % 16).toNat, hexd (u % 16).toNat]⟩]) ∧ Below w.heap.size w w' := by
  have ha : ∀ o, (w.alloc o).cell? ⟨3, 15, none⟩ = some (.int .u8 4) := fun o => (World.cell?_alloc_lt _ _ _ hlt).trans hc
  have hz65 : Tryz.zeroCells245.size = 65 := by kernel_rfl
  have q0 : decide (16 ≤ u) = true := by simp; omega
  have n0 : bits .and .u64 u 15 = u % 16 := and15 _ (by omega) (by omega)
  have q1 : decide (16 ≤ u / 16) = true := by simp; omega
  have n1 : bits .and .u64 (u / 16) 15 = (u / 16) % 16 := and15 _ (by omega) (by omega)
  have q2 : decide (16 ≤ (u / 16) / 16) = false := by simp; omega
  go_enter Tryz.func150, Tryz.ntmps150
  go_wp2_with (first
    | (go_at_call 178; refine (pow2 _).mono ?_; rintro e w' ⟨rfl, rfl⟩)
    | (go_at_call 179; refine (tz _ (ha _)).mono ?_; rintro e w' ⟨rfl, rfl⟩))
  go_rounds 3
  all_goals
    rw [digits_at (u % 16).toNat (by omega)]
    rw [digits_at ((u / 16) % 16).toNat (by omega)]
    rw [digits_at ((u / 16) / 16).toNat (by omega)]
    rw [conv_str _ _ 62 3 3 [((hexd ((u / 16) / 16).toNat).toNat : Int), ((hexd ((u / 16) % 16).toNat).toNat : Int), ((hexd (u % 16).toNat).toNat : Int)] rfl (fun j z hj => by
      match j, hj with
      | 0, hj =>
        cases hj
        rw [World.cell?_alloc_new]
        simp [Array.getElem?_setIfInBounds, hz65]
      | 1, hj =>
        cases hj
        rw [World.cell?_alloc_new]
        simp [Array.getElem?_setIfInBounds, hz65]
      | 2, hj =>
        cases hj
        rw [World.cell?_alloc_new]
        simp [Array.getElem?_setIfInBounds, hz65]
      | n + 3, hj => simp at hj)]
    go_wp2
    go_ret2
    exact ⟨rfl, (Below.refl _ w).alloc (Nat.le_refl _) _⟩

set_option maxHeartbeats 4000000 in
set_option maxRecDepth 100000 in
theorem bits16_four (u : Int) (hu : 4096 ≤ u ∧ u < 65536) (w : World) (hc : w.cell? ⟨3, 15, none⟩ = some (.int .u8 4)) (hlt : 3 < w.heap.size) :
    Calls Tryz.prog 150 #[.slice none 0 0, .int .u64 u, .int .i64 16, .bool false, .bool false] w fun e w' => e = .returned (.tuple #[.slice none 0 0, .string ⟨#[hexd (((u / 16) / 16) / 16).toNat, hexd (((u / 16) / 16) % 16).toNat, hexd ((u / 16) % 16).toNat, hexd (u % 16).toNat]⟩]) ∧ Below w.heap.size w w' := by
  have ha : ∀ o, (w.alloc o).cell? ⟨3, 15, none⟩ = some (.int .u8 4) := fun o => (World.cell?_alloc_lt _ _ _ hlt).trans hc
  have hz65 : Tryz.zeroCells245.size = 65 := by kernel_rfl
  have q0 : decide (16 ≤ u) = true := by simp; omega
  have n0 : bits .and .u64 u 15 = u % 16 := and15 _ (by omega) (by omega)
  have q1 : decide (16 ≤ u / 16) = true := by simp; omega
  have n1 : bits .and .u64 (u / 16) 15 = (u / 16) % 16 := and15 _ (by omega) (by omega)
  have q2 : decide (16 ≤ (u / 16) / 16) = true := by simp; omega
  have n2 : bits .and .u64 ((u / 16) / 16) 15 = ((u / 16) / 16) % 16 := and15 _ (by omega) (by omega)
  have q3 : decide (16 ≤ ((u / 16) / 16) / 16) = false := by simp; omega
  go_enter Tryz.func150, Tryz.ntmps150
  go_wp2_with (first
    | (go_at_call 178; refine (pow2 _).mono ?_; rintro e w' ⟨rfl, rfl⟩)
    | (go_at_call 179; refine (tz _ (ha _)).mono ?_; rintro e w' ⟨rfl, rfl⟩))
  go_rounds 4
  all_goals
    rw [digits_at (u % 16).toNat (by omega)]
    rw [digits_at ((u / 16) % 16).toNat (by omega)]
    rw [digits_at (((u / 16) / 16) % 16).toNat (by omega)]
    rw [digits_at (((u / 16) / 16) / 16).toNat (by omega)]
    rw [conv_str _ _ 61 4 4 [((hexd (((u / 16) / 16) / 16).toNat).toNat : Int), ((hexd (((u / 16) / 16) % 16).toNat).toNat : Int), ((hexd ((u / 16) % 16).toNat).toNat : Int), ((hexd (u % 16).toNat).toNat : Int)] rfl (fun j z hj => by
      match j, hj with
      | 0, hj =>
        cases hj
        rw [World.cell?_alloc_new]
        simp [Array.getElem?_setIfInBounds, hz65]
      | 1, hj =>
        cases hj
        rw [World.cell?_alloc_new]
        simp [Array.getElem?_setIfInBounds, hz65]
      | 2, hj =>
        cases hj
        rw [World.cell?_alloc_new]
        simp [Array.getElem?_setIfInBounds, hz65]
      | 3, hj =>
        cases hj
        rw [World.cell?_alloc_new]
        simp [Array.getElem?_setIfInBounds, hz65]
      | n + 4, hj => simp at hj)]
    go_wp2
    go_ret2
    exact ⟨rfl, (Below.refl _ w).alloc (Nat.le_refl _) _⟩


/-- The table of trailing zeros is there. -/
def Tz (w : World) : Prop := 3 < w.heap.size ∧ ∀ w', Below w.heap.size w w' → w'.cell? ⟨3, 15, none⟩ = some (.int .u8 4)
theorem Tz.on {w w' : World} (h : Tz w) (hb : Below w.heap.size w w') : Tz w' := ⟨Nat.lt_of_lt_of_le h.1 hb.size, fun x hx => h.2 x (hb.trans (hx.mono hb.size))⟩

/-- A number below 65536 in hex digits. -/
def hexS (u : Nat) : ByteArray :=
  if u < 16 then ⟨#[hexd u]⟩ else if u < 256 then ⟨#[hexd (u / 16), hexd (u % 16)]⟩ else if u < 4096 then ⟨#[hexd (u / 256), hexd (u / 16 % 16), hexd (u % 16)]⟩ else ⟨#[hexd (u / 4096), hexd (u / 256 % 16), hexd (u / 16 % 16), hexd (u % 16)]⟩

end Go.Proofs.YtaebknkjhhcneaaGreatDoor

namespace Go.Proofs.YtaebknkjhhcneaaGreatDoor
open Go Go.RowKit
set_option linter.unusedVariables false

def tab64 : List Int := [0, 1, 56, 2, 57, 49, 28, 3, 61, 58, 42, 50, 38, 29, 17, 4, 62, 47, 59, 36, 45, 43, 51, 22, 53, 39, 33, 30, 24, 18, 12, 5, 63, 55, 48, 27, 60, 41, 37, 16, 46, 35, 44, 21, 52, 32, 23, 11, 54, 26, 40, 15, 34, 20, 31, 10, 25, 14, 19, 9, 13, 8, 7, 6]

theorem g64 : Tryz.prog.globalNamed "math/bits.deBruijn64tab" = some 3 := by kernel_rfl
theorem g64t : (Tryz.prog.globals[3]?).map (·.type) = some 263 := by kernel_rfl

theorem tab_below {n : String} {g : Nat} {k : IntKind} {zs : List Int} {w w' : World} (hg : Tryz.prog.globalNamed n = some g) (h : Lib.TabIs Tryz.prog w n k zs) (hb : Below w.heap.size w w') : Lib.TabIs Tryz.prog w' n k zs := by
  unfold Lib.TabIs World.var? at *
  rw [hg] at h ⊢
  simp only [Option.bind_some] at h ⊢
  cases hw : w.heap[g]? with
  | none => rw [hw] at h; simp at h
  | some o =>
    rw [hw] at h
    rw [hb.block g (Array.getElem?_eq_some_iff.1 hw).1, hw]
    exact h

theorem tab_size {n : String} {g : Nat} {k : IntKind} {zs : List Int} {w : World} (hg : Tryz.prog.globalNamed n = some g) (h : Lib.TabIs Tryz.prog w n k zs) : g < w.heap.size := by
  unfold Lib.TabIs World.var? at h
  rw [hg] at h
  simp only [Option.bind_some] at h
  cases hw : w.heap[g]? with
  | none => rw [hw] at h; simp at h
  | some o => exact (Array.getElem?_eq_some_iff.1 hw).1

theorem tz_of {W : World} (t64 : Lib.TabIs Tryz.prog W "math/bits.deBruijn64tab" .u8 tab64) : Tz W := ⟨tab_size g64 t64, fun w' hb => (tab_below g64 t64 hb).cell g64 15 (by decide)⟩

theorem tables {W : World} (h : laidMetH Tryz.prog [("math/bits.deBruijn32tab", Rows.laid_math_bits_deBruijn32tab), ("math/bits.deBruijn64tab", Rows.laid_math_bits_deBruijn64tab), ("internal/strconv.uint64pow10", Rows.laid_internal_strconv_uint64pow10)] W) : Tz W := by
  have h1 : laidMet Tryz.prog [("math/bits.deBruijn32tab", Rows.laid_math_bits_deBruijn32tab), ("math/bits.deBruijn64tab", Rows.laid_math_bits_deBruijn64tab), ("internal/strconv.uint64pow10", Rows.laid_internal_strconv_uint64pow10)] W := h
  exact tz_of (Lib.tabIs_of_head (zs := tab64) g64 g64t Tryz.underlying263 Tryz.underlying5 (by kernel_rfl) (by kernel_rfl) h1.tail)

end Go.Proofs.YtaebknkjhhcneaaGreatDoor
