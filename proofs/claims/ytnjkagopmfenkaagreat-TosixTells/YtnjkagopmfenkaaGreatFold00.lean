/-
  Worlds above one: all blocks of that one are as they were. A region that draws its order, whose operations read old blocks and whose calls leave a world above, is walked once.
  Structs and arrays as one value: loads, stores and literals of them, whatever the type; none of their cells is looked at.
  Which IPv4 datagrams may be, and their sizes: the program's Check and Size, the document's.
  Pointer and MTU of package tosix and of the document.
-/
import Derived.Test.YtnjkagopmfenkaaGreatProg
import Derived.WalkKit
import Derived.Below
import Derived.BigQuiet
import Derived.Laws.IdiomCopy
import Derived.Laws.Tables
import Derived.Handy
namespace Go.Proofs.YtnjkagopmfenkaaGreat
open Go Go.RowKit
set_option linter.unusedVariables false

theorem cell4_of {W : World} {b : Nat} {v0 v1 v2 v3 : Value} {t : TypeId} (h : W.heap[b]? = some (.cells #[v0, v1, v2, v3] t)) :
    W.cell? ⟨b, 0, none⟩ = some v0 ∧ W.cell? ⟨b, 1, none⟩ = some v1 ∧ W.cell? ⟨b, 2, none⟩ = some v2 ∧ W.cell? ⟨b, 3, none⟩ = some v3 := by simp [World.cell?, h]
theorem cell5_of {W : World} {b : Nat} {v0 v1 v2 v3 v4 : Value} {t : TypeId} (h : W.heap[b]? = some (.cells #[v0, v1, v2, v3, v4] t)) :
    W.cell? ⟨b, 0, none⟩ = some v0 ∧ W.cell? ⟨b, 1, none⟩ = some v1 ∧ W.cell? ⟨b, 2, none⟩ = some v2 ∧ W.cell? ⟨b, 3, none⟩ = some v3 ∧ W.cell? ⟨b, 4, none⟩ = some v4 := by simp [World.cell?, h]
theorem blk_on {w W : World} {b : Nat} {o : Obj} (h : w.heap[b]? = some o) (hb : Below w.heap.size w W) : W.heap[b]? = some o :=
  (hb.block b (Array.getElem?_eq_some_iff.1 h).1).trans h
theorem blk_new (w : World) (o : Obj) : (w.alloc o).heap[w.heap.size]? = some o := by
  rw [← World.alloc_eq]
  simp
theorem blk_alloc {w : World} {b : Nat} {o : Obj} (h : w.heap[b]? = some o) (o' : Obj) : (w.alloc o').heap[b]? = some o :=
  blk_on h ((Below.refl _ w).alloc (Nat.le_refl _) o')

structure Hi (w : World) where
  W : World
  below : Below w.heap.size w W

def Hi.refl (w : World) : Hi w := ⟨w, Below.refl _ w⟩
instance (w : World) : Nonempty (Hi w) := ⟨Hi.refl w⟩
def Hi.more {w : World} (x : Hi w) {W : World} (h : Below x.W.heap.size x.W W) : Hi w := ⟨W, x.below.trans (h.mono x.below.size)⟩
def Hi.up {w : World} (x : Hi w) (y : Hi x.W) : Hi w := x.more y.below
theorem Hi.blk {w : World} {b : Nat} {o : Obj} (h : w.heap[b]? = some o) (x : Hi w) : x.W.heap[b]? = some o :=
  (x.below.block b (Array.getElem?_eq_some_iff.1 h).1).trans h

theorem Hi.calls {P : Program} {f : FuncId} {args : Array Value} {w : World} {x : Hi w} {v : Value} (h : Calls P f args x.W fun e w' => e = .returned v ∧ Below x.W.heap.size x.W w') :
    Calls P f args x.W fun e w'' => e = .returned v ∧ ∃ y : Hi w, w'' = y.W :=
  h.mono fun _ w' ⟨he, hb⟩ => ⟨he, x.more hb, rfl⟩

theorem wp_region_hi {P : Program} {id : Nat} {Q : Exit → Act → World → Prop} {a : Act} {w : World} {l : List Oper} (hm : P.follows .mixedOrders = true) (hB : Region.lexB .any l.toArray = true)
    (h : wpQuiet P l.toArray (fun w' => ∃ x : Hi w, w' = x.W) (fun a' => ∀ w', (∃ x : Hi w, w' = x.W) → Q .normal a' w') l a) : (Code.region id l.toArray true).wp P Q a w :=
  wp_region_quiet (C := fun w' => ∃ x : Hi w, w' = x.W) hm hB ⟨⟨{ w with drawn := w.drawn + 1 }, (Below.refl _ w).drew⟩, rfl⟩ (by simpa using h)

theorem wp_region_up {P : Program} {id : Nat} {Q : Exit → Act → World → Prop} {a : Act} {w : World} {x : Hi w} {l : List Oper} (hm : P.follows .mixedOrders = true) (hB : Region.lexB .any l.toArray = true)
    (h : wpQuiet P l.toArray (fun w' => ∃ x : Hi w, w' = x.W) (fun a' => ∀ w', (∃ x : Hi w, w' = x.W) → Q .normal a' w') l a) : (Code.region id l.toArray true).wp P Q a x.W :=
  wp_region_quiet (C := fun w' => ∃ x : Hi w, w' = x.W) hm hB ⟨⟨{ x.W with drawn := x.W.drawn + 1 }, x.below.drew⟩, rfl⟩ (by simpa using h)

theorem Hi.cell4 {w : World} {b : Nat} {v0 v1 v2 v3 : Value} {t : TypeId} (h : w.heap[b]? = some (.cells #[v0, v1, v2, v3] t)) :
    (∀ x : Hi w, x.W.cell? ⟨b, 0, none⟩ = some v0) ∧ (∀ x : Hi w, x.W.cell? ⟨b, 1, none⟩ = some v1) ∧ (∀ x : Hi w, x.W.cell? ⟨b, 2, none⟩ = some v2) ∧ (∀ x : Hi w, x.W.cell? ⟨b, 3, none⟩ = some v3) :=
  ⟨fun x => by simp [World.cell?, Hi.blk h x], fun x => by simp [World.cell?, Hi.blk h x], fun x => by simp [World.cell?, Hi.blk h x], fun x => by simp [World.cell?, Hi.blk h x]⟩
theorem Hi.cell5 {w : World} {b : Nat} {v0 v1 v2 v3 v4 : Value} {t : TypeId} (h : w.heap[b]? = some (.cells #[v0, v1, v2, v3, v4] t)) :
    (∀ x : Hi w, x.W.cell? ⟨b, 0, none⟩ = some v0) ∧ (∀ x : Hi w, x.W.cell? ⟨b, 1, none⟩ = some v1) ∧ (∀ x : Hi w, x.W.cell? ⟨b, 2, none⟩ = some v2) ∧ (∀ x : Hi w, x.W.cell? ⟨b, 3, none⟩ = some v3) ∧ (∀ x : Hi w, x.W.cell? ⟨b, 4, none⟩ = some v4) :=
  ⟨fun x => by simp [World.cell?, Hi.blk h x], fun x => by simp [World.cell?, Hi.blk h x], fun x => by simp [World.cell?, Hi.blk h x], fun x => by simp [World.cell?, Hi.blk h x], fun x => by simp [World.cell?, Hi.blk h x]⟩

end Go.Proofs.YtnjkagopmfenkaaGreat

namespace Go.Proofs.YtnjkagopmfenkaaGreat
open Go Go.RowKit
set_option linter.unusedVariables false
set_option linter.unusedSimpArgs false

/-- The cells of a block from a place on. -/
def CellsAt (w : World) (b o : Nat) (vs : List Value) : Prop := ∀ j v, vs[j]? = some v → w.cell? ⟨b, o + j, none⟩ = some v
theorem CellsAt.of_blk {w : World} {b : Nat} {A : Array Value} {t : TypeId} {fr : Nat × Nat} (h : w.heap[b]? = some (.cells A t fr)) : CellsAt w b 0 A.toList := by
  intro j v hj
  simp only [World.cell?, h, Nat.zero_add]
  simpa using hj
theorem CellsAt.part {w : World} {b o : Nat} {xs ys zs : List Value} (h : CellsAt w b o (xs ++ (ys ++ zs))) : CellsAt w b (o + xs.length) ys := by
  intro j v hj
  have hl := (List.getElem?_eq_some_iff.1 hj).1
  have := h (xs.length + j) v (by rw [List.getElem?_append_right (by omega), Nat.add_sub_cancel_left, List.getElem?_append_left hl]; exact hj)
  rwa [Nat.add_assoc]
theorem CellsAt.fst {w : World} {b o : Nat} {xs ys : List Value} (h : CellsAt w b o (xs ++ ys)) : CellsAt w b o xs := by
  intro j v hj
  have hl := (List.getElem?_eq_some_iff.1 hj).1
  exact h j v (by rw [List.getElem?_append_left hl]; exact hj)

theorem CellsAt.lt {w : World} {b o : Nat} {v : Value} {vs : List Value} (h : CellsAt w b o (v :: vs)) : b < w.heap.size := by
  have := h 0 v rfl
  unfold World.cell? at this
  cases hw : w.heap[b]? with
  | none => rw [hw] at this; simp at this
  | some ob => exact (Array.getElem?_eq_some_iff.1 hw).1
theorem CellsAt.up {w : World} {b o : Nat} {vs : List Value} (h : CellsAt w b o vs) (hb : b < w.heap.size) (x : Hi w) : CellsAt x.W b o vs := by
  intro j v hj
  exact (x.below.cell (p := ⟨b, o + j, none⟩) hb).trans (h j v hj)
theorem agg_load {t n : Nat} {w : World} {b o : Nat} {vs : List Value} (ha : ∀ w, (isAgg t).run Tryz.prog w = .ok true w) (hs : ∀ w, (Go.sizeOf t).run Tryz.prog w = .ok n w) (hl : vs.length = n) (h : CellsAt w b o vs) :
    (Instr.loadAt t (.pointer (some ⟨b, o, none⟩))).run Tryz.prog w = .ok (.agg vs.toArray) w := by
  have hl' := run_loadCells_list (P := Tryz.prog) w ⟨b, o, none⟩ vs (fun j v hj => by rw [Go.WideShapes.add_plain]; exact h j v hj)
  rw [hl] at hl'
  simp [Instr.loadAt, Instr.sureAddr, loadVar, ha, hs, hl']
theorem agg_loadVar {t n : Nat} {w : World} {b o : Nat} {vs : List Value} (ha : ∀ w, (isAgg t).run Tryz.prog w = .ok true w) (hs : ∀ w, (Go.sizeOf t).run Tryz.prog w = .ok n w) (hl : vs.length = n) (h : CellsAt w b o vs) :
    (loadVar t ⟨b, o, none⟩).run Tryz.prog w = .ok (.agg vs.toArray) w := by
  have := agg_load ha hs hl h
  simpa [Instr.loadAt, Instr.sureAddr] using this
theorem agg_store {t n : Nat} {w : World} {b o : Nat} {vs : List Value} (hs : ∀ w, (Go.sizeOf t).run Tryz.prog w = .ok n w) (hl : vs.length = n) (h1 : ∀ v ∈ vs, v.oneCell' = true)
    (hc : ∀ j, j < vs.length → (w.cell? ⟨b, o + j, none⟩).isSome = true) (hf : ∀ j, w.frozen? ⟨b, j, none⟩ = false) :
    (Instr.storeAt t (.pointer (some ⟨b, o, none⟩)) (.agg vs.toArray)).run Tryz.prog w = .ok () (w.setCells b o vs) := by
  have hst := run_storeCells_cells (P := Tryz.prog) b o vs 0 w (fun j hj => by simpa using hc j hj) (fun j hj => hf _) h1
  simp [Instr.storeAt, Instr.sureAddr, storeVar, hs, Value.cells, hl]
  simpa using hst

theorem arm_load {P : Program} {w : World} {ops : Array Oper} {rest : List Oper} {o : Oper} {a : Act} {Q : Exit → Act → World → Prop} (hg : Region.wanted o (yielded ops a.tmps) = true) (p : Operand) (t : TypeId)
    (hop : o.op = Op.load t p) {vp v : Value} (hp : a.eval p = vp) (hrun : (Instr.loadAt t vp).run P w = .ok v w) (hK : wpList P ops Q rest (a.put o.dst v) w) : wpList P ops Q (o :: rest) a w := by
  refine BigFrame.wpList_want hg fun K hK' => ?_
  unfold Oper.wp
  simp [execOp, hop, hp, hrun, Result.andThen]
  exact hK' _ _ hK
theorem arm_store {P : Program} {w w2 : World} {ops : Array Oper} {rest : List Oper} {o : Oper} {a : Act} {Q : Exit → Act → World → Prop} (hg : Region.wanted o (yielded ops a.tmps) = true) (p x : Operand) (t : TypeId)
    (hop : o.op = Op.store t p x) {vp vx : Value} (hp : a.eval p = vp) (hx : a.eval x = vx) (hrun : (Instr.storeAt t vp vx).run P w = .ok () w2) (hK : wpList P ops Q rest (a.put o.dst (.tuple #[])) w2) : wpList P ops Q (o :: rest) a w := by
  refine BigFrame.wpList_want hg fun K hK' => ?_
  unfold Oper.wp
  simp [execOp, hop, hp, hx, hrun, Result.andThen]
  exact hK' _ _ hK
theorem arm_build {P : Program} {w : World} {ops : Array Oper} {rest : List Oper} {o : Oper} {a : Act} {Q : Exit → Act → World → Prop} (hg : Region.wanted o (yielded ops a.tmps) = true) (t : TypeId) (ps : List (Nat × Operand))
    (hop : o.op = Op.build t ps.toArray) {vs : List (Nat × Value)} (hv : ps.map (fun p => (p.1, a.eval p.2)) = vs) {v : Value} (hrun : (Instr.build t vs.toArray).run P w = .ok v w) (hK : wpList P ops Q rest (a.put o.dst v) w) : wpList P ops Q (o :: rest) a w := by
  refine BigFrame.wpList_want hg fun K hK' => ?_
  unfold Oper.wp
  have e : (ps.toArray.map fun (i, x) => (i, a.eval x)) = vs.toArray := by
    rw [← hv]
    simp
  simp only [execOp, hop]
  rw [e]
  simp [hrun, Result.andThen]
  exact hK' _ _ hK
theorem CellsAt.stored {b o : Nat} (vs : List Value) {w : World} (hc : ∀ j, j < vs.length → (w.cell? ⟨b, o + j, none⟩).isSome = true) : CellsAt (w.setCells b o vs) b o vs := by
  intro j v hj
  obtain ⟨hlt, hz⟩ := List.getElem?_eq_some_iff.1 hj
  have := World.cell?_setCells_in b vs o w hc j hlt
  rw [this, hz]
theorem Below.sets {B : Nat} {a : World} {R : Nat} (hB : B ≤ R) : ∀ (vs : List Value) (o : Nat) (w : World), Below B a w → Below B a (w.setCells R o vs)
  | [], _, _, h => h
  | v :: r, o, w, h => by
    unfold World.setCells
    exact Below.sets hB r (o + 1) _ (h.setCell hB v)
theorem arm_bin {P : Program} {w : World} {ops : Array Oper} {rest : List Oper} {o : Oper} {a : Act} {Q : Exit → Act → World → Prop} (hg : Region.wanted o (yielded ops a.tmps) = true) (b : BinOp) (t u : TypeId) (x y : Operand)
    (hop : o.op = Op.binOp b t x y u) {vx vy v : Value} (hx : a.eval x = vx) (hy : a.eval y = vy) (hgd : (eqGuard b t x y vx vy).run P w = .ok () w) (hrun : (binOp b t vx vy).run P w = .ok v w) (hK : wpList P ops Q rest (a.put o.dst v) w) : wpList P ops Q (o :: rest) a w := by
  refine BigFrame.wpList_want hg fun K hK' => ?_
  unfold Oper.wp
  simp [execOp, hop, hx, hy, hgd, hrun, Result.andThen]
  exact hK' _ _ hK

/-- The same in a region that draws: a load, in every world above. -/
theorem hi_load {P : Program} {w : World} {o : Oper} {a : Act} {K : Act → Prop} (p : Operand) (t : TypeId) (hop : o.op = Op.load t p) {vp v : Value} (hp : a.eval p = vp) (hrun : ∀ x : Hi w, (Instr.loadAt t vp).run P x.W = .ok v x.W) (hK : K (a.put o.dst v)) :
    o.quiet P a (fun w' => ∃ x : Hi w, w' = x.W) K := by
  refine ⟨v, fun W hW => ?_, hK⟩
  obtain ⟨x, rfl⟩ := hW
  unfold Oper.quietAt
  simp [execOp, hop, hp, hrun, Result.andThen, Oper.quietUpon]

end Go.Proofs.YtnjkagopmfenkaaGreat

namespace Go.Proofs.YtnjkagopmfenkaaGreat.V4
open Go Go.RowKit
set_option linter.unusedVariables false
set_option linter.unusedSimpArgs false

/-- A datagram's numbers that tell whether it may be: its Off and how many bytes Options and Body have. -/
structure Lens (c : List Value) (off : Int) (no nb : Nat) : Prop where
  len : c.length = 17
  h4 : c[4]? = some (.int .i64 off)
  h15 : ∃ a k, c[15]? = some (.slice a no k)
  h16 : ∃ a k, c[16]? = some (.slice a nb k)
  bo : -9223372036854775808 ≤ off ∧ off ≤ 9223372036854775807
  bn : no ≤ 140737488351232
  bb : nb ≤ 140737488351232

def badV (off : Int) (no : Nat) : Bool := decide (off < 0) || decide (8191 < off) || decide (40 < no) || decide (no % 4 ≠ 0)
def longV (no nb : Nat) : Bool := decide (65535 < 20 + no + nb)
def chk (off : Int) (no nb : Nat) : Int := if badV off no then 45 else if longV no nb then 2 else 0

theorem int40 (no : Nat) : decide ((40 : Int) < (no : Int)) = decide (40 < no) := by rw [decide_eq_decide]; omega
theorem int4 (no : Nat) : ((no : Int) % 4 != 0) = decide (no % 4 ≠ 0) := by
  by_cases h : no % 4 = 0
  · have : (no : Int) % 4 = 0 := by omega
    simp [h, this]
  · have : (no : Int) % 4 ≠ 0 := by omega
    simp [h, this]
theorem intL (no nb : Nat) : decide ((65535 : Int) < 20 + (no : Int) + (nb : Int)) = decide (65535 < 20 + no + nb) := by rw [decide_eq_decide]; omega
theorem intR (no nb : Nat) : decide ((65515 : Int) - (no : Int) < (nb : Int)) = decide (65535 < 20 + no + nb) := by rw [decide_eq_decide]; omega

set_option maxHeartbeats 1000000 in
set_option maxRecDepth 100000 in
theorem Check_calls (c : List Value) (off : Int) (no nb : Nat) (w : World) (h : Lens c off no nb) :
    Calls Tryz.prog 35 #[.agg c.toArray] w fun e w' => e = .returned (.int .i64 (chk off no nb)) ∧ Below w.heap.size w w' := by
  obtain ⟨hl, h4, ⟨ao, ko, h15⟩, ⟨ab, kb, h16⟩, bo, bn, bb⟩ := h
  have hB := (Below.refl w.heap.size w).alloc (Nat.le_refl _) (.cells c.toArray 27)
  clear hl
  have e1 := int40 no
  have e2 := int4 no
  have e3 := intL no nb
  have e4 := intR no nb
  unfold chk badV longV
  generalize hx1 : decide (off < 0) = x1
  generalize hx2 : decide (8191 < off) = x2
  generalize hx3 : decide (40 < no) = x3 at *
  generalize hx4 : decide (no % 4 ≠ 0) = x4 at *
  generalize hx5 : decide (65535 < 20 + no + nb) = x5 at *
  have HX3 : Hid _ := hx3
  have HX4 : Hid _ := hx4
  have HX5 : Hid _ := hx5
  clear hx3 hx4 hx5
  go_enter Tryz.func35, Tryz.ntmps35
  cases x1
  · cases x2
    · cases x3
      · cases x4
        · cases x5
          · go_wp2
            go_ret
            exact ⟨rfl, hB⟩
          · go_wp2
            go_ret
            exact ⟨rfl, hB⟩
        · go_wp2
          go_ret
          exact ⟨rfl, hB⟩
      · go_wp2
        go_ret
        exact ⟨rfl, hB⟩
    · go_wp2
      go_ret
      exact ⟨rfl, hB⟩
  · go_wp2
    go_ret
    exact ⟨rfl, hB⟩

set_option maxHeartbeats 1000000 in
set_option maxRecDepth 100000 in
theorem RCheck_calls (c : List Value) (off : Int) (no nb : Nat) (w : World) (h : Lens c off no nb) :
    Calls Tryz.prog 31 #[.agg c.toArray] w fun e w' => e = .returned (.int .i64 (chk off no nb)) ∧ Below w.heap.size w w' := by
  obtain ⟨hl, h4, ⟨ao, ko, h15⟩, ⟨ab, kb, h16⟩, bo, bn, bb⟩ := h
  have hB := (Below.refl w.heap.size w).alloc (Nat.le_refl _) (.cells c.toArray 27)
  clear hl
  have e1 := int40 no
  have e2 := int4 no
  have e3 := intL no nb
  have e4 := intR no nb
  unfold chk badV longV
  generalize hx1 : decide (off < 0) = x1
  generalize hx2 : decide (8191 < off) = x2
  generalize hx3 : decide (40 < no) = x3 at *
  generalize hx4 : decide (no % 4 ≠ 0) = x4 at *
  generalize hx5 : decide (65535 < 20 + no + nb) = x5 at *
  have HX3 : Hid _ := hx3
  have HX4 : Hid _ := hx4
  have HX5 : Hid _ := hx5
  clear hx3 hx4 hx5
  go_enter Tryz.func31, Tryz.ntmps31
  cases x1
  · cases x2
    · cases x3
      · cases x4
        · cases x5
          · go_wp2
            go_ret
            exact ⟨rfl, hB⟩
          · go_wp2
            go_ret
            exact ⟨rfl, hB⟩
        · go_wp2
          go_ret
          exact ⟨rfl, hB⟩
      · go_wp2
        go_ret
        exact ⟨rfl, hB⟩
    · go_wp2
      go_ret
      exact ⟨rfl, hB⟩
  · go_wp2
    go_ret
    exact ⟨rfl, hB⟩

set_option maxHeartbeats 1000000 in
set_option maxRecDepth 100000 in
theorem Size_calls (c : List Value) (off : Int) (no nb : Nat) (w : World) (h : Lens c off no nb) :
    Calls Tryz.prog 94 #[.agg c.toArray] w fun e w' => e = .returned (.tuple #[.int .i64 (if chk off no nb = 0 then 20 + (no : Int) + nb else 0), .int .i64 (if chk off no nb = 0 then 20 + (no : Int) else 0), .int .i64 (chk off no nb)]) ∧ Below w.heap.size w w' := by
  have hc := fun w => Check_calls c off no nb w h
  obtain ⟨hl, h4, ⟨ao, ko, h15⟩, ⟨ab, kb, h16⟩, bo, bn, bb⟩ := h
  have hb0 := blk_new w (.cells c.toArray 27)
  have hB := (Below.refl w.heap.size w).alloc (Nat.le_refl _) (.cells c.toArray 27)
  have HL : Hid _ := agg_load (t := 27) Tryz.isAgg27 Tryz.sizeOf27 hl (CellsAt.of_blk hb0)
  have HC : Hid _ := hc
  have HB0 : Hid _ := hb0
  have HB : Hid _ := hB
  clear hl hc hb0 hB
  generalize hk : chk off no nb = k at *
  have HK : Hid _ := hk
  clear hk
  by_cases h0 : k = 0
  · subst h0
    simp only [if_true]
    go_enter Tryz.func94, Tryz.ntmps94
    go_wp2_with ((with_reducible show wpList _ _ _ _ _ _); refine arm_load rfl (.tmp 1) 27 rfl rfl HL.out ?_)
    refine Calls.mono (HC.out _) ?_
    rintro e w2 ⟨rfl, hb2⟩
    have hbl := HB.out.trans (hb2.mono HB.out.size)
    have hb := blk_on HB0.out hb2
    have k15 : w2.cell? ⟨w.heap.size, 15, none⟩ = some (.slice ao no ko) := by simp [World.cell?, hb, h15]
    have k16 : w2.cell? ⟨w.heap.size, 16, none⟩ = some (.slice ab nb kb) := by simp [World.cell?, hb, h16]
    clear hb hb2 HL HC HB0 HB h4 h15 h16
    go_wp2
    go_ret3
    exact ⟨rfl, hbl⟩
  · have q : (k != 0) = true := by simp [h0]
    simp only [if_neg h0]
    go_enter Tryz.func94, Tryz.ntmps94
    go_wp2_with ((with_reducible show wpList _ _ _ _ _ _); refine arm_load rfl (.tmp 1) 27 rfl rfl HL.out ?_)
    refine Calls.mono (HC.out _) ?_
    rintro e w2 ⟨rfl, hb2⟩
    have hbl := HB.out.trans (hb2.mono HB.out.size)
    clear hb2 HL HC HB0 HB h4 h15 h16
    go_wp2
    go_ret3
    exact ⟨rfl, hbl⟩

end Go.Proofs.YtnjkagopmfenkaaGreat.V4

namespace Go.Proofs.YtnjkagopmfenkaaGreat
open Go Go.RowKit
set_option linter.unusedVariables false
set_option linter.unusedSimpArgs false

def ptrL (n : Int) : Int := if n = 0 then 0 else if n = 1 then 1 else if n = 2 ∨ n = 3 then 4 else if n = 8 then 7 else if n = 9 then 6 else if 12 ≤ n ∧ n ≤ 15 then 8 else if 16 ≤ n ∧ n ≤ 19 then 24 else 0
def ptrB (n : Int) : Bool := decide (n ≤ 3) || decide (n = 8) || decide (n = 9) || (decide (12 ≤ n) && decide (n ≤ 19))
theorem ret2u {x p : Int} {y b : Bool} (h1 : x = p) (h2 : y = b) : Ending.returned (Value.tuple #[.int .u32 x, .bool y]) = Ending.returned (Value.tuple #[.int .u32 p, .bool b]) := by rw [h1, h2]
def mtuT (n : Int) : Int := if n < 1260 then 1280 else n + 20

set_option maxHeartbeats 4000000 in
set_option maxRecDepth 100000 in
theorem Pointer_calls (n : Int) (h : 0 ≤ n ∧ n ≤ 255) (w : World) :
    Calls Tryz.prog 21 #[.int .u8 n] w fun e w' => e = .returned (.tuple #[.int .u32 (ptrL n), .bool (ptrB n)]) ∧ w' = w := by
  have hr : Hid (0 ≤ n ∧ n ≤ 255) := h
  generalize hp : ptrL n = p
  generalize hb : ptrB n = b
  have HP : Hid _ := hp
  have HB : Hid _ := hb
  have q1 : n % 4294967296 = n := by omega
  clear hp hb
  go_enter Tryz.func21, Tryz.ntmps21
  go_wp2
  all_goals (go_ret2; refine ⟨ret2u ?_ ?_, rfl⟩ <;> (have hp := HP.out; have hb := HB.out; have hr := hr.out; clear HP HB; subst hp; subst hb; (try unfold ptrL); (try unfold ptrB); try simp only [beq_iff_eq, beq_eq_false_iff_ne, ne_eq, Bool.not_eq_true, decide_eq_true_eq, decide_eq_false_iff_not, Int.not_le, Int.not_lt] at *))
  all_goals first | omega | ((repeat' split) <;> omega) | (rw [Bool.eq_iff_iff]; simp only [Bool.or_eq_true, Bool.and_eq_true, decide_eq_true_eq, true_iff, false_iff, Bool.false_eq_true, iff_true, iff_false, not_or, not_and]; omega)

set_option maxHeartbeats 4000000 in
set_option maxRecDepth 100000 in
theorem MTU_calls (n : Int) (h : 0 ≤ n ∧ n ≤ 65535) (w : World) :
    Calls Tryz.prog 23 #[.int .u16 n] w fun e w' => e = .returned (.int .u32 (mtuT n)) ∧ w' = w := by
  have hr : Hid (0 ≤ n ∧ n ≤ 65535) := h
  generalize hp : mtuT n = p
  have HP : Hid _ := hp
  have q1 : n % 4294967296 = n := by omega
  have q2 : (n + 20) % 4294967296 = n + 20 := by omega
  clear hp
  go_enter Tryz.func23, Tryz.ntmps23
  go_wp2
  all_goals (go_ret; refine ⟨?_, rfl⟩; have hp := HP.out; have hr := hr.out; subst hp; unfold mtuT; refine congrArg (fun z => Ending.returned (Value.int .u32 z)) ?_; (try simp only [decide_eq_true_eq, decide_eq_false_iff_not, Int.not_le, Int.not_lt] at *); first | omega | (repeat' split) <;> omega)

set_option maxHeartbeats 4000000 in
set_option maxRecDepth 100000 in
theorem RPointer_calls (n : Int) (h : 0 ≤ n ∧ n ≤ 255) (w : World) :
    Calls Tryz.prog 22 #[.int .u8 n] w fun e w' => e = .returned (.tuple #[.int .u32 (ptrL n), .bool (ptrB n)]) ∧ w' = w := by
  have hr : Hid (0 ≤ n ∧ n ≤ 255) := h
  generalize hp : ptrL n = p
  generalize hb : ptrB n = b
  have HP : Hid _ := hp
  have HB : Hid _ := hb
  have q1 : n % 4294967296 = n := by omega
  clear hp hb
  go_enter Tryz.func22, Tryz.ntmps22
  go_wp2
  all_goals (go_ret2; refine ⟨ret2u ?_ ?_, rfl⟩ <;> (have hp := HP.out; have hb := HB.out; have hr := hr.out; clear HP HB; subst hp; subst hb; (try unfold ptrL); (try unfold ptrB); try simp only [beq_iff_eq, beq_eq_false_iff_ne, ne_eq, Bool.not_eq_true, decide_eq_true_eq, decide_eq_false_iff_not, Int.not_le, Int.not_lt] at *))
  all_goals first | omega | ((repeat' split) <;> omega) | (rw [Bool.eq_iff_iff]; simp only [Bool.or_eq_true, Bool.and_eq_true, decide_eq_true_eq, true_iff, false_iff, Bool.false_eq_true, iff_true, iff_false, not_or, not_and]; omega)

set_option maxHeartbeats 4000000 in
set_option maxRecDepth 100000 in
theorem RMTU_calls (n : Int) (h : 0 ≤ n ∧ n ≤ 65535) (w : World) :
    Calls Tryz.prog 24 #[.int .u16 n] w fun e w' => e = .returned (.int .u32 (mtuT n)) ∧ w' = w := by
  have hr : Hid (0 ≤ n ∧ n ≤ 65535) := h
  generalize hp : mtuT n = p
  have HP : Hid _ := hp
  have q1 : n % 4294967296 = n := by omega
  have q2 : (n + 20) % 4294967296 = n + 20 := by omega
  clear hp
  go_enter Tryz.func24, Tryz.ntmps24
  go_wp2
  all_goals (go_ret; refine ⟨?_, rfl⟩; have hp := HP.out; have hr := hr.out; subst hp; unfold mtuT; refine congrArg (fun z => Ending.returned (Value.int .u32 z)) ?_; (try simp only [decide_eq_true_eq, decide_eq_false_iff_not, Int.not_le, Int.not_lt] at *); first | omega | (repeat' split) <;> omega)
end Go.Proofs.YtnjkagopmfenkaaGreat
