/-
  Worlds above one: all blocks of that one are as they were. A region that draws its order, whose operations read old blocks and whose calls leave a world above, is walked once.
  Structs and arrays as one value: loads, stores and literals of them, whatever the type; none of their cells is looked at.
  A law of our own on 'for x := range g { .. }' whose rounds may append to rows of their own: a round turns nothing but cells, and leaves the iterator's box.
-/
import Derived.Test.YtpgnnplpcalbbaaGreatProg
import Derived.WalkKit
import Derived.Below
import Derived.BigQuiet
import Derived.Laws.IdiomCopy
import Derived.Laws.Tables
import Derived.RangeFuncNested
import Derived.RangeFuncBound
import Derived.RangeFuncCalls
import Derived.RangeFuncLeaves
import Derived.Shelf.Abstract
import Derived.Shelf.RegionOpen
import Derived.OwnWalkIn
import Derived.TacticsInMore
import Derived.LoopNIn
import Derived.LoopIn
set_option linter.unusedVariables false
set_option linter.unusedSimpArgs false
namespace Go.Proofs.YtpgnnplpcalbbaaGreat
open Go Go.RowKit
theorem cell4_of {W : World} {b : Nat} {v0 v1 v2 v3 : Value} {t : TypeId} (h : W.heap[b]? = some (.cells #[v0, v1, v2, v3] t)) :
    W.cell? ⟨b, 0, none⟩ = some v0 ∧ W.cell? ⟨b, 1, none⟩ = some v1 ∧ W.cell? ⟨b, 2, none⟩ = some v2 ∧ W.cell? ⟨b, 3, none⟩ = some v3 := by simp [World.cell?, h]
theorem cell5_of {W : World} {b : Nat} {v0 v1 v2 v3 v4 : Value} {t : TypeId} (h : W.heap[b]? = some (.cells #[v0, v1, v2, v3, v4] t)) :
    W.cell? ⟨b, 0, none⟩ = some v0 ∧ W.cell? ⟨b, 1, none⟩ = some v1 ∧ W.cell? ⟨b, 2, none⟩ = some v2 ∧ W.cell? ⟨b, 3, none⟩ = some v3 ∧ W.cell? ⟨b, 4, none⟩ = some v4 := by simp [World.cell?, h]
theorem blk_on {w W : World} {b : Nat} {o : Obj} (h : w.heap[b]? = some o) (hb : Below w.heap.size w W) : W.heap[b]? = some o :=
  (hb.block b (Array.getElem?_eq_some_iff.1 h).1).trans h
theorem blk_new (w : World) (o : Obj) : (w.alloc o).heap[w.heap.size]? = some o := by
  rw [← World.alloc_eq]
  simp
theorem blk_alloc {w : World} {b : Nat} {o : Obj} (h : w.heap[b]? = some o) (o' : Obj) : (w.alloc o').heap[b]? = some o :=
  blk_on h ((Below.refl _ w).alloc (Nat.le_refl _) o')
structure Hi (w : World) where
  W : World
  below : Below w.heap.size w W
def Hi.refl (w : World) : Hi w := ⟨w, Below.refl _ w⟩
instance (w : World) : Nonempty (Hi w) := ⟨Hi.refl w⟩
def Hi.more {w : World} (x : Hi w) {W : World} (h : Below x.W.heap.size x.W W) : Hi w := ⟨W, x.below.trans (h.mono x.below.size)⟩
def Hi.up {w : World} (x : Hi w) (y : Hi x.W) : Hi w := x.more y.below
theorem Hi.blk {w : World} {b : Nat} {o : Obj} (h : w.heap[b]? = some o) (x : Hi w) : x.W.heap[b]? = some o :=
  (x.below.block b (Array.getElem?_eq_some_iff.1 h).1).trans h
theorem Hi.calls {P : Program} {f : FuncId} {args : Array Value} {w : World} {x : Hi w} {v : Value} (h : Calls P f args x.W fun e w' => e = .returned v ∧ Below x.W.heap.size x.W w') :
    Calls P f args x.W fun e w'' => e = .returned v ∧ ∃ y : Hi w, w'' = y.W :=
  h.mono fun _ w' ⟨he, hb⟩ => ⟨he, x.more hb, rfl⟩
theorem wp_region_hi {P : Program} {id : Nat} {Q : Exit → Act → World → Prop} {a : Act} {w : World} {l : List Oper} (hm : P.follows .mixedOrders = true) (hB : Region.lexB .any l.toArray = true)
    (h : wpQuiet P l.toArray (fun w' => ∃ x : Hi w, w' = x.W) (fun a' => ∀ w', (∃ x : Hi w, w' = x.W) → Q .normal a' w') l a) : (Code.region id l.toArray true).wp P Q a w :=
  wp_region_quiet (C := fun w' => ∃ x : Hi w, w' = x.W) hm hB ⟨⟨{ w with drawn := w.drawn + 1 }, (Below.refl _ w).drew⟩, rfl⟩ (by simpa using h)
theorem wp_region_up {P : Program} {id : Nat} {Q : Exit → Act → World → Prop} {a : Act} {w : World} {x : Hi w} {l : List Oper} (hm : P.follows .mixedOrders = true) (hB : Region.lexB .any l.toArray = true)
    (h : wpQuiet P l.toArray (fun w' => ∃ x : Hi w, w' = x.W) (fun a' => ∀ w', (∃ x : Hi w, w' = x.W) → Q .normal a' w') l a) : (Code.region id l.toArray true).wp P Q a x.W :=
  wp_region_quiet (C := fun w' => ∃ x : Hi w, w' = x.W) hm hB ⟨⟨{ x.W with drawn := x.W.drawn + 1 }, x.below.drew⟩, rfl⟩ (by simpa using h)
theorem Hi.cell4 {w : World} {b : Nat} {v0 v1 v2 v3 : Value} {t : TypeId} (h : w.heap[b]? = some (.cells #[v0, v1, v2, v3] t)) :
    (∀ x : Hi w, x.W.cell? ⟨b, 0, none⟩ = some v0) ∧ (∀ x : Hi w, x.W.cell? ⟨b, 1, none⟩ = some v1) ∧ (∀ x : Hi w, x.W.cell? ⟨b, 2, none⟩ = some v2) ∧ (∀ x : Hi w, x.W.cell? ⟨b, 3, none⟩ = some v3) :=
  ⟨fun x => by simp [World.cell?, Hi.blk h x], fun x => by simp [World.cell?, Hi.blk h x], fun x => by simp [World.cell?, Hi.blk h x], fun x => by simp [World.cell?, Hi.blk h x]⟩
theorem Hi.cell5 {w : World} {b : Nat} {v0 v1 v2 v3 v4 : Value} {t : TypeId} (h : w.heap[b]? = some (.cells #[v0, v1, v2, v3, v4] t)) :
    (∀ x : Hi w, x.W.cell? ⟨b, 0, none⟩ = some v0) ∧ (∀ x : Hi w, x.W.cell? ⟨b, 1, none⟩ = some v1) ∧ (∀ x : Hi w, x.W.cell? ⟨b, 2, none⟩ = some v2) ∧ (∀ x : Hi w, x.W.cell? ⟨b, 3, none⟩ = some v3) ∧ (∀ x : Hi w, x.W.cell? ⟨b, 4, none⟩ = some v4) :=
  ⟨fun x => by simp [World.cell?, Hi.blk h x], fun x => by simp [World.cell?, Hi.blk h x], fun x => by simp [World.cell?, Hi.blk h x], fun x => by simp [World.cell?, Hi.blk h x], fun x => by simp [World.cell?, Hi.blk h x]⟩
end Go.Proofs.YtpgnnplpcalbbaaGreat
namespace Go.Proofs.YtpgnnplpcalbbaaGreat
open Go Go.RowKit
/-- The cells of a block from a place on. -/
def CellsAt (w : World) (b o : Nat) (vs : List Value) : Prop := ∀ j v, vs[j]? = some v → w.cell? ⟨b, o + j, none⟩ = some v
theorem CellsAt.of_blk {w : World} {b : Nat} {A : Array Value} {t : TypeId} {fr : Nat × Nat} (h : w.heap[b]? = some (.cells A t fr)) : CellsAt w b 0 A.toList := by
  intro j v hj
  simp only [World.cell?, h, Nat.zero_add]
  simpa using hj
theorem CellsAt.part {w : World} {b o : Nat} {xs ys zs : List Value} (h : CellsAt w b o (xs ++ (ys ++ zs))) : CellsAt w b (o + xs.length) ys := by
  intro j v hj
  have hl := (List.getElem?_eq_some_iff.1 hj).1
  have := h (xs.length + j) v (by rw [List.getElem?_append_right (by omega), Nat.add_sub_cancel_left, List.getElem?_append_left hl]; exact hj)
  rwa [Nat.add_assoc]
theorem CellsAt.fst {w : World} {b o : Nat} {xs ys : List Value} (h : CellsAt w b o (xs ++ ys)) : CellsAt w b o xs := by
  intro j v hj
  have hl := (List.getElem?_eq_some_iff.1 hj).1
  exact h j v (by rw [List.getElem?_append_left hl]; exact hj)
theorem CellsAt.lt {w : World} {b o : Nat} {v : Value} {vs : List Value} (h : CellsAt w b o (v :: vs)) : b < w.heap.size := by
  have := h 0 v rfl
  unfold World.cell? at this
  cases hw : w.heap[b]? with
  | none => rw [hw] at this; simp at this
  | some ob => exact (Array.getElem?_eq_some_iff.1 hw).1
theorem CellsAt.up {w : World} {b o : Nat} {vs : List Value} (h : CellsAt w b o vs) (hb : b < w.heap.size) (x : Hi w) : CellsAt x.W b o vs := by
  intro j v hj
  exact (x.below.cell (p := ⟨b, o + j, none⟩) hb).trans (h j v hj)
theorem agg_load {t n : Nat} {w : World} {b o : Nat} {vs : List Value} (ha : ∀ w, (isAgg t).run Tryz.prog w = .ok true w) (hs : ∀ w, (Go.sizeOf t).run Tryz.prog w = .ok n w) (hl : vs.length = n) (h : CellsAt w b o vs) :
    (Instr.loadAt t (.pointer (some ⟨b, o, none⟩))).run Tryz.prog w = .ok (.agg vs.toArray) w := by
  have hl' := run_loadCells_list (P := Tryz.prog) w ⟨b, o, none⟩ vs (fun j v hj => by rw [Go.WideShapes.add_plain]; exact h j v hj)
  rw [hl] at hl'
  simp [Instr.loadAt, Instr.sureAddr, loadVar, ha, hs, hl']
theorem agg_loadVar {t n : Nat} {w : World} {b o : Nat} {vs : List Value} (ha : ∀ w, (isAgg t).run Tryz.prog w = .ok true w) (hs : ∀ w, (Go.sizeOf t).run Tryz.prog w = .ok n w) (hl : vs.length = n) (h : CellsAt w b o vs) :
    (loadVar t ⟨b, o, none⟩).run Tryz.prog w = .ok (.agg vs.toArray) w := by
  have := agg_load ha hs hl h
  simpa [Instr.loadAt, Instr.sureAddr] using this
theorem agg_store {t n : Nat} {w : World} {b o : Nat} {vs : List Value} (hs : ∀ w, (Go.sizeOf t).run Tryz.prog w = .ok n w) (hl : vs.length = n) (h1 : ∀ v ∈ vs, v.oneCell' = true)
    (hc : ∀ j, j < vs.length → (w.cell? ⟨b, o + j, none⟩).isSome = true) (hf : ∀ j, w.frozen? ⟨b, j, none⟩ = false) :
    (Instr.storeAt t (.pointer (some ⟨b, o, none⟩)) (.agg vs.toArray)).run Tryz.prog w = .ok () (w.setCells b o vs) := by
  have hst := run_storeCells_cells (P := Tryz.prog) b o vs 0 w (fun j hj => by simpa using hc j hj) (fun j hj => hf _) h1
  simp [Instr.storeAt, Instr.sureAddr, storeVar, hs, Value.cells, hl]
  simpa using hst
theorem arm_load {P : Program} {w : World} {ops : Array Oper} {rest : List Oper} {o : Oper} {a : Act} {Q : Exit → Act → World → Prop} (hg : Region.wanted o (yielded ops a.tmps) = true) (p : Operand) (t : TypeId)
    (hop : o.op = Op.load t p) {vp v : Value} (hp : a.eval p = vp) (hrun : (Instr.loadAt t vp).run P w = .ok v w) (hK : wpList P ops Q rest (a.put o.dst v) w) : wpList P ops Q (o :: rest) a w := by
  refine BigFrame.wpList_want hg fun K hK' => ?_
  unfold Oper.wp
  simp [execOp, hop, hp, hrun, Result.andThen]
  exact hK' _ _ hK
theorem arm_store {P : Program} {w w2 : World} {ops : Array Oper} {rest : List Oper} {o : Oper} {a : Act} {Q : Exit → Act → World → Prop} (hg : Region.wanted o (yielded ops a.tmps) = true) (p x : Operand) (t : TypeId)
    (hop : o.op = Op.store t p x) {vp vx : Value} (hp : a.eval p = vp) (hx : a.eval x = vx) (hrun : (Instr.storeAt t vp vx).run P w = .ok () w2) (hK : wpList P ops Q rest (a.put o.dst (.tuple #[])) w2) : wpList P ops Q (o :: rest) a w := by
  refine BigFrame.wpList_want hg fun K hK' => ?_
  unfold Oper.wp
  simp [execOp, hop, hp, hx, hrun, Result.andThen]
  exact hK' _ _ hK
theorem arm_build {P : Program} {w : World} {ops : Array Oper} {rest : List Oper} {o : Oper} {a : Act} {Q : Exit → Act → World → Prop} (hg : Region.wanted o (yielded ops a.tmps) = true) (t : TypeId) (ps : List (Nat × Operand))
    (hop : o.op = Op.build t ps.toArray) {vs : List (Nat × Value)} (hv : ps.map (fun p => (p.1, a.eval p.2)) = vs) {v : Value} (hrun : (Instr.build t vs.toArray).run P w = .ok v w) (hK : wpList P ops Q rest (a.put o.dst v) w) : wpList P ops Q (o :: rest) a w := by
  refine BigFrame.wpList_want hg fun K hK' => ?_
  unfold Oper.wp
  have e : (ps.toArray.map fun (i, x) => (i, a.eval x)) = vs.toArray := by
    rw [← hv]
    simp
  simp only [execOp, hop]
  rw [e]
  simp [hrun, Result.andThen]
  exact hK' _ _ hK
theorem CellsAt.stored {b o : Nat} (vs : List Value) {w : World} (hc : ∀ j, j < vs.length → (w.cell? ⟨b, o + j, none⟩).isSome = true) : CellsAt (w.setCells b o vs) b o vs := by
  intro j v hj
  obtain ⟨hlt, hz⟩ := List.getElem?_eq_some_iff.1 hj
  have := World.cell?_setCells_in b vs o w hc j hlt
  rw [this, hz]
theorem Below.sets {B : Nat} {a : World} {R : Nat} (hB : B ≤ R) : ∀ (vs : List Value) (o : Nat) (w : World), Below B a w → Below B a (w.setCells R o vs)
  | [], _, _, h => h
  | v :: r, o, w, h => by
    unfold World.setCells
    exact Below.sets hB r (o + 1) _ (h.setCell hB v)
theorem arm_bin {P : Program} {w : World} {ops : Array Oper} {rest : List Oper} {o : Oper} {a : Act} {Q : Exit → Act → World → Prop} (hg : Region.wanted o (yielded ops a.tmps) = true) (b : BinOp) (t u : TypeId) (x y : Operand)
    (hop : o.op = Op.binOp b t x y u) {vx vy v : Value} (hx : a.eval x = vx) (hy : a.eval y = vy) (hgd : (eqGuard b t x y vx vy).run P w = .ok () w) (hrun : (binOp b t vx vy).run P w = .ok v w) (hK : wpList P ops Q rest (a.put o.dst v) w) : wpList P ops Q (o :: rest) a w := by
  refine BigFrame.wpList_want hg fun K hK' => ?_
  unfold Oper.wp
  simp [execOp, hop, hx, hy, hgd, hrun, Result.andThen]
  exact hK' _ _ hK
/-- The same in a region that draws: a load, in every world above. -/
theorem hi_load {P : Program} {w : World} {o : Oper} {a : Act} {K : Act → Prop} (p : Operand) (t : TypeId) (hop : o.op = Op.load t p) {vp v : Value} (hp : a.eval p = vp) (hrun : ∀ x : Hi w, (Instr.loadAt t vp).run P x.W = .ok v x.W) (hK : K (a.put o.dst v)) :
    o.quiet P a (fun w' => ∃ x : Hi w, w' = x.W) K := by
  refine ⟨v, fun W hW => ?_, hK⟩
  obtain ⟨x, rfl⟩ := hW
  unfold Oper.quietAt
  simp [execOp, hop, hp, hrun, Result.andThen, Oper.quietUpon]
end Go.Proofs.YtpgnnplpcalbbaaGreat
namespace Go.Proofs.YtpgnnplpcalbbaaGreat
open Go Go.RowKit
/-- The contract of an iterator value whose box is block Bp: whatever the loop, as long as that box stays, the values xs come, in their order. -/
def GivesC (P : Program) (g : Nat) (lb : Array Value) (xs : List Value) (Bp : Nat) (obj : Obj) : Prop :=
  ∀ (l : Nat) (J : Nat → World → Prop) (W : World), OwnFrom W.heap.size J → (∀ k X, J k X → X.heap[Bp]? = some obj) →
    (∀ k x W1, xs[k]? = some x → J k W1 → ∀ m, YieldAt Fence.wide m P l #[x] W1 fun e W' => e = .returned (.bool true) ∧ J (k + 1) W') →
    J 0 W → ∀ n, CallsIn Fence.wide n P g (#[.func (.yield l) #[] #[]] ++ lb) W fun e W' => (∃ v, e = .returned v) ∧ J xs.length W'
/-- The loop, where its body always falls off its end; the assignment may lay a box. -/
theorem wpIn_rangeC {P : Program} {n : Nat} {g : Operand} {ps : Array Tmp} {assign body : Code} {Q : Exit → Act → World → Prop} {a : Act} {w : World}
    {gf : Nat} {lb : Array Value} (hg : a.eval g = .func (.func gf) #[] lb) (eg : ∀ args w, (callFunc gf args).run P w = .ok (.enter gf args) w)
    {xs : List Value} {Bp : Nat} {obj : Obj} (hseq : GivesC P gf lb xs Bp obj) (hps : ps.size = 1)
    (I : Nat → World → Prop) (hI : OwnFrom w.heap.size I) (hIB : ∀ k X, I k X → X.heap[Bp]? = some obj) (h0 : I 0 w) (A : Nat → Value → Act → World → Prop) (hA : ∀ k x a', OwnFrom w.heap.size (fun (_ : Unit) W => A k x a' W))
    (hassign : ∀ (l m k : Nat) (x : Value) (W : World) (K : Act → World → Prop), xs[k]? = some x → w.heap.size ≤ W.heap.size → I k W → (∀ a' W', A k x a' W' → KeepsOthers W W' → K a' W') →
      assign.wpIn (Fence.wide.inRound l) m P (Exit.then K (fun _ _ _ => False)) { tmps := (ps.zip #[x]).foldl (fun t (p, v) => t.setIfInBounds p v) a.tmps, defers := [] } W)
    (hbody : ∀ (l m k : Nat) (x : Value) (a' : Act) (W : World), xs[k]? = some x → w.heap.size ≤ W.heap.size → A k x a' W →
      body.wpIn (Fence.wide.inRound l) m P (fun e _ W' => e = .normal ∧ I (k + 1) W' ∧ KeepsOthers W W') a' W)
    (hdone : ∀ (D : Nat) (W : World), w.heap.size ≤ D → I xs.length W → W.heap[D]? = some (.deferred (some [])) → Q .normal { a with defers := { target := .collected D, args := #[] } :: a.defers } W) :
    (Code.rangeFunc g ps assign body).wpIn Fence.wide n P Q a w := by
  refine wpIn_rangeFunc fun fn hfn => ?_
  obtain ⟨rec, hrec⟩ : ∃ rec : LoopState → Loop, rec = fun st => { state := st, pending := none, fn, tmps := a.tmps, params := ps, assign, body, defers := w.heap.size } := ⟨_, rfl⟩
  obtain ⟨W1, hW1⟩ : ∃ W1, (w.alloc (.deferred (some []))).alloc (.loop (rec .ready)) = W1 := ⟨_, rfl⟩
  have hs1 : W1.heap.size = w.heap.size + 2 := by rw [← hW1]; simp
  have hL1 : W1.heap[w.heap.size + 1]? = some (.loop (rec .ready)) := by
    rw [← hW1]; have := World.alloc_heap_new (w.alloc (.deferred (some []))) (.loop (rec .ready)); rwa [World.size_alloc] at this
  have hD1 : W1.heap[w.heap.size]? = some (.deferred (some [])) := by
    rw [← hW1]; exact (Below.heap_alloc _ _ _ (by simp)).trans (World.alloc_heap_new w _)
  have hI1 : I 0 W1 := by rw [← hW1]; exact hI.alloc _ (hI.alloc _ h0)
  refine ⟨w.heap.size + 1, [{ target := .collected w.heap.size, args := #[] }], W1, { target := .fn (.func gf) lb, args := #[.func (.yield (w.heap.size + 1)) #[] #[]] }, W1, gf,
    #[.func (.yield (w.heap.size + 1)) #[] #[]] ++ lb, W1, ?_, ?_, fun _ _ => trivial, ?_, fun h => by simp [Fence.wide] at h, ?_⟩
  · rw [← hW1, hrec]; exact run_enterLoop_outer _ _ _ _ _
  · simp only [resolve, hg]
    simp [go_sem]
  · simp [invoke, go_sem, eg]
  · have stay : ∀ {A B : World} {row : Option Nat} {j : Nat} {o : Obj}, A.grownBy B row → (∀ r, row = some r → W1.heap.size ≤ r ∧ ∃ o : Obj, A.heap[r]? = some o ∧ o.isCells = false) → j < w.heap.size + 2 → A.heap[j]? = some o → B.heap[j]? = some o :=
      fun hgr hr hj ho => (hgr.block _ (Array.getElem?_eq_some_iff.1 ho).1 (fun e => by have := (hr _ e.symm).1; omega)).trans ho
    refine (hseq (w.heap.size + 1)
      (fun k W => I k W ∧ W.heap[w.heap.size + 1]? = some (.loop (rec .ready)) ∧ W.heap[w.heap.size]? = some (.deferred (some [])))
      W1
      (fun s A B row hs hgr hr => ⟨hI s A B row hs.1 hgr (fun r e => ⟨by have := (hr r e).1; omega, (hr r e).2⟩), stay hgr hr (by omega) hs.2.1, stay hgr hr (by omega) hs.2.2⟩)
      (fun k X h => hIB k X h.1) ?_ ⟨hI1, hL1, hD1⟩ _).mono ?_
    · rintro k x W hx ⟨hi, hl, hd⟩ m
      have hlt : w.heap.size + 1 < W.heap.size := (Array.getElem?_eq_some_iff.1 hl).1
      have hy := run_yield (P := P) (args := #[x]) hl (by rw [hrec]; exact hps.symm)
      rw [hrec] at hy
      refine ⟨fn, _, assign, body, hy, roundIn_of_wpIn hfn (hassign _ _ k x W _ hx (by omega) hi ?_)⟩
      intro a' Wa ha hka
      have hla := hka.same _ _ hl rfl
      have hda := hka.same _ _ hd rfl
      have hlta := (Array.getElem?_eq_some_iff.1 hla).1
      refine ⟨_, run_beginRound hla (by rw [hrec]), ?_⟩
      clear hy
      obtain ⟨W2, hW2⟩ : ∃ W2, Wa.putObj (w.heap.size + 1) (.loop { rec .ready with state := .busy }) = W2 := ⟨_, rfl⟩
      have hs2 : W2.heap.size = Wa.heap.size := by rw [← hW2]; simp
      have hl2 : W2.heap[w.heap.size + 1]? = some (.loop (rec .busy)) := by
        rw [← hW2, hrec]; exact World.putObj_heap_same hlta
      have hd2 : W2.heap[w.heap.size]? = some (.deferred (some [])) := by rw [← hW2]; exact (World.putObj_heap_other (by omega)).trans hda
      have hi2 : A k x a' W2 := by rw [← hW2]; exact (hA k x a').putObj (s := ()) _ ha (by omega) hla rfl
      rw [hW2]
      refine wpIn_mono (hbody _ _ k x a' W2 hx (by omega) hi2) ?_
      rintro e a3 W3 ⟨rfl, hi3, hk3⟩
      have hl3 := hk3.same _ _ hl2 rfl
      have hd3 := hk3.same _ _ hd2 rfl
      have hlt3 := (Array.getElem?_eq_some_iff.1 hl3).1
      refine ⟨_, _, run_endRound none hl3, rfl, hI.putObj _ hi3 (by omega) hl3 rfl, ?_, ?_⟩
      · rw [World.putObj_heap_same hlt3, hrec]; rfl
      · exact (World.putObj_heap_other (by omega)).trans hd3
    · rintro e W2 ⟨⟨v, rfl⟩, hi, hl, hd⟩
      exact ⟨none, _, by have := run_endLoop (P := P) hl (by rw [hrec]; simp); rw [hrec] at this; exact this, hdone _ _ (Nat.le_refl _) (hI.putObj _ hi (by omega) hl rfl) ((World.putObj_heap_other (by omega)).trans hd)⟩
end Go.Proofs.YtpgnnplpcalbbaaGreat
