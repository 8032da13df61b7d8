/-
  Worlds above one: all blocks of that one are as they were. A region that draws its order, whose operations read old blocks and whose calls leave a world above, is walked once.
  Structs and arrays as one value: loads, stores and literals of them, whatever the type; none of their cells is looked at.
  The document's Low4 and Check4: all bits behind the first n are 0.
  A prefix may be just when all bits behind its length are 0: the program's way and the document's are one.
  The document's Cut4 is the program's.
  IPv4 prefixes: the document's Has4.
  IPv4 prefixes: the document's Cover4, and its Cut4 of lengths that may not be.
  Addresses and prefixes that came in, as numbers.
  IPv4 prefixes: the program's Has4, and that both sides say the same of what a prefix has and covers.
  Prefixes as sets: two of them meet just when one covers the other; to cover is a partial order.
-/
import Derived.Test.YtloadmpappjceaaDoorProg
import Derived.WalkKit
import Derived.Below
import Derived.BigQuiet
import Derived.Laws.IdiomCopy
import Derived.Laws.Tables
import Derived.Test.YtloadmpappjceaaDoorFoldA
import Derived.Laws.BitsAllLaws
import Derived.Deep.RegionLaw
import Derived.OpenShut
import Derived.ChangeArms
import Derived.ChangeSame
import Derived.ProofKit
import Derived.Test.YtloadmpappjceaaDoorAddrCov
namespace Go.Proofs.YtloadmpappjceaaDoor
open Go Go.RowKit
set_option linter.unusedVariables false

theorem cell4_of {W : World} {b : Nat} {v0 v1 v2 v3 : Value} {t : TypeId} (h : W.heap[b]? = some (.cells #[v0, v1, v2, v3] t)) :
    W.cell? ⟨b, 0, none⟩ = some v0 ∧ W.cell? ⟨b, 1, none⟩ = some v1 ∧ W.cell? ⟨b, 2, none⟩ = some v2 ∧ W.cell? ⟨b, 3, none⟩ = some v3 := by simp [World.cell?, h]
theorem cell5_of {W : World} {b : Nat} {v0 v1 v2 v3 v4 : Value} {t : TypeId} (h : W.heap[b]? = some (.cells #[v0, v1, v2, v3, v4] t)) :
    W.cell? ⟨b, 0, none⟩ = some v0 ∧ W.cell? ⟨b, 1, none⟩ = some v1 ∧ W.cell? ⟨b, 2, none⟩ = some v2 ∧ W.cell? ⟨b, 3, none⟩ = some v3 ∧ W.cell? ⟨b, 4, none⟩ = some v4 := by simp [World.cell?, h]
theorem blk_on {w W : World} {b : Nat} {o : Obj} (h : w.heap[b]? = some o) (hb : Below w.heap.size w W) : W.heap[b]? = some o :=
  (hb.block b (Array.getElem?_eq_some_iff.1 h).1).trans h
theorem blk_new (w : World) (o : Obj) : (w.alloc o).heap[w.heap.size]? = some o := by
  rw [← World.alloc_eq]
  simp
theorem blk_alloc {w : World} {b : Nat} {o : Obj} (h : w.heap[b]? = some o) (o' : Obj) : (w.alloc o').heap[b]? = some o :=
  blk_on h ((Below.refl _ w).alloc (Nat.le_refl _) o')

structure Hi (w : World) where
  W : World
  below : Below w.heap.size w W

def Hi.refl (w : World) : Hi w := ⟨w, Below.refl _ w⟩
instance (w : World) : Nonempty (Hi w) := ⟨Hi.refl w⟩
def Hi.more {w : World} (x : Hi w) {W : World} (h : Below x.W.heap.size x.W W) : Hi w := ⟨W, x.below.trans (h.mono x.below.size)⟩
def Hi.up {w : World} (x : Hi w) (y : Hi x.W) : Hi w := x.more y.below
theorem Hi.blk {w : World} {b : Nat} {o : Obj} (h : w.heap[b]? = some o) (x : Hi w) : x.W.heap[b]? = some o :=
  (x.below.block b (Array.getElem?_eq_some_iff.1 h).1).trans h

theorem Hi.calls {P : Program} {f : FuncId} {args : Array Value} {w : World} {x : Hi w} {v : Value} (h : Calls P f args x.W fun e w' => e = .returned v ∧ Below x.W.heap.size x.W w') :
    Calls P f args x.W fun e w'' => e = .returned v ∧ ∃ y : Hi w, w'' = y.W :=
  h.mono fun _ w' ⟨he, hb⟩ => ⟨he, x.more hb, rfl⟩

theorem wp_region_hi {P : Program} {id : Nat} {Q : Exit → Act → World → Prop} {a : Act} {w : World} {l : List Oper} (hm : P.follows .mixedOrders = true) (hB : Region.lexB .any l.toArray = true)
    (h : wpQuiet P l.toArray (fun w' => ∃ x : Hi w, w' = x.W) (fun a' => ∀ w', (∃ x : Hi w, w' = x.W) → Q .normal a' w') l a) : (Code.region id l.toArray true).wp P Q a w :=
  wp_region_quiet (C := fun w' => ∃ x : Hi w, w' = x.W) hm hB ⟨⟨{ w with drawn := w.drawn + 1 }, (Below.refl _ w).drew⟩, rfl⟩ (by simpa using h)

theorem wp_region_up {P : Program} {id : Nat} {Q : Exit → Act → World → Prop} {a : Act} {w : World} {x : Hi w} {l : List Oper} (hm : P.follows .mixedOrders = true) (hB : Region.lexB .any l.toArray = true)
    (h : wpQuiet P l.toArray (fun w' => ∃ x : Hi w, w' = x.W) (fun a' => ∀ w', (∃ x : Hi w, w' = x.W) → Q .normal a' w') l a) : (Code.region id l.toArray true).wp P Q a x.W :=
  wp_region_quiet (C := fun w' => ∃ x : Hi w, w' = x.W) hm hB ⟨⟨{ x.W with drawn := x.W.drawn + 1 }, x.below.drew⟩, rfl⟩ (by simpa using h)

theorem Hi.cell4 {w : World} {b : Nat} {v0 v1 v2 v3 : Value} {t : TypeId} (h : w.heap[b]? = some (.cells #[v0, v1, v2, v3] t)) :
    (∀ x : Hi w, x.W.cell? ⟨b, 0, none⟩ = some v0) ∧ (∀ x : Hi w, x.W.cell? ⟨b, 1, none⟩ = some v1) ∧ (∀ x : Hi w, x.W.cell? ⟨b, 2, none⟩ = some v2) ∧ (∀ x : Hi w, x.W.cell? ⟨b, 3, none⟩ = some v3) :=
  ⟨fun x => by simp [World.cell?, Hi.blk h x], fun x => by simp [World.cell?, Hi.blk h x], fun x => by simp [World.cell?, Hi.blk h x], fun x => by simp [World.cell?, Hi.blk h x]⟩
theorem Hi.cell5 {w : World} {b : Nat} {v0 v1 v2 v3 v4 : Value} {t : TypeId} (h : w.heap[b]? = some (.cells #[v0, v1, v2, v3, v4] t)) :
    (∀ x : Hi w, x.W.cell? ⟨b, 0, none⟩ = some v0) ∧ (∀ x : Hi w, x.W.cell? ⟨b, 1, none⟩ = some v1) ∧ (∀ x : Hi w, x.W.cell? ⟨b, 2, none⟩ = some v2) ∧ (∀ x : Hi w, x.W.cell? ⟨b, 3, none⟩ = some v3) ∧ (∀ x : Hi w, x.W.cell? ⟨b, 4, none⟩ = some v4) :=
  ⟨fun x => by simp [World.cell?, Hi.blk h x], fun x => by simp [World.cell?, Hi.blk h x], fun x => by simp [World.cell?, Hi.blk h x], fun x => by simp [World.cell?, Hi.blk h x], fun x => by simp [World.cell?, Hi.blk h x]⟩

end Go.Proofs.YtloadmpappjceaaDoor

namespace Go.Proofs.YtloadmpappjceaaDoor
open Go Go.RowKit
set_option linter.unusedVariables false
set_option linter.unusedSimpArgs false

/-- The cells of a block from a place on. -/
def CellsAt (w : World) (b o : Nat) (vs : List Value) : Prop := ∀ j v, vs[j]? = some v → w.cell? ⟨b, o + j, none⟩ = some v
theorem CellsAt.of_blk {w : World} {b : Nat} {A : Array Value} {t : TypeId} {fr : Nat × Nat} (h : w.heap[b]? = some (.cells A t fr)) : CellsAt w b 0 A.toList := by
  intro j v hj
  simp only [World.cell?, h, Nat.zero_add]
  simpa using hj
theorem CellsAt.part {w : World} {b o : Nat} {xs ys zs : List Value} (h : CellsAt w b o (xs ++ (ys ++ zs))) : CellsAt w b (o + xs.length) ys := by
  intro j v hj
  have hl := (List.getElem?_eq_some_iff.1 hj).1
  have := h (xs.length + j) v (by rw [List.getElem?_append_right (by omega), Nat.add_sub_cancel_left, List.getElem?_append_left hl]; exact hj)
  rwa [Nat.add_assoc]
theorem CellsAt.fst {w : World} {b o : Nat} {xs ys : List Value} (h : CellsAt w b o (xs ++ ys)) : CellsAt w b o xs := by
  intro j v hj
  have hl := (List.getElem?_eq_some_iff.1 hj).1
  exact h j v (by rw [List.getElem?_append_left hl]; exact hj)

theorem CellsAt.lt {w : World} {b o : Nat} {v : Value} {vs : List Value} (h : CellsAt w b o (v :: vs)) : b < w.heap.size := by
  have := h 0 v rfl
  unfold World.cell? at this
  cases hw : w.heap[b]? with
  | none => rw [hw] at this; simp at this
  | some ob => exact (Array.getElem?_eq_some_iff.1 hw).1
theorem CellsAt.up {w : World} {b o : Nat} {vs : List Value} (h : CellsAt w b o vs) (hb : b < w.heap.size) (x : Hi w) : CellsAt x.W b o vs := by
  intro j v hj
  exact (x.below.cell (p := ⟨b, o + j, none⟩) hb).trans (h j v hj)
theorem agg_load {t n : Nat} {w : World} {b o : Nat} {vs : List Value} (ha : ∀ w, (isAgg t).run Tryd.prog w = .ok true w) (hs : ∀ w, (Go.sizeOf t).run Tryd.prog w = .ok n w) (hl : vs.length = n) (h : CellsAt w b o vs) :
    (Instr.loadAt t (.pointer (some ⟨b, o, none⟩))).run Tryd.prog w = .ok (.agg vs.toArray) w := by
  have hl' := run_loadCells_list (P := Tryd.prog) w ⟨b, o, none⟩ vs (fun j v hj => by rw [Go.WideShapes.add_plain]; exact h j v hj)
  rw [hl] at hl'
  simp [Instr.loadAt, Instr.sureAddr, loadVar, ha, hs, hl']
theorem agg_loadVar {t n : Nat} {w : World} {b o : Nat} {vs : List Value} (ha : ∀ w, (isAgg t).run Tryd.prog w = .ok true w) (hs : ∀ w, (Go.sizeOf t).run Tryd.prog w = .ok n w) (hl : vs.length = n) (h : CellsAt w b o vs) :
    (loadVar t ⟨b, o, none⟩).run Tryd.prog w = .ok (.agg vs.toArray) w := by
  have := agg_load ha hs hl h
  simpa [Instr.loadAt, Instr.sureAddr] using this
theorem agg_store {t n : Nat} {w : World} {b o : Nat} {vs : List Value} (hs : ∀ w, (Go.sizeOf t).run Tryd.prog w = .ok n w) (hl : vs.length = n) (h1 : ∀ v ∈ vs, v.oneCell' = true)
    (hc : ∀ j, j < vs.length → (w.cell? ⟨b, o + j, none⟩).isSome = true) (hf : ∀ j, w.frozen? ⟨b, j, none⟩ = false) :
    (Instr.storeAt t (.pointer (some ⟨b, o, none⟩)) (.agg vs.toArray)).run Tryd.prog w = .ok () (w.setCells b o vs) := by
  have hst := run_storeCells_cells (P := Tryd.prog) b o vs 0 w (fun j hj => by simpa using hc j hj) (fun j hj => hf _) h1
  simp [Instr.storeAt, Instr.sureAddr, storeVar, hs, Value.cells, hl]
  simpa using hst

theorem arm_load {P : Program} {w : World} {ops : Array Oper} {rest : List Oper} {o : Oper} {a : Act} {Q : Exit → Act → World → Prop} (hg : Region.wanted o (yielded ops a.tmps) = true) (p : Operand) (t : TypeId)
    (hop : o.op = Op.load t p) {vp v : Value} (hp : a.eval p = vp) (hrun : (Instr.loadAt t vp).run P w = .ok v w) (hK : wpList P ops Q rest (a.put o.dst v) w) : wpList P ops Q (o :: rest) a w := by
  refine BigFrame.wpList_want hg fun K hK' => ?_
  unfold Oper.wp
  simp [execOp, hop, hp, hrun, Result.andThen]
  exact hK' _ _ hK
theorem arm_store {P : Program} {w w2 : World} {ops : Array Oper} {rest : List Oper} {o : Oper} {a : Act} {Q : Exit → Act → World → Prop} (hg : Region.wanted o (yielded ops a.tmps) = true) (p x : Operand) (t : TypeId)
    (hop : o.op = Op.store t p x) {vp vx : Value} (hp : a.eval p = vp) (hx : a.eval x = vx) (hrun : (Instr.storeAt t vp vx).run P w = .ok () w2) (hK : wpList P ops Q rest (a.put o.dst (.tuple #[])) w2) : wpList P ops Q (o :: rest) a w := by
  refine BigFrame.wpList_want hg fun K hK' => ?_
  unfold Oper.wp
  simp [execOp, hop, hp, hx, hrun, Result.andThen]
  exact hK' _ _ hK
theorem arm_build {P : Program} {w : World} {ops : Array Oper} {rest : List Oper} {o : Oper} {a : Act} {Q : Exit → Act → World → Prop} (hg : Region.wanted o (yielded ops a.tmps) = true) (t : TypeId) (ps : List (Nat × Operand))
    (hop : o.op = Op.build t ps.toArray) {vs : List (Nat × Value)} (hv : ps.map (fun p => (p.1, a.eval p.2)) = vs) {v : Value} (hrun : (Instr.build t vs.toArray).run P w = .ok v w) (hK : wpList P ops Q rest (a.put o.dst v) w) : wpList P ops Q (o :: rest) a w := by
  refine BigFrame.wpList_want hg fun K hK' => ?_
  unfold Oper.wp
  have e : (ps.toArray.map fun (i, x) => (i, a.eval x)) = vs.toArray := by
    rw [← hv]
    simp
  simp only [execOp, hop]
  rw [e]
  simp [hrun, Result.andThen]
  exact hK' _ _ hK
theorem CellsAt.stored {b o : Nat} (vs : List Value) {w : World} (hc : ∀ j, j < vs.length → (w.cell? ⟨b, o + j, none⟩).isSome = true) : CellsAt (w.setCells b o vs) b o vs := by
  intro j v hj
  obtain ⟨hlt, hz⟩ := List.getElem?_eq_some_iff.1 hj
  have := World.cell?_setCells_in b vs o w hc j hlt
  rw [this, hz]
theorem Below.sets {B : Nat} {a : World} {R : Nat} (hB : B ≤ R) : ∀ (vs : List Value) (o : Nat) (w : World), Below B a w → Below B a (w.setCells R o vs)
  | [], _, _, h => h
  | v :: r, o, w, h => by
    unfold World.setCells
    exact Below.sets hB r (o + 1) _ (h.setCell hB v)
theorem arm_bin {P : Program} {w : World} {ops : Array Oper} {rest : List Oper} {o : Oper} {a : Act} {Q : Exit → Act → World → Prop} (hg : Region.wanted o (yielded ops a.tmps) = true) (b : BinOp) (t u : TypeId) (x y : Operand)
    (hop : o.op = Op.binOp b t x y u) {vx vy v : Value} (hx : a.eval x = vx) (hy : a.eval y = vy) (hgd : (eqGuard b t x y vx vy).run P w = .ok () w) (hrun : (binOp b t vx vy).run P w = .ok v w) (hK : wpList P ops Q rest (a.put o.dst v) w) : wpList P ops Q (o :: rest) a w := by
  refine BigFrame.wpList_want hg fun K hK' => ?_
  unfold Oper.wp
  simp [execOp, hop, hx, hy, hgd, hrun, Result.andThen]
  exact hK' _ _ hK

/-- The same in a region that draws: a load, in every world above. -/
theorem hi_load {P : Program} {w : World} {o : Oper} {a : Act} {K : Act → Prop} (p : Operand) (t : TypeId) (hop : o.op = Op.load t p) {vp v : Value} (hp : a.eval p = vp) (hrun : ∀ x : Hi w, (Instr.loadAt t vp).run P x.W = .ok v x.W) (hK : K (a.put o.dst v)) :
    o.quiet P a (fun w' => ∃ x : Hi w, w' = x.W) K := by
  refine ⟨v, fun W hW => ?_, hK⟩
  obtain ⟨x, rfl⟩ := hW
  unfold Oper.quietAt
  simp [execOp, hop, hp, hrun, Result.andThen, Oper.quietUpon]

end Go.Proofs.YtloadmpappjceaaDoor

namespace Go.Proofs.YtloadmpappjceaaDoor
open Go Go.RowKit
set_option linter.unusedVariables false
set_option linter.unusedSimpArgs false

theorem lbit_u8 (z : Int) (k : Nat) (h0 : 0 ≤ z) (h1 : z < 256) : bits .and .u8 (z / 2 ^ k) 1 = ((bk z.toNat k : Nat) : Int) := by
  have e : z / 2 ^ k = ((z.toNat / 2 ^ k : Nat) : Int) := by
    obtain ⟨n, rfl⟩ := Int.eq_ofNat_of_zero_le h0
    simp
  have hlt : z.toNat / 2 ^ k < 256 := Nat.lt_of_le_of_lt (Nat.div_le_self _ _) (by omega)
  have h := u8_and_nat (z.toNat / 2 ^ k) 1 hlt (by decide)
  rw [e]
  rw [show ((1 : Nat) : Int) = 1 from rfl] at h
  rw [h, Nat.and_one_is_mod]
  rfl

/-- All bits from n on are 0. -/
def lowB (zs : List Int) (n : Nat) : Bool := decide (∀ i, i < 8 * zs.length → n ≤ i → bitN zs i = 0)

set_option maxHeartbeats 1000000 in
set_option maxRecDepth 100000 in
theorem Low4_calls (a0 a1 a2 a3 : Int) (n : Nat) (w : World) (hf : FitB [a0, a1, a2, a3]) (hn : n ≤ 32) :
    Calls Tryd.prog 55 #[.agg #[.int .u8 a0, .int .u8 a1, .int .u8 a2, .int .u8 a3], .int .i64 n] w fun e w' => e = .returned (.bool (lowB [a0, a1, a2, a3] n)) ∧ Below w.heap.size w w' := by
  have hB := (Below.refl w.heap.size w).alloc (Nat.le_refl _) (.cells #[.int .u8 a0, .int .u8 a1, .int .u8 a2, .int .u8 a3] 27)
  have hc : ∀ j, j < 4 → (w.alloc (.cells #[.int .u8 a0, .int .u8 a1, .int .u8 a2, .int .u8 a3] 27)).cell? ⟨w.heap.size, j, none⟩ = some (.int .u8 ([a0, a1, a2, a3][j]?.getD 0)) := by
    intro j hj
    rw [World.cell?_alloc_new]
    match j, hj with
    | 0, _ => rfl
    | 1, _ => rfl
    | 2, _ => rfl
    | 3, _ => rfl
    | n + 4, hj => omega
  have HC : Hid _ := hc
  have HB : Hid _ := hB
  clear hc hB
  go_enter Tryd.func55, Tryd.ntmps55
  go_wp2
  generalize w.alloc (.cells #[.int .u8 a0, .int .u8 a1, .int .u8 a2, .int .u8 a3] 27) = w1 at *
  go_loopw [5] (fun i wr => ∃ k : Nat, n ≤ k ∧ k ≤ 32 ∧ i = .int .i64 k ∧ (∀ i, n ≤ i → i < k → bitN [a0, a1, a2, a3] i = 0) ∧ wr = w1) (fun i _ => 32 - (intOf i).toNat)
  case atStart => exact ⟨n, Nat.le_refl _, hn, rfl, fun i h1 h2 => by omega, rfl⟩
  case round =>
    obtain ⟨k, hk1, hk2, rfl, hal, rfl⟩ := hrel
    have HA : Hid _ := hal
    clear hal
    by_cases hlt : k < 32
    · have hcc := HC.out (k / 8) (by omega)
      have hfit := fit_at hf (k / 8)
      have hbit := lbit_u8 ([a0, a1, a2, a3][k / 8]?.getD 0) (7 - k % 8) hfit.1 hfit.2
      have hbn : bitN [a0, a1, a2, a3] k = bk ([a0, a1, a2, a3][k / 8]?.getD 0).toNat (7 - k % 8) := rfl
      have hb2 := bitN_lt [a0, a1, a2, a3] k
      have hyes : bitN [a0, a1, a2, a3] k = 0 → ∀ i, n ≤ i → i < k + 1 → bitN [a0, a1, a2, a3] i = 0 := fun h0 i h1 h2 => by
        by_cases c : i = k
        · rw [c]; exact h0
        · exact HA.out i h1 (by omega)
      have hno : bitN [a0, a1, a2, a3] k ≠ 0 → lowB [a0, a1, a2, a3] n = false := fun h0 => by
        unfold lowB
        exact decide_eq_false (fun h => h0 (h k (by simp; omega) hk1))
      rw [← hbn] at hbit
      generalize [a0, a1, a2, a3][k / 8]?.getD 0 = z at *
      generalize bitN [a0, a1, a2, a3] k = bb at *
      have HY : Hid _ := hyes
      have HN : Hid _ := hno
      clear hyes hno hbn HA
      have hbb : bb = 0 ∨ bb = 1 := by omega
      rcases hbb with rfl | rfl
      · go_wp2
        exact ⟨⟨k + 1, by omega, by omega, by simp, HY.out rfl, trivial⟩, by simp [intOf]; omega⟩
      · go_wp2
        go_ret
        rw [HN.out (by decide)]
        exact ⟨rfl, HB.out⟩
    · have hlow : lowB [a0, a1, a2, a3] n = true := by
        unfold lowB
        exact decide_eq_true (fun i hi hn' => HA.out i hn' (by simp at hi; omega))
      have HL : Hid _ := hlow
      clear hlow
      go_wp2
      go_ret
      rw [HL.out]
      exact ⟨rfl, HB.out⟩

end Go.Proofs.YtloadmpappjceaaDoor

namespace Go.Proofs.YtloadmpappjceaaDoor
open Go Go.RowKit
set_option linter.unusedVariables false
set_option linter.unusedSimpArgs false

theorem tab_msk : ∀ r, r < 9 → ∀ j, j < 8 → ∀ z, z < 256 → bk (z &&& (255 - 255 / 2 ^ r)) (7 - j) = if j < r then bk z (7 - j) else 0 := by decide +kernel
theorem bk_bl (z m : Int) (j : Nat) (hj : j < 8) (h : 0 ≤ z ∧ z < 256) : bk (bl z m).toNat (7 - j) = if (j : Int) < m then bk z.toNat (7 - j) else 0 := by
  unfold bl msk
  rw [Int.toNat_natCast, tab_msk (min (max m 0) 8).toNat (by omega) j hj z.toNat (by omega)]
  by_cases c : (j : Int) < m
  · rw [if_pos c, if_pos (by omega)]
  · rw [if_neg c, if_neg (by omega)]

theorem pL_fit {a0 a1 a2 a3 : Int} (n : Int) (h0 : 0 ≤ a0 ∧ a0 < 256) (h1 : 0 ≤ a1 ∧ a1 < 256) (h2 : 0 ≤ a2 ∧ a2 < 256) (h3 : 0 ≤ a3 ∧ a3 < 256) : FitB (pL a0 a1 a2 a3 n) :=
  fit4 (bl_fit _ _ h0) (bl_fit _ _ h1) (bl_fit _ _ h2) (bl_fit _ _ h3)

theorem bitN_pL {a0 a1 a2 a3 : Int} (n i : Nat) (hi : i < 32) (h0 : 0 ≤ a0 ∧ a0 < 256) (h1 : 0 ≤ a1 ∧ a1 < 256) (h2 : 0 ≤ a2 ∧ a2 < 256) (h3 : 0 ≤ a3 ∧ a3 < 256) : bitN (pL a0 a1 a2 a3 n) i = if i < n then bitN [a0, a1, a2, a3] i else 0 := by
  unfold bitN pL
  have hq : i / 8 = 0 ∨ i / 8 = 1 ∨ i / 8 = 2 ∨ i / 8 = 3 := by omega
  rcases hq with q | q | q | q
  all_goals
    rw [q]
    simp only [List.getElem?_cons_zero, List.getElem?_cons_succ, Option.getD_some]
    rw [bk_bl _ _ _ (Nat.mod_lt _ (by decide)) (by assumption)]
    by_cases c : i < n
    · rw [if_pos c, if_pos (by omega)]
    · rw [if_neg c, if_neg (by omega)]

theorem low_ok {a0 a1 a2 a3 : Int} (n : Nat) (hn : n ≤ 32) (h0 : 0 ≤ a0 ∧ a0 < 256) (h1 : 0 ≤ a1 ∧ a1 < 256) (h2 : 0 ≤ a2 ∧ a2 < 256) (h3 : 0 ≤ a3 ∧ a3 < 256) : lowB [a0, a1, a2, a3] n = decide ([a0, a1, a2, a3] = pL a0 a1 a2 a3 n) := by
  unfold lowB
  rw [decide_eq_decide]
  constructor
  · intro h
    refine row_ext rfl (fit4 h0 h1 h2 h3) (pL_fit _ h0 h1 h2 h3) fun p hp => ?_
    have hp' : p < 32 := by simpa using hp
    rw [bitN_pL n p hp' h0 h1 h2 h3]
    by_cases c : p < n
    · rw [if_pos c]
    · rw [if_neg c]; exact h p hp (by omega)
  · intro e i hi hni
    have hi' : i < 32 := by simpa using hi
    rw [e, bitN_pL n i hi' h0 h1 h2 h3, if_neg (by omega)]

set_option maxHeartbeats 2000000 in
set_option maxRecDepth 100000 in
theorem RCheck4_calls (a0 a1 a2 a3 n : Int) (w : World) (h0 : 0 ≤ a0 ∧ a0 < 256) (h1 : 0 ≤ a1 ∧ a1 < 256) (h2 : 0 ≤ a2 ∧ a2 < 256) (h3 : 0 ≤ a3 ∧ a3 < 256) (hb : -9223372036854775808 ≤ n ∧ n ≤ 9223372036854775807) :
    Calls Tryd.prog 30 #[P4 a0 a1 a2 a3 n] w fun e w' => e = .returned (.int .i64 (if okP4 a0 a1 a2 a3 n then 0 else 22)) ∧ Below w.heap.size w w' := by
  have hB := (Below.refl w.heap.size w).alloc (Nat.le_refl _) (.cells #[.int .u8 a0, .int .u8 a1, .int .u8 a2, .int .u8 a3, .int .i64 n] 29)
  by_cases hn : 0 ≤ n ∧ n ≤ 32
  · obtain ⟨m, rfl⟩ := Int.eq_ofNat_of_zero_le hn.1
    have hlow := Low4_calls a0 a1 a2 a3 m (w.alloc (.cells #[.int .u8 a0, .int .u8 a1, .int .u8 a2, .int .u8 a3, .int .i64 m] 29)) (fit4 h0 h1 h2 h3) (by omega)
    rw [low_ok m (by omega) h0 h1 h2 h3] at hlow
    have hok : okP4 a0 a1 a2 a3 m = decide ([a0, a1, a2, a3] = pL a0 a1 a2 a3 m) := by
      unfold okP4
      rw [decide_eq_true hn, Bool.true_and]
    rw [hok]
    generalize decide ([a0, a1, a2, a3] = pL a0 a1 a2 a3 m) = bb at *
    have HL : Hid _ := hlow
    have HB : Hid _ := hB
    clear hlow hB hok
    go_enter Tryd.func30, Tryd.ntmps30
    go_wp2_with fail
    refine Calls.mono HL.out ?_
    rintro e w2 ⟨rfl, hB2⟩
    have hBB := HB.out.trans (hB2.mono HB.out.size)
    clear HL HB hB2
    cases bb
    all_goals
      go_wp2
      go_ret
      exact ⟨rfl, hBB⟩
  · have hok : okP4 a0 a1 a2 a3 n = false := by unfold okP4; rw [decide_eq_false hn, Bool.false_and]
    rw [hok]
    clear hok
    have hn' : n < 0 ∨ 32 < n := by omega
    rcases hn' with hn' | hn'
    all_goals
      go_enter Tryd.func30, Tryd.ntmps30
      go_wp2
      go_ret
      exact ⟨rfl, hB⟩

end Go.Proofs.YtloadmpappjceaaDoor

namespace Go.Proofs.YtloadmpappjceaaDoor
open Go Go.RowKit
set_option linter.unusedVariables false
set_option linter.unusedSimpArgs false

/-- Bits from n on cleared, up to n + k. -/
def clrL (zs : List Int) (n : Nat) : Nat → List Int
  | 0 => zs
  | k + 1 => setL (clrL zs n k) (n + k) 0
@[simp] theorem clrL_length (zs : List Int) (n k : Nat) : (clrL zs n k).length = zs.length := by
  induction k with
  | zero => rfl
  | succ k ih => simp [clrL, ih]
theorem clrL_fit {zs : List Int} (h : FitB zs) (n k : Nat) : FitB (clrL zs n k) := by
  induction k with
  | zero => exact h
  | succ k ih => exact setL_fit ih _ _ (by decide)
theorem bitN_clrL {zs : List Int} (h : FitB zs) (n k q : Nat) (hp : n + k ≤ 8 * zs.length) : bitN (clrL zs n k) q = if n ≤ q ∧ q < n + k then 0 else bitN zs q := by
  induction k with
  | zero => have : ¬ (n ≤ q ∧ q < n + 0) := by omega
            simp [clrL]; omega
  | succ k ih =>
    rw [clrL, bitN_setL (clrL_fit h _ _) _ _ _ (by decide) (by simp; omega), ih (by omega)]
    by_cases c : q = n + k
    · subst c; rw [if_pos rfl, if_pos (by omega)]
    · rw [if_neg c]
      by_cases d : n ≤ q ∧ q < n + k
      · rw [if_pos d, if_pos (by omega)]
      · rw [if_neg d, if_neg (by omega)]
theorem clr_pL {a0 a1 a2 a3 : Int} (n : Nat) (hn : n ≤ 32) (h0 : 0 ≤ a0 ∧ a0 < 256) (h1 : 0 ≤ a1 ∧ a1 < 256) (h2 : 0 ≤ a2 ∧ a2 < 256) (h3 : 0 ≤ a3 ∧ a3 < 256) : clrL [a0, a1, a2, a3] n (32 - n) = pL a0 a1 a2 a3 n := by
  refine row_ext (by simp [pL]) (clrL_fit (fit4 h0 h1 h2 h3) _ _) (pL_fit _ h0 h1 h2 h3) fun p hp => ?_
  have hp' : p < 32 := by simpa using hp
  rw [bitN_clrL (fit4 h0 h1 h2 h3) _ _ _ (by simp; omega), bitN_pL n p hp' h0 h1 h2 h3]
  by_cases c : p < n
  · rw [if_neg (by omega), if_pos c]
  · rw [if_pos (by omega), if_neg c]

theorem wrap_u8 : ∀ k, k < 8 → IntKind.u8.wrap (2 ^ k) = 2 ^ k := by decide
theorem an_one (z : Int) (k : Nat) (hk : k < 8) (h : 0 ≤ z ∧ z < 256) : bits .andNot .u8 z (2 ^ k) = ((setN z.toNat k 0 : Nat) : Int) := by
  have hp : ∀ j, j < 8 → 2 ^ j < 256 := by decide
  have h1 := u8_andNot_nat z.toNat (2 ^ k) (by omega) (hp k hk)
  rw [← tab_an k hk _ (by omega), ← h1, Int.toNat_of_nonneg h.1]
  simp

theorem pow256 : ∀ k, k < 8 → (2 : Int) ^ k % 256 = 2 ^ k := by decide

theorem list4 {l : List Int} (h : l.length = 4) : ∃ x0 x1 x2 x3, l = [x0, x1, x2, x3] := by
  match l, h with
  | [x0, x1, x2, x3], _ => exact ⟨x0, x1, x2, x3, rfl⟩

set_option maxHeartbeats 4000000 in
set_option maxRecDepth 100000 in
theorem RCut4_yes (a0 a1 a2 a3 : Int) (n : Nat) (w : World) (h0 : 0 ≤ a0 ∧ a0 < 256) (h1 : 0 ≤ a1 ∧ a1 < 256) (h2 : 0 ≤ a2 ∧ a2 < 256) (h3 : 0 ≤ a3 ∧ a3 < 256) (hn : n ≤ 32) :
    Calls Tryd.prog 72 #[A4 a0 a1 a2 a3, .int .i64 n] w fun e w' => e = .returned (.tuple #[P4 (bl a0 n) (bl a1 (n - 8)) (bl a2 (n - 16)) (bl a3 (n - 24)) n, .int .i64 0]) ∧ Below w.heap.size w w' := by
  have hG : OwnG ((w.alloc (.cells #[.int .u8 a0, .int .u8 a1, .int .u8 a2, .int .u8 a3] 27)).alloc (.cells #[.int .u8 0, .int .u8 0, .int .u8 0, .int .u8 0, .int .i64 0] 29)) w.heap.size [a0, a1, a2, a3] := by
    have e1 : ((w.alloc (.cells #[.int .u8 a0, .int .u8 a1, .int .u8 a2, .int .u8 a3] 27)).alloc (.cells #[.int .u8 0, .int .u8 0, .int .u8 0, .int .u8 0, .int .i64 0] 29)).heap[w.heap.size]? = some (.cells #[.int .u8 a0, .int .u8 a1, .int .u8 a2, .int .u8 a3] 27) := by
      rw [Below.heap_alloc _ _ _ (by simp)]
      exact alloc_new _ _
    refine ⟨⟨_, _, e1⟩, fun j hj => ?_⟩
    simp only [World.cell?, e1]
    match j, hj with
    | 0, _ => rfl
    | 1, _ => rfl
    | 2, _ => rfl
    | 3, _ => rfl
    | n + 4, hj => simp at hj; omega
  have hR : ((w.alloc (.cells #[.int .u8 a0, .int .u8 a1, .int .u8 a2, .int .u8 a3] 27)).alloc (.cells #[.int .u8 0, .int .u8 0, .int .u8 0, .int .u8 0, .int .i64 0] 29)).heap[w.heap.size + 1]? = some (.cells #[.int .u8 0, .int .u8 0, .int .u8 0, .int .u8 0, .int .i64 0] 29) := alloc_new2 _ _ _
  have hB : Below w.heap.size w ((w.alloc (.cells #[.int .u8 a0, .int .u8 a1, .int .u8 a2, .int .u8 a3] 27)).alloc (.cells #[.int .u8 0, .int .u8 0, .int .u8 0, .int .u8 0, .int .i64 0] 29)) := ((Below.refl _ w).alloc (Nat.le_refl _) _).alloc (by simp) _
  have hf := fit4 h0 h1 h2 h3
  have hend := clr_pL n hn h0 h1 h2 h3
  have HE : Hid _ := hend
  have HR : Hid _ := hR
  have HB : Hid _ := hB
  have HG : Hid _ := hG
  clear hend hR hB hG
  go_enter Tryd.func72, Tryd.ntmps72
  go_wp2
  generalize (w.alloc (.cells #[.int .u8 a0, .int .u8 a1, .int .u8 a2, .int .u8 a3] 27)).alloc (.cells #[.int .u8 0, .int .u8 0, .int .u8 0, .int .u8 0, .int .i64 0] 29) = w1 at *
  go_loopw [6] (fun i wr => ∃ k : Nat, n + k ≤ 32 ∧ i = .int .i64 (n + k : Nat) ∧ OwnG wr w.heap.size (clrL [a0, a1, a2, a3] n k) ∧ Only w.heap.size w1 wr) (fun i _ => 32 - (intOf i).toNat)
  case atStart => exact ⟨0, by omega, rfl, HG.out, Only.refl _ _⟩
  case round =>
    obtain ⟨k, hk, rfl, ho, hO⟩ := hrel
    by_cases hlt : n + k < 32
    · have hset : clrL [a0, a1, a2, a3] n (k + 1) = (clrL [a0, a1, a2, a3] n k).set ((n + k) / 8) ((setN ((clrL [a0, a1, a2, a3] n k)[(n + k) / 8]?.getD 0).toNat (7 - (n + k) % 8) 0 : Nat) : Int) := rfl
      have hfit := fit_at (clrL_fit hf n k) ((n + k) / 8)
      have hlen : (clrL [a0, a1, a2, a3] n k).length = 4 := by simp
      have hcc := ho.cell ((n + k) / 8) (by omega)
      have hop := ho.open ((n + k) / 8)
      have hos := ho.set ((n + k) / 8) (by omega)
      have han := an_one ((clrL [a0, a1, a2, a3] n k)[(n + k) / 8]?.getD 0) (7 - (n + k) % 8) (by omega) hfit
      have hwr := wrap_u8 (7 - (n + k) % 8) (by omega)
      have h256 := pow256 (7 - (n + k) % 8) (by omega)
      generalize hy : clrL [a0, a1, a2, a3] n (k + 1) = y at *
      generalize clrL [a0, a1, a2, a3] n k = x at *
      generalize x[(n + k) / 8]?.getD 0 = z at *
      generalize setN z.toNat (7 - (n + k) % 8) 0 = s at *
      generalize hK : n + k = K at *
      have HY : Hid _ := hy
      have HS : Hid _ := hset
      have HO : Hid _ := hos
      have HK : Hid _ := hK
      clear hy hset hos hK
      go_wp2
      go_region
      go_wp2
      refine ⟨⟨k + 1, by have := HK.out; omega, by have := HK.out; simp; omega, ?_, (hO.set _ _).drew⟩, by simp [intOf]; omega⟩
      rw [HY.out, HS.out]
      have ho2 := HO.out (s : Int)
      exact ⟨ho2.typed, ho2.cell⟩
    · obtain rfl : k = 32 - n := by omega
      have hke : n + (32 - n) = 32 := by omega
      rw [HE.out] at ho
      unfold pL at ho
      have hR2 := (hO.other (w.heap.size + 1) (by omega)).trans HR.out
      have hB2 := HB.out.trans (hO.below (Nat.le_refl _))
      have c0 := ho.cell 0 (by simp)
      have c1 := ho.cell 1 (by simp)
      have c2 := ho.cell 2 (by simp)
      have c3 := ho.cell 3 (by simp)
      simp only [List.getElem?_cons_zero, List.getElem?_cons_succ, Option.getD_some] at c0 c1 c2 c3
      obtain ⟨hfz, r0, r1, r2, r3, r4⟩ := Slot.of hR2 (Below.refl _ _)
      generalize hx0 : bl a0 n = x0 at *
      generalize hx1 : bl a1 (n - 8) = x1 at *
      generalize hx2 : bl a2 (n - 16) = x2 at *
      generalize hx3 : bl a3 (n - 24) = x3 at *
      have HX0 : Hid _ := hx0
      have HX1 : Hid _ := hx1
      have HX2 : Hid _ := hx2
      have HX3 : Hid _ := hx3
      clear hx0 hx1 hx2 hx3 ho hR2 hO HE HR HB HG
      rw [hke]
      clear hke
      go_wp2
      obtain ⟨d0, d1, d2, d3, d4⟩ := set5 wr (w.heap.size + 1) (.int .u8 x0) (.int .u8 x1) (.int .u8 x2) (.int .u8 x3) (.int .i64 n) (by rw [r0]; rfl) (by rw [r1]; rfl) (by rw [r2]; rfl) (by rw [r3]; rfl) (by rw [r4]; rfl)
      have hB3 := hB2.trans (((((((Only.refl (w.heap.size + 1) wr).set 0 (.int .u8 x0)).set 1 (.int .u8 x1)).set 2 (.int .u8 x2)).set 3 (.int .u8 x3)).set 4 (.int .i64 n)).below (show w.heap.size ≤ w.heap.size + 1 by omega))
      generalize ((((wr.setCell ⟨w.heap.size + 1, 0, none⟩ (.int .u8 x0)).setCell ⟨w.heap.size + 1, 1, none⟩ (.int .u8 x1)).setCell ⟨w.heap.size + 1, 2, none⟩ (.int .u8 x2)).setCell ⟨w.heap.size + 1, 3, none⟩ (.int .u8 x3)).setCell ⟨w.heap.size + 1, 4, none⟩ (.int .i64 n) = w5 at *
      refine bodyPost_ret (res_cell2 rfl rfl (loadP4 d0 d1 d2 d3 d4)) rfl ?_
      refine ⟨?_, hB3⟩
      rw [HX0.out, HX1.out, HX2.out, HX3.out]
      rfl

end Go.Proofs.YtloadmpappjceaaDoor

namespace Go.Proofs.YtloadmpappjceaaDoor
open Go Go.RowKit
set_option linter.unusedVariables false
set_option linter.unusedSimpArgs false

/-- Has the prefix that address? -/
def hasB (a0 a1 a2 a3 n b0 b1 b2 b3 : Int) : Bool := decide (pL b0 b1 b2 b3 n = [a0, a1, a2, a3])

theorem two_blocks (w : World) (o1 o2 : Obj) {w' : World} (hb : Below ((w.alloc o1).alloc o2).heap.size ((w.alloc o1).alloc o2) w') : w'.heap[w.heap.size]? = some o1 ∧ w'.heap[w.heap.size + 1]? = some o2 := by
  have e1 : ((w.alloc o1).alloc o2).heap[w.heap.size]? = some o1 := by
    rw [Below.heap_alloc _ _ _ (by simp)]
    exact alloc_new _ _
  have e2 : ((w.alloc o1).alloc o2).heap[w.heap.size + 1]? = some o2 := alloc_new2 _ _ _
  exact ⟨(hb.block _ (Array.getElem?_eq_some_iff.1 e1).1).trans e1, (hb.block _ (Array.getElem?_eq_some_iff.1 e2).1).trans e2⟩

set_option maxHeartbeats 4000000 in
set_option maxRecDepth 100000 in
theorem RHas4_calls (a0 a1 a2 a3 n b0 b1 b2 b3 : Int) (w : World) (h0 : 0 ≤ a0 ∧ a0 < 256) (h1 : 0 ≤ a1 ∧ a1 < 256) (h2 : 0 ≤ a2 ∧ a2 < 256) (h3 : 0 ≤ a3 ∧ a3 < 256) (hb : -9223372036854775808 ≤ n ∧ n ≤ 9223372036854775807)
    (g0 : 0 ≤ b0 ∧ b0 < 256) (g1 : 0 ≤ b1 ∧ b1 < 256) (g2 : 0 ≤ b2 ∧ b2 < 256) (g3 : 0 ≤ b3 ∧ b3 < 256) :
    Calls Tryd.prog 50 #[P4 a0 a1 a2 a3 n, A4 b0 b1 b2 b3] w fun e w' => e = .returned (.tuple #[.bool (okP4 a0 a1 a2 a3 n && hasB a0 a1 a2 a3 n b0 b1 b2 b3), .int .i64 (if okP4 a0 a1 a2 a3 n then 0 else 22)]) ∧ Below w.heap.size w w' := by
  have hB : Below w.heap.size w ((w.alloc (.cells #[.int .u8 a0, .int .u8 a1, .int .u8 a2, .int .u8 a3, .int .i64 n] 29)).alloc (.cells #[.int .u8 b0, .int .u8 b1, .int .u8 b2, .int .u8 b3] 27)) := ((Below.refl _ w).alloc (Nat.le_refl _) _).alloc (by simp) _
  have hchk := RCheck4_calls a0 a1 a2 a3 n ((w.alloc (.cells #[.int .u8 a0, .int .u8 a1, .int .u8 a2, .int .u8 a3, .int .i64 n] 29)).alloc (.cells #[.int .u8 b0, .int .u8 b1, .int .u8 b2, .int .u8 b3] 27)) h0 h1 h2 h3 hb
  have htwo := fun (w' : World) => @two_blocks w (.cells #[.int .u8 a0, .int .u8 a1, .int .u8 a2, .int .u8 a3, .int .i64 n] 29) (.cells #[.int .u8 b0, .int .u8 b1, .int .u8 b2, .int .u8 b3] 27) w'
  have HB : Hid _ := hB
  have HT : Hid _ := htwo
  cases hok : okP4 a0 a1 a2 a3 n
  · rw [hok] at hchk
    have HC : Hid _ := hchk
    clear hchk hok hB htwo
    go_enter Tryd.func50, Tryd.ntmps50
    go_wp2_with fail
    refine Calls.mono HC.out ?_
    rintro e w2 ⟨rfl, hB2⟩
    go_wp2
    go_ret2
    exact ⟨rfl, HB.out.trans (hB2.mono HB.out.size)⟩
  · rw [hok] at hchk
    have hn : 0 ≤ n ∧ n ≤ 32 := by simp [okP4] at hok; exact hok.1
    obtain ⟨m, rfl⟩ := Int.eq_ofNat_of_zero_le hn.1
    have hcut := fun w => RCut4_yes b0 b1 b2 b3 m w g0 g1 g2 g3 (by omega)
    have f0 := bl_fit b0 m g0
    have f1 := bl_fit b1 (m - 8) g1
    have f2 := bl_fit b2 (m - 16) g2
    have f3 := bl_fit b3 (m - 24) g3
    have hhas : hasB a0 a1 a2 a3 m b0 b1 b2 b3 = decide ([bl b0 m, bl b1 (m - 8), bl b2 (m - 16), bl b3 (m - 24)] = [a0, a1, a2, a3]) := rfl
    rw [hhas, Bool.true_and]
    generalize bl b0 m = x0 at *
    generalize bl b1 (m - 8) = x1 at *
    generalize bl b2 (m - 16) = x2 at *
    generalize bl b3 (m - 24) = x3 at *
    have heq : ∀ W, (Op.equalIn 9999 27 (.agg #[.int .u8 x0, .int .u8 x1, .int .u8 x2, .int .u8 x3]) (.agg #[.int .u8 a0, .int .u8 a1, .int .u8 a2, .int .u8 a3])).run Tryd.prog W = .ok (decide ([x0, x1, x2, x3] = [a0, a1, a2, a3])) W :=
      fun W => eq_arr4 9997 [x0, x1, x2, x3] [a0, a1, a2, a3] (fit4 f0 f1 f2 f3) (fit4 h0 h1 h2 h3) rfl rfl W
    generalize decide ([x0, x1, x2, x3] = [a0, a1, a2, a3]) = bb at *
    have HC : Hid _ := hchk
    have HU : Hid _ := hcut
    clear hchk hok hB htwo hcut hhas f0 f1 f2 f3
    go_enter Tryd.func50, Tryd.ntmps50
    go_wp2_with fail
    refine Calls.mono HC.out ?_
    rintro e w2 ⟨rfl, hB2⟩
    have hBB := HB.out.trans (hB2.mono HB.out.size)
    obtain ⟨t1, t2⟩ := HT.out w2 hB2
    have k0 : w2.cell? ⟨w.heap.size + 1, 0, none⟩ = some (.int .u8 b0) := by simp [World.cell?, t2]
    have k1 : w2.cell? ⟨w.heap.size + 1, 1, none⟩ = some (.int .u8 b1) := by simp [World.cell?, t2]
    have k2 : w2.cell? ⟨w.heap.size + 1, 2, none⟩ = some (.int .u8 b2) := by simp [World.cell?, t2]
    have k3 : w2.cell? ⟨w.heap.size + 1, 3, none⟩ = some (.int .u8 b3) := by simp [World.cell?, t2]
    have k4 : w2.cell? ⟨w.heap.size, 4, none⟩ = some (.int .i64 m) := by simp [World.cell?, t1]
    have HT1 : Hid _ := t1
    clear t1 t2
    go_wp2_with fail
    refine Calls.mono (HU.out _) ?_
    rintro e w3 ⟨rfl, hB3⟩
    have hBC := hBB.trans (hB3.mono hBB.size)
    have hall : ∀ o : Obj, (w3.alloc o).heap[w.heap.size]? = some (.cells #[.int .u8 a0, .int .u8 a1, .int .u8 a2, .int .u8 a3, .int .i64 m] 29) := fun o =>
      ((hB3.alloc hB3.size o).block _ (Array.getElem?_eq_some_iff.1 HT1.out).1).trans HT1.out
    have c0 : ∀ o, (w3.alloc o).cell? ⟨w.heap.size, 0, none⟩ = some (.int .u8 a0) := fun o => by simp [World.cell?, hall o]
    have c1 : ∀ o, (w3.alloc o).cell? ⟨w.heap.size, 1, none⟩ = some (.int .u8 a1) := fun o => by simp [World.cell?, hall o]
    have c2 : ∀ o, (w3.alloc o).cell? ⟨w.heap.size, 2, none⟩ = some (.int .u8 a2) := fun o => by simp [World.cell?, hall o]
    have c3 : ∀ o, (w3.alloc o).cell? ⟨w.heap.size, 3, none⟩ = some (.int .u8 a3) := fun o => by simp [World.cell?, hall o]
    have c4 : ∀ o, (w3.alloc o).cell? ⟨w.heap.size, 4, none⟩ = some (.int .i64 m) := fun o => by simp [World.cell?, hall o]
    clear hall k0 k1 k2 k3 k4 hB2 hB3 HC HU HT
    cases bb
    all_goals
      go_wp2
      go_ret2
      exact ⟨rfl, hBC.alloc hBC.size _⟩

end Go.Proofs.YtloadmpappjceaaDoor

namespace Go.Proofs.YtloadmpappjceaaDoor
open Go Go.RowKit
set_option linter.unusedVariables false
set_option linter.unusedSimpArgs false

set_option maxHeartbeats 2000000 in
set_option maxRecDepth 100000 in
theorem RCut4_no (a0 a1 a2 a3 n : Int) (w : World) (hn : n < 0 ∨ 32 < n) (hb : -9223372036854775808 ≤ n ∧ n ≤ 9223372036854775807) :
    Calls Tryd.prog 72 #[A4 a0 a1 a2 a3, .int .i64 n] w fun e w' => e = .returned (.tuple #[P4 0 0 0 0 0, .int .i64 5]) ∧ Below w.heap.size w w' := by
  have hB : Below w.heap.size w ((w.alloc (.cells #[.int .u8 a0, .int .u8 a1, .int .u8 a2, .int .u8 a3] 27)).alloc (.cells #[.int .u8 0, .int .u8 0, .int .u8 0, .int .u8 0, .int .i64 0] 29)) := ((Below.refl _ w).alloc (Nat.le_refl _) _).alloc (by simp) _
  have hR : ((w.alloc (.cells #[.int .u8 a0, .int .u8 a1, .int .u8 a2, .int .u8 a3] 27)).alloc (.cells #[.int .u8 0, .int .u8 0, .int .u8 0, .int .u8 0, .int .i64 0] 29)).heap[w.heap.size + 1]? = some (.cells #[.int .u8 0, .int .u8 0, .int .u8 0, .int .u8 0, .int .i64 0] 29) := alloc_new2 _ _ _
  obtain ⟨hfz, r0, r1, r2, r3, r4⟩ := Slot.of hR (Below.refl _ _)
  have hl := loadP4 r0 r1 r2 r3 r4
  have HL : Hid _ := hl
  clear hl hR hfz r0 r1 r2 r3 r4
  rcases hn with hn | hn
  all_goals
    go_enter Tryd.func72, Tryd.ntmps72
    go_wp2
    exact bodyPost_ret (res_cell2 rfl rfl HL.out) rfl ⟨rfl, hB⟩

def rcovB (a0 a1 a2 a3 n b0 b1 b2 b3 m : Int) : Bool := hasB a0 a1 a2 a3 n b0 b1 b2 b3 && decide (n ≤ m)

end Go.Proofs.YtloadmpappjceaaDoor

namespace Go.Proofs.YtloadmpappjceaaDoor
open Go Go.RowKit
set_option linter.unusedVariables false
set_option linter.unusedSimpArgs false

theorem cells_arr {H : Type} {enc : TypeId × Value → H} {w : World} {base : Nat} {spare : Nat → Bool} {held : Bool} {fuel : Nat} {t : TypeId} {cs : List Value} {x : DataW H × List MemPlace} {n : Nat}
    (ht : Tryd.prog.underlying t = some (.array n 5)) (ct : Tryd.prog.cellsOf t = n) (ce : Tryd.prog.cellsOf 5 = 1) (h : DataW.trod enc Tryd.prog w base spare held fuel t cs = some x) :
    ∃ zs : List Int, zs.length = n ∧ cs = zs.map (fun z => Value.int .u8 z) ∧ FitB zs := by
  obtain ⟨xs, m, _, _, hl, hx, hi⟩ := DataW.trod_array ht h
  rw [ct] at hl
  have each : ∀ i, i < n → ∃ z : Int, cs[i]? = some (.int .u8 z) ∧ 0 ≤ z ∧ z < 256 := by
    intro i hin
    have h1 := hi i hin
    rw [ce, Nat.mul_one, List.getElem?_eq_getElem (by omega)] at h1
    obtain ⟨z, e, _, wf⟩ := DataW.trod_int Tryd.underlying5 h1
    have hb := bounds_u8 wf
    refine ⟨z, ?_, by omega, by omega⟩
    have e2 := congrArg (fun l : List Value => l[0]?) e
    simpa [List.getElem?_take, List.getElem?_drop] using e2
  refine ⟨cs.map intOf, by simpa using hl, ?_, ?_⟩
  · refine List.ext_getElem? fun i => ?_
    by_cases c : i < n
    · obtain ⟨z, hz, _⟩ := each i c
      simp [hz, intOf]
    · rw [List.getElem?_eq_none (by omega), List.getElem?_eq_none (by simp; omega)]
  · intro z hz
    obtain ⟨v, hv, rfl⟩ := List.mem_map.1 hz
    obtain ⟨i, hi', e⟩ := List.getElem_of_mem hv
    obtain ⟨z, hz2, hb⟩ := each i (by omega)
    rw [List.getElem?_eq_getElem hi', e] at hz2
    cases hz2
    exact hb

theorem agg_of {v : Value} {l : List Value} (h : v.cells.toList = l) (hl : 2 ≤ l.length) : v = .agg l.toArray := by
  cases v
  case agg cs => simp only [Value.cells] at h; rw [← h]
  all_goals (simp [Value.cells] at h; subst h; simp at hl)

theorem open_addr4 {H : Type} {enc : TypeId × Value → H} {W : World} {v : Value} {d : DataW H} {p : List MemPlace} (h : DataW.Trod enc Tryd.prog W 0 (fun _ => true) true 27 v d p) :
    ∃ a0 a1 a2 a3, v = A4 a0 a1 a2 a3 ∧ (0 ≤ a0 ∧ a0 < 256) ∧ (0 ≤ a1 ∧ a1 < 256) ∧ (0 ≤ a2 ∧ a2 < 256) ∧ (0 ≤ a3 ∧ a3 < 256) := by
  obtain ⟨fuel, hf⟩ := h
  obtain ⟨zs, hl, hcs, hfit⟩ := cells_arr Tryd.underlying27 (by kernel_rfl) (by kernel_rfl) hf
  have hv := agg_of hcs (by simp; omega)
  obtain ⟨x0, x1, x2, x3, rfl⟩ := list4 hl
  exact ⟨x0, x1, x2, x3, hv, hfit _ (by simp), hfit _ (by simp), hfit _ (by simp), hfit _ (by simp)⟩

set_option maxRecDepth 100000 in
theorem open_prefix4 {H : Type} {enc : TypeId × Value → H} {W : World} {v : Value} {d : DataW H} {p : List MemPlace} (h : DataW.Trod enc Tryd.prog W 0 (fun _ => true) true 29 v d p) :
    ∃ a0 a1 a2 a3 n, v = P4 a0 a1 a2 a3 n ∧ (0 ≤ a0 ∧ a0 < 256) ∧ (0 ≤ a1 ∧ a1 < 256) ∧ (0 ≤ a2 ∧ a2 < 256) ∧ (0 ≤ a3 ∧ a3 < 256) ∧ (Lit.int .i64 n).wf = true := by
  obtain ⟨fuel, hf⟩ := h
  obtain ⟨y0, y1, m, _, hl, h0, h1⟩ := Go.ChangeShapes.trod_struct2 Tryd.underlying29 hf
  have c5 : Tryd.prog.cellsOf 29 = 5 := by kernel_rfl
  rw [c5] at hl
  have h0' : DataW.trod enc Tryd.prog W 0 (fun _ => true) true m 27 ((v.cells.toList.drop 0).take (Tryd.prog.cellsOf 27)) = some y0 := h0
  have h1' : DataW.trod enc Tryd.prog W 0 (fun _ => true) true m 3 ((v.cells.toList.drop 4).take (Tryd.prog.cellsOf 3)) = some y1 := h1
  have c4 : Tryd.prog.cellsOf 27 = 4 := by kernel_rfl
  have c1 : Tryd.prog.cellsOf 3 = 1 := by kernel_rfl
  rw [c4] at h0'
  rw [c1] at h1'
  obtain ⟨zs, hzl, hcs, hfit⟩ := cells_arr Tryd.underlying27 (by kernel_rfl) (by kernel_rfl) h0'
  obtain ⟨n, hn, _, wf⟩ := DataW.trod_int Tryd.underlying3 h1'
  obtain ⟨x0, x1, x2, x3, rfl⟩ := list4 hzl
  have hall : v.cells.toList = [.int .u8 x0, .int .u8 x1, .int .u8 x2, .int .u8 x3, .int .i64 n] := by
    have e : v.cells.toList = v.cells.toList.take 4 ++ (v.cells.toList.drop 4).take 1 := by
      rw [List.take_of_length_le (l := v.cells.toList.drop 4) (by simp at hl ⊢; omega), List.take_append_drop]
    rw [e, hn]
    rw [List.drop_zero] at hcs
    rw [hcs]
    rfl
  have hv := agg_of hall (by simp)
  exact ⟨x0, x1, x2, x3, n, hv, hfit _ (by simp), hfit _ (by simp), hfit _ (by simp), hfit _ (by simp), wf⟩

end Go.Proofs.YtloadmpappjceaaDoor

namespace Go.Proofs.YtloadmpappjceaaDoor
open Go Go.RowKit
set_option linter.unusedVariables false
set_option linter.unusedSimpArgs false

theorem ok32 {a0 a1 a2 a3 : Int} (h0 : 0 ≤ a0 ∧ a0 < 256) (h1 : 0 ≤ a1 ∧ a1 < 256) (h2 : 0 ≤ a2 ∧ a2 < 256) (h3 : 0 ≤ a3 ∧ a3 < 256) : okP4 a0 a1 a2 a3 32 = true := by
  have h := low_ok (a0 := a0) (a1 := a1) (a2 := a2) (a3 := a3) 32 (Nat.le_refl _) h0 h1 h2 h3
  have hl : lowB [a0, a1, a2, a3] 32 = true := by
    unfold lowB
    exact decide_eq_true (fun i hi hn => by simp at hi; omega)
  rw [hl] at h
  unfold okP4
  rw [decide_eq_true (by omega), Bool.true_and]
  exact h.symm

theorem cov_same (a0 a1 a2 a3 n b0 b1 b2 b3 m : Int) : rcovB a0 a1 a2 a3 n b0 b1 b2 b3 m = covB a0 a1 a2 a3 n b0 b1 b2 b3 m := by
  unfold rcovB covB hasB
  rw [Bool.and_comm]
  congr 1
  rw [decide_eq_decide]
  exact ⟨Eq.symm, Eq.symm⟩
theorem has_same {a0 a1 a2 a3 n b0 b1 b2 b3 : Int} (h0 : 0 ≤ b0 ∧ b0 < 256) (h1 : 0 ≤ b1 ∧ b1 < 256) (h2 : 0 ≤ b2 ∧ b2 < 256) (h3 : 0 ≤ b3 ∧ b3 < 256) :
    (bothOk a0 a1 a2 a3 n b0 b1 b2 b3 32 && covB a0 a1 a2 a3 n b0 b1 b2 b3 32) = (okP4 a0 a1 a2 a3 n && hasB a0 a1 a2 a3 n b0 b1 b2 b3) ∧ bothOk a0 a1 a2 a3 n b0 b1 b2 b3 32 = okP4 a0 a1 a2 a3 n := by
  have e : bothOk a0 a1 a2 a3 n b0 b1 b2 b3 32 = okP4 a0 a1 a2 a3 n := by
    unfold bothOk
    rw [ok32 h0 h1 h2 h3, Bool.and_true]
  refine ⟨?_, e⟩
  rw [e]
  cases hok : okP4 a0 a1 a2 a3 n
  · rfl
  · have hn : 0 ≤ n ∧ n ≤ 32 := by simp [okP4] at hok; exact hok.1
    rw [← cov_same]
    unfold rcovB
    rw [decide_eq_true hn.2, Bool.and_true]

set_option maxHeartbeats 2000000 in
set_option maxRecDepth 100000 in
theorem Has4_calls (a0 a1 a2 a3 n b0 b1 b2 b3 : Int) (w : World) (ha : Fits a0 a1 a2 a3 n) (g0 : 0 ≤ b0 ∧ b0 < 256) (g1 : 0 ≤ b1 ∧ b1 < 256) (g2 : 0 ≤ b2 ∧ b2 < 256) (g3 : 0 ≤ b3 ∧ b3 < 256) :
    Calls Tryd.prog 46 #[P4 a0 a1 a2 a3 n, A4 b0 b1 b2 b3] w fun e w' => e = .returned (.tuple #[.bool (okP4 a0 a1 a2 a3 n && hasB a0 a1 a2 a3 n b0 b1 b2 b3), .int .i64 (if okP4 a0 a1 a2 a3 n then 0 else 22)]) ∧ Below w.heap.size w w' := by
  have hB : Below w.heap.size w ((w.alloc (.cells #[.int .u8 a0, .int .u8 a1, .int .u8 a2, .int .u8 a3, .int .i64 n] 29)).alloc (.cells #[.int .u8 b0, .int .u8 b1, .int .u8 b2, .int .u8 b3] 27)) := ((Below.refl _ w).alloc (Nat.le_refl _) _).alloc (by simp) _
  have hs := @has_same a0 a1 a2 a3 n b0 b1 b2 b3 g0 g1 g2 g3
  have hc : ∀ w : World, Calls Tryd.prog 71 #[P4 a0 a1 a2 a3 n, P4 b0 b1 b2 b3 32] w fun e w' => e = .returned (.tuple #[.bool (okP4 a0 a1 a2 a3 n && hasB a0 a1 a2 a3 n b0 b1 b2 b3), .int .i64 (if okP4 a0 a1 a2 a3 n then 0 else 22)]) ∧ Below w.heap.size w w' := by
    intro w
    have h := Cover4_calls a0 a1 a2 a3 n b0 b1 b2 b3 32 w ha ⟨g0, g1, g2, g3, by omega⟩
    rw [hs.1, hs.2] at h
    exact h
  generalize (okP4 a0 a1 a2 a3 n && hasB a0 a1 a2 a3 n b0 b1 b2 b3) = r1 at *
  generalize (if okP4 a0 a1 a2 a3 n = true then (0 : Int) else 22) = r2 at *
  have HC : Hid _ := hc
  have HB : Hid _ := hB
  clear hc hB hs
  go_enter Tryd.func46, Tryd.ntmps46
  go_wp2_with fail
  refine Calls.mono (HC.out _) ?_
  rintro e w2 ⟨rfl, hB2⟩
  go_wp2
  go_ret2
  exact ⟨rfl, HB.out.trans (hB2.mono HB.out.size)⟩

end Go.Proofs.YtloadmpappjceaaDoor

namespace Go.Proofs.YtloadmpappjceaaDoor
open Go
set_option linter.unusedVariables false

theorem msk_tab : ∀ r, r < 9 → ∀ s, s < 9 → r ≤ s → (255 - 255 / 2 ^ s) &&& (255 - 255 / 2 ^ r) = 255 - 255 / 2 ^ r := by decide
theorem msk_and {n m : Int} (h : n ≤ m) : msk m &&& msk n = msk n := by
  unfold msk
  exact msk_tab _ (by omega) _ (by omega) (by omega)
theorem bl_low {n m : Int} (h : n ≤ m) (z : Int) : bl (bl z m) n = bl z n := by
  unfold bl
  rw [Int.toNat_natCast, Nat.and_assoc, msk_and h]
theorem bl_high {n m : Int} (h : n ≤ m) (z : Int) : bl (bl z n) m = bl z n := by
  unfold bl
  rw [Int.toNat_natCast, Nat.and_assoc, Nat.and_comm (msk n), msk_and h]

/-- A row of bytes whose bits behind the first n are 0. -/
def blR (n : Int) (l : List Int) : List Int := l.mapIdx (fun i z => bl z (n - 8 * i))
theorem blR_low {n m : Int} (h : n ≤ m) (l : List Int) : blR n (blR m l) = blR n l := by
  unfold blR
  rw [List.mapIdx_mapIdx]
  congr 1
  funext i z
  exact bl_low (by omega) z
theorem blR_high {n m : Int} (h : n ≤ m) (l : List Int) : blR m (blR n l) = blR n l := by
  unfold blR
  rw [List.mapIdx_mapIdx]
  congr 1
  funext i z
  exact bl_high (by omega) z

/-- What is to be shown of three prefixes and an address. -/
structure SetLaws (a b c d : List Int) (n m k : Int) : Prop where
  k1 : decide (blR n d = a) = true → decide (blR m d = b) = true → (decide (n ≤ m) && decide (a = blR n b)) = false → (decide (m ≤ n) && decide (b = blR m a)) = true
  k2 : (decide (n ≤ m) && decide (a = blR n b)) = true → (decide (m ≤ n) && decide (b = blR m a)) = true → b = a ∧ m = n
  k3 : (decide (n ≤ m) && decide (a = blR n b)) = true → (decide (m ≤ k) && decide (b = blR m c)) = true → (decide (n ≤ k) && decide (a = blR n c)) = true
  k4 : ((decide (n ≤ m) && decide (a = blR n b)) || (decide (m ≤ n) && decide (b = blR m a))) = (decide (blR n b = a) || decide (blR m a = b))

theorem setLaws (a b c d : List Int) (n m k : Int) (ha : a = blR n a) (hb : b = blR m b) (hc : c = blR k c) : SetLaws a b c d n m k := by
  refine ⟨?_, ?_, ?_, ?_⟩
  · simp only [decide_eq_true_eq, Bool.and_eq_true, Bool.and_eq_false_iff, decide_eq_false_iff_not]
    intro h1 h2 h3
    rcases h3 with h3 | h3
    · refine ⟨by omega, ?_⟩
      rw [← h1, blR_low (show m ≤ n by omega), h2]
    · by_cases hnm : n ≤ m
      · exact absurd (by rw [← h2, blR_low hnm, h1]) h3
      · refine ⟨by omega, ?_⟩
        rw [← h1, blR_low (show m ≤ n by omega), h2]
  · simp only [decide_eq_true_eq, Bool.and_eq_true]
    rintro ⟨h1, h2⟩ ⟨h3, h4⟩
    obtain rfl : m = n := by omega
    exact ⟨by rw [h2, ← hb], rfl⟩
  · simp only [decide_eq_true_eq, Bool.and_eq_true]
    rintro ⟨h1, h2⟩ ⟨h3, h4⟩
    refine ⟨by omega, ?_⟩
    rw [h2, h4, blR_low h1]
  · rw [Bool.eq_iff_iff]
    simp only [Bool.or_eq_true, Bool.and_eq_true, decide_eq_true_eq]
    constructor
    · rintro (⟨h1, h2⟩ | ⟨h1, h2⟩)
      · exact .inl h2.symm
      · exact .inr h2.symm
    · rintro (h | h)
      · by_cases hnm : n ≤ m
        · exact .inl ⟨hnm, h.symm⟩
        · have hab : a = b := by rw [← h, hb, blR_high (show m ≤ n by omega), ← hb]
          exact .inr ⟨by omega, by rw [hab, ← hb]⟩
      · by_cases hnm : m ≤ n
        · exact .inr ⟨hnm, h.symm⟩
        · have hab : b = a := by rw [← h, ha, blR_high (show n ≤ m by omega), ← ha]
          exact .inl ⟨by omega, by rw [hab, ← ha]⟩

theorem blR4 (b0 b1 b2 b3 n : Int) : blR n [b0, b1, b2, b3] = pL b0 b1 b2 b3 n := by
  simp [blR, pL]

end Go.Proofs.YtloadmpappjceaaDoor
