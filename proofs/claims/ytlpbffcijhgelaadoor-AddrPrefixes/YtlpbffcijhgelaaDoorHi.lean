/-
  Worlds above one: all blocks of that one are as they were. A region that draws its order, whose operations read old blocks and whose calls leave a world above, is walked once.
-/
import Derived.Test.YtlpbffcijhgelaaDoorProg
import Derived.WalkKit
import Derived.Below
import Derived.BigQuiet
namespace Go.Proofs.YtlpbffcijhgelaaDoor
open Go Go.RowKit
set_option linter.unusedVariables false

theorem cell4_of {W : World} {b : Nat} {v0 v1 v2 v3 : Value} {t : TypeId} (h : W.heap[b]? = some (.cells #[v0, v1, v2, v3] t)) :
    W.cell? ⟨b, 0, none⟩ = some v0 ∧ W.cell? ⟨b, 1, none⟩ = some v1 ∧ W.cell? ⟨b, 2, none⟩ = some v2 ∧ W.cell? ⟨b, 3, none⟩ = some v3 := by simp [World.cell?, h]
theorem cell5_of {W : World} {b : Nat} {v0 v1 v2 v3 v4 : Value} {t : TypeId} (h : W.heap[b]? = some (.cells #[v0, v1, v2, v3, v4] t)) :
    W.cell? ⟨b, 0, none⟩ = some v0 ∧ W.cell? ⟨b, 1, none⟩ = some v1 ∧ W.cell? ⟨b, 2, none⟩ = some v2 ∧ W.cell? ⟨b, 3, none⟩ = some v3 ∧ W.cell? ⟨b, 4, none⟩ = some v4 := by simp [World.cell?, h]
theorem blk_on {w W : World} {b : Nat} {o : Obj} (h : w.heap[b]? = some o) (hb : Below w.heap.size w W) : W.heap[b]? = some o :=
  (hb.block b (Array.getElem?_eq_some_iff.1 h).1).trans h
theorem blk_new (w : World) (o : Obj) : (w.alloc o).heap[w.heap.size]? = some o := by
  rw [← World.alloc_eq]
  simp
theorem blk_alloc {w : World} {b : Nat} {o : Obj} (h : w.heap[b]? = some o) (o' : Obj) : (w.alloc o').heap[b]? = some o :=
  blk_on h ((Below.refl _ w).alloc (Nat.le_refl _) o')

structure Hi (w : World) where
  W : World
  below : Below w.heap.size w W

def Hi.refl (w : World) : Hi w := ⟨w, Below.refl _ w⟩
instance (w : World) : Nonempty (Hi w) := ⟨Hi.refl w⟩
def Hi.more {w : World} (x : Hi w) {W : World} (h : Below x.W.heap.size x.W W) : Hi w := ⟨W, x.below.trans (h.mono x.below.size)⟩
def Hi.up {w : World} (x : Hi w) (y : Hi x.W) : Hi w := x.more y.below
theorem Hi.blk {w : World} {b : Nat} {o : Obj} (h : w.heap[b]? = some o) (x : Hi w) : x.W.heap[b]? = some o :=
  (x.below.block b (Array.getElem?_eq_some_iff.1 h).1).trans h

theorem Hi.calls {P : Program} {f : FuncId} {args : Array Value} {w : World} {x : Hi w} {v : Value} (h : Calls P f args x.W fun e w' => e = .returned v ∧ Below x.W.heap.size x.W w') :
    Calls P f args x.W fun e w'' => e = .returned v ∧ ∃ y : Hi w, w'' = y.W :=
  h.mono fun _ w' ⟨he, hb⟩ => ⟨he, x.more hb, rfl⟩

theorem wp_region_hi {P : Program} {id : Nat} {Q : Exit → Act → World → Prop} {a : Act} {w : World} {l : List Oper} (hm : P.follows .mixedOrders = true) (hB : Region.lexB .any l.toArray = true)
    (h : wpQuiet P l.toArray (fun w' => ∃ x : Hi w, w' = x.W) (fun a' => ∀ w', (∃ x : Hi w, w' = x.W) → Q .normal a' w') l a) : (Code.region id l.toArray true).wp P Q a w :=
  wp_region_quiet (C := fun w' => ∃ x : Hi w, w' = x.W) hm hB ⟨⟨{ w with drawn := w.drawn + 1 }, (Below.refl _ w).drew⟩, rfl⟩ (by simpa using h)

theorem wp_region_up {P : Program} {id : Nat} {Q : Exit → Act → World → Prop} {a : Act} {w : World} {x : Hi w} {l : List Oper} (hm : P.follows .mixedOrders = true) (hB : Region.lexB .any l.toArray = true)
    (h : wpQuiet P l.toArray (fun w' => ∃ x : Hi w, w' = x.W) (fun a' => ∀ w', (∃ x : Hi w, w' = x.W) → Q .normal a' w') l a) : (Code.region id l.toArray true).wp P Q a x.W :=
  wp_region_quiet (C := fun w' => ∃ x : Hi w, w' = x.W) hm hB ⟨⟨{ x.W with drawn := x.W.drawn + 1 }, x.below.drew⟩, rfl⟩ (by simpa using h)

theorem Hi.cell4 {w : World} {b : Nat} {v0 v1 v2 v3 : Value} {t : TypeId} (h : w.heap[b]? = some (.cells #[v0, v1, v2, v3] t)) :
    (∀ x : Hi w, x.W.cell? ⟨b, 0, none⟩ = some v0) ∧ (∀ x : Hi w, x.W.cell? ⟨b, 1, none⟩ = some v1) ∧ (∀ x : Hi w, x.W.cell? ⟨b, 2, none⟩ = some v2) ∧ (∀ x : Hi w, x.W.cell? ⟨b, 3, none⟩ = some v3) :=
  ⟨fun x => by simp [World.cell?, Hi.blk h x], fun x => by simp [World.cell?, Hi.blk h x], fun x => by simp [World.cell?, Hi.blk h x], fun x => by simp [World.cell?, Hi.blk h x]⟩
theorem Hi.cell5 {w : World} {b : Nat} {v0 v1 v2 v3 v4 : Value} {t : TypeId} (h : w.heap[b]? = some (.cells #[v0, v1, v2, v3, v4] t)) :
    (∀ x : Hi w, x.W.cell? ⟨b, 0, none⟩ = some v0) ∧ (∀ x : Hi w, x.W.cell? ⟨b, 1, none⟩ = some v1) ∧ (∀ x : Hi w, x.W.cell? ⟨b, 2, none⟩ = some v2) ∧ (∀ x : Hi w, x.W.cell? ⟨b, 3, none⟩ = some v3) ∧ (∀ x : Hi w, x.W.cell? ⟨b, 4, none⟩ = some v4) :=
  ⟨fun x => by simp [World.cell?, Hi.blk h x], fun x => by simp [World.cell?, Hi.blk h x], fun x => by simp [World.cell?, Hi.blk h x], fun x => by simp [World.cell?, Hi.blk h x], fun x => by simp [World.cell?, Hi.blk h x]⟩

end Go.Proofs.YtlpbffcijhgelaaDoor
