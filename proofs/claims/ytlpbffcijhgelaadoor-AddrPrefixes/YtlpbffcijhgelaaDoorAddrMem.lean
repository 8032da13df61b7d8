/-
  What a call of package addr turns in memory: cells of one block; or own blocks and own rows of bytes.
-/
import Derived.Test.YtlpbffcijhgelaaDoorRows
import Derived.WalkKit
import Derived.Lib.OthersKept
import Derived.Below
import Derived.Deep.Draws
import Derived.Laws.AppendOwn
namespace Go.Proofs.YtlpbffcijhgelaaDoor
set_option linter.unusedVariables false
set_option linter.unusedSimpArgs false
open Go Go.RowKit

/-- Nothing is turned but k cells of block b, from o on, and how much of the tape is drawn. -/
structure Wrote (b o k : Nat) (w w' : World) : Prop where
  os : w'.os = w.os
  tape : w'.tape = w.tape
  output : w'.output = w.output
  size : w'.heap.size = w.heap.size
  other : ∀ j, j ≠ b → w'.heap[j]? = w.heap[j]?
  typed : ∀ cs t fz, w.heap[b]? = some (.cells cs t fz) → ∃ cs', w'.heap[b]? = some (.cells cs' t fz)
  cell : ∀ i, (i < o ∨ o + k ≤ i) → w'.cell? ⟨b, i, none⟩ = w.cell? ⟨b, i, none⟩

theorem Wrote.refl (b o k : Nat) (w : World) : Wrote b o k w w := ⟨rfl, rfl, rfl, rfl, fun _ _ => rfl, fun cs _ _ h => ⟨cs, h⟩, fun _ _ => rfl⟩

theorem Wrote.trans {b o k : Nat} {u v w : World} (h : Wrote b o k u v) (g : Wrote b o k v w) : Wrote b o k u w :=
  ⟨g.os.trans h.os, g.tape.trans h.tape, g.output.trans h.output, g.size.trans h.size, fun j hj => (g.other j hj).trans (h.other j hj),
    fun cs t fz hc => by obtain ⟨c2, h2⟩ := h.typed cs t fz hc; exact g.typed c2 t fz h2, fun i hi => (g.cell i hi).trans (h.cell i hi)⟩

theorem Wrote.drew {b o k : Nat} {u w : World} (h : Wrote b o k u w) : Wrote b o k u w.drew := ⟨h.os, h.tape, h.output, h.size, h.other, h.typed, h.cell⟩
theorem Wrote.drewN {b o k : Nat} {u w : World} (h : Wrote b o k u w) (n : Nat) : Wrote b o k u (w.drewN n) := ⟨h.os, h.tape, h.output, h.size, h.other, h.typed, h.cell⟩

theorem Wrote.set {b o k : Nat} {u w : World} (h : Wrote b o k u w) {i : Nat} (hi : o ≤ i ∧ i < o + k) (v : Value) : Wrote b o k u (w.setCell ⟨b, i, none⟩ v) := by
  refine h.trans ⟨rfl, rfl, rfl, by simp [World.setCell], fun j hj => Below.heap_setCell _ _ _ _ hj, ?_, fun x hx => World.cell?_setCell_other _ _ _ _ (fun e => ?_)⟩
  · intro cs t fz hc
    have hlt : b < w.heap.size := (Array.getElem?_eq_some_iff.1 hc).1
    refine ⟨cs.setIfInBounds i v, ?_⟩
    simp [World.setCell, Array.getElem?_modify, hc]
  · injection e with e1 e2 e3
    omega

theorem Wrote.mono {b o k o' k' : Nat} {u w : World} (h : Wrote b o k u w) (h1 : o' ≤ o) (h2 : o + k ≤ o' + k') : Wrote b o' k' u w :=
  ⟨h.os, h.tape, h.output, h.size, h.other, h.typed, fun i hi => h.cell i (by omega)⟩

theorem Wrote.below {b o k B : Nat} {u w : World} (h : Wrote b o k u w) (hB : B ≤ b) : Below B u w :=
  ⟨h.os, h.tape, h.output, by rw [h.size]; exact Nat.le_refl _, fun j hj => h.other j (by omega)⟩

/-- Block b is one of n cells of that type, none of them frozen. -/
def Typed (w : World) (b : Nat) (t : TypeId) : Prop := ∃ cs, w.heap[b]? = some (.cells cs t (0, 0))

theorem Typed.wrote {b o k c : Nat} {t : TypeId} {u w : World} (h : Typed u c t) (g : Wrote b o k u w) : Typed w c t := by
  obtain ⟨cs, hc⟩ := h
  by_cases e : c = b
  · subst e; exact g.typed cs t _ hc
  · exact ⟨cs, (g.other c e).trans hc⟩

theorem Typed.open {w : World} {b : Nat} {t : TypeId} (h : Typed w b t) : ∀ i, w.frozen? ⟨b, i, none⟩ = false := by
  obtain ⟨cs, hc⟩ := h
  intro i
  simp [World.frozen?, hc]

/-- Below B all stands, and so does every block but those of one's own and rows of bytes. -/
structure Turns (B : Nat) (own : Nat → Prop) (w w' : World) : Prop where
  below : Below B w w'
  kept : ∀ k o, w.heap[k]? = some o → ¬ own k → (∀ c fz, o ≠ .cells c 5 fz) → w'.heap[k]? = some o

theorem Turns.refl (B : Nat) (own : Nat → Prop) (w : World) : Turns B own w w := ⟨Below.refl _ _, fun _ _ h _ _ => h⟩
theorem Turns.trans {B : Nat} {own : Nat → Prop} {u v w : World} (h : Turns B own u v) (g : Turns B own v w) : Turns B own u w :=
  ⟨h.below.trans g.below, fun k o hk hn ho => g.kept k o (h.kept k o hk hn ho) hn ho⟩
theorem Turns.drewN {B : Nat} {own : Nat → Prop} {u w : World} (h : Turns B own u w) (n : Nat) : Turns B own u (w.drewN n) := ⟨⟨h.below.os, h.below.tape, h.below.output, h.below.size, h.below.block⟩, h.kept⟩
theorem Turns.drew {B : Nat} {own : Nat → Prop} {u w : World} (h : Turns B own u w) : Turns B own u w.drew := ⟨h.below.drew, h.kept⟩
theorem Turns.mono {B : Nat} {own own' : Nat → Prop} {u w : World} (h : Turns B own u w) (ho : ∀ k, own k → own' k) : Turns B own' u w :=
  ⟨h.below, fun k o hk hn hx => h.kept k o hk (fun e => hn (ho k e)) hx⟩
theorem Turns.less {B B' : Nat} {own : Nat → Prop} {u w : World} (h : Turns B own u w) (hB : B' ≤ B) : Turns B' own u w := ⟨h.below.mono hB, h.kept⟩

theorem Wrote.turns {b o k B : Nat} {u w : World} (h : Wrote b o k u w) (hB : B ≤ b) : Turns B (fun j => j = b) u w :=
  ⟨h.below hB, fun j x hj hn _ => (h.other j hn).trans hj⟩

theorem Turns.alloc {B : Nat} {own : Nat → Prop} {u w : World} (h : Turns B own u w) (hB : B ≤ w.heap.size) (o : Obj) : Turns B own u (w.alloc o) :=
  ⟨h.below.alloc hB o, fun k x hk hn hx => by
    have h1 := h.kept k x hk hn hx
    rw [Below.heap_alloc w o k (Array.getElem?_eq_some_iff.1 h1).1]
    exact h1⟩

/-- What an append to an own row of bytes does. -/
theorem Turns.grown {B : Nat} {own : Nat → Prop} {u w w' : World} {n : Nat} {v : Value} {xs : List Value} (h : Turns B own u w) (hown : w.ownsRow B 5 1 v n xs) (hg : w.grownBy w' v.ownBlock) (hB : B ≤ w.heap.size) : Turns B own u w' := by
  refine ⟨h.below.grown hg hB (fun k hk => (hown.lt k hk).1), fun k o hk hn hx => ?_⟩
  have h1 := h.kept k o hk hn hx
  rw [hg.block k (Array.getElem?_eq_some_iff.1 h1).1]
  · exact h1
  · intro e
    rcases hown.2 with ⟨rfl, _⟩ | ⟨g, cap, cur, rfl, _, hgg, _⟩
    · simp [Value.ownBlock] at e
    · simp only [Value.ownBlock, Option.some.injEq] at e
      subst e
      rw [h1] at hgg
      exact hx _ _ (Option.some.inj hgg)

end Go.Proofs.YtlpbffcijhgelaaDoor
