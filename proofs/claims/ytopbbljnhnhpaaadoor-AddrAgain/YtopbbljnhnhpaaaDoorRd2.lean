/-
  A prefix's text as a kind of letters: what it owes.
-/
import Derived.Test.YtopbbljnhnhpaaaDoorRd1
namespace Go.Proofs.YtopbbljnhnhpaaaDoor
open Go Go.RowKit
set_option linter.unusedVariables false
set_option linter.unusedSimpArgs false

set_option maxHeartbeats 1000000 in
set_option maxRecDepth 100000 in
theorem pre_whole (begun : Bool) (b : Nat) (w : World) (c4 : w.cell? ⟨b, 4, none⟩ = some (.bool begun)) :
    Calls Tryd.prog 131 #[.pointer (some ⟨b, 0, none⟩)] w fun e w' => e = .returned (.bool begun) ∧ w' = w := by
  go_enter Tryd.func131, Tryd.ntmps131
  go_wp2
  go_ret
  exact ⟨rfl, rfl⟩

theorem PreIn.move {σ : Type} {T : TypeId} {rv : Value} {At : σ → World → Prop} {most : Int} {b : Nat} {p : Pre σ} {w w' : World} (h : PreIn T rv At most b p w) (ha : At p.addr w') (hb : w'.heap[b]? = w.heap[b]?) : PreIn T rv At most b p w' := by
  have ec := fun i => World.cell?_of_block (a := ⟨b, i, none⟩) hb
  obtain ⟨cs, hcs⟩ := h.typed
  exact ⟨ha, (ec 0).trans h.c0, (ec 1).trans h.c1, (ec 2).trans h.c2, (ec 3).trans h.c3, (ec 4).trans h.c4, h.ok, ⟨cs, hb.trans hcs⟩⟩

theorem pre_kind {σ : Type} {R : Reader σ} {T : TypeId} {rv : Value} {ft fw : Nat} {At : σ → World → Prop} {most : Int} {B b : Nat} {own : Nat → Prop} (K : Kind R B own T rv ft fw At) (hB : B ≤ b) (hno : ¬ own b) (hm : 0 ≤ most ∧ most ≤ 255)
    (hfr : ∀ st w w' o k, Typed w b 105 → At st w → Wrote b o k w w' → At st w') :
    Kind (preReader R most) B (fun j => own j ∨ j = b) 106 (.pointer (some ⟨b, 0, none⟩)) 130 131 (PreIn T rv At most b) where
  findT := fun w => by kernel_rfl
  findW := fun w => by kernel_rfl
  entT := fun args w => by kernel_rfl
  entW := fun args w => by kernel_rfl
  take := fun p w r h hr => (pre_take K hB hno hm hfr p r w h hr).mono fun e w' hT => hT
  whole := fun p w h => pre_whole p.num.begun b w h.c4
  step := fun p w k s pos pos' h hk => by
    obtain ⟨_, h2⟩ := h.typed.iterAt hk pos'
    exact h.move (K.step _ _ _ _ _ _ h.inner hk) (Lib.iterAt_other w k b s pos' h2)
  alloc := fun p w o h => by
    obtain ⟨cs, hc⟩ := h.typed
    exact h.move (K.alloc _ _ _ h.inner) (Below.heap_alloc w o b (Array.getElem?_eq_some_iff.1 hc).1)

/-- A dotted stays where another block is written. -/
theorem dot_frame {b c : Nat} (hne : c ≠ b) (st : Dot) (w w' : World) (o k : Nat) (ht : Typed w b 105) (h : DotIn c st w) (g : Wrote b o k w w') : DotIn c st w' := by
  have ec := fun i => World.cell?_of_block (a := ⟨c, i, none⟩) (g.other c hne)
  obtain ⟨cs, hcs⟩ := h.typed
  exact ⟨⟨(ec _).trans h.cells.c0, (ec _).trans h.cells.c1, (ec _).trans h.cells.c2, (ec _).trans h.cells.c3, (ec _).trans h.cells.c4, (ec _).trans h.cells.c5⟩, h.ok, ⟨cs, (g.other c hne).trans hcs⟩⟩

end Go.Proofs.YtopbbljnhnhpaaaDoor
