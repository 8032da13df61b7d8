/-
  A law of our own on 'for x := range g { .. }' where every round falls off its end: the iterator's contract 'Gives' (the values that come, in their order; a round turns nothing that lay below the iterator's world nor anything that the iterator has laid since its call), and 'wpIn_range': the loop out of one walk of its body. An iterator that itself ranges over an iterator has the contract too.
-/
import Derived.RangeFuncNested
import Derived.RangeFuncBound
import Derived.RangeFuncCalls
import Derived.RangeFuncLeaves
import Derived.Shelf.Abstract
import Derived.Shelf.RegionOpen
import Derived.WalkKit
import Derived.OwnWalkIn
import Derived.TacticsInMore
import Derived.LoopNIn
import Derived.LoopIn
namespace Go.Proofs.Ytbaeogoojpngbaa
open Go Go.RowKit

/-- Between A and B nothing has turned below lo, nor from hi on. -/
structure Kept (lo hi : Nat) (A B : World) : Prop where
  below : Below lo A B
  above : ∀ k, hi ≤ k → k < A.heap.size → B.heap[k]? = A.heap[k]?

theorem Kept.refl (lo hi : Nat) (A : World) : Kept lo hi A A := ⟨Below.refl _ _, fun _ _ _ => rfl⟩
theorem Kept.trans {lo hi : Nat} {A B C : World} (h : Kept lo hi A B) (k : Kept lo hi B C) : Kept lo hi A C :=
  ⟨h.below.trans k.below, fun i hi hA => (k.above i hi (Nat.lt_of_lt_of_le hA h.below.size)).trans (h.above i hi hA)⟩
theorem Kept.mono {lo hi lo' hi' : Nat} {A B : World} (h : Kept lo hi A B) (hl : lo' ≤ lo) (hh : hi ≤ hi') : Kept lo' hi' A B :=
  ⟨h.below.mono hl, fun k hk hA => h.above k (Nat.le_trans hh hk) hA⟩
theorem Kept.putObj {lo hi : Nat} {A : World} {l : Nat} (o : Obj) (hl : lo ≤ l) (hh : l < hi) : Kept lo hi A (A.putObj l o) :=
  ⟨⟨rfl, rfl, rfl, by simp, fun k hk => World.putObj_heap_other (by omega)⟩, fun k hk _ => World.putObj_heap_other (by omega)⟩
theorem Kept.alloc {lo hi : Nat} {A : World} (o : Obj) (hl : lo ≤ A.heap.size) : Kept lo hi A (A.alloc o) :=
  ⟨(Below.refl lo A).alloc hl o, fun k _ hk => Below.heap_alloc A o k hk⟩
theorem Kept.setCell {lo hi : Nat} {A : World} (b o : Nat) (v : Value) (hl : lo ≤ b) (hh : b < hi) : Kept lo hi A (A.setCell ⟨b, o, none⟩ v) :=
  ⟨(Below.refl lo A).setCell (p := ⟨b, o, none⟩) hl v, fun k hk _ => Below.heap_setCell A ⟨b, o, none⟩ v k (fun e => by simp at e; omega)⟩

theorem OwnFrom.later {β : Type} {B B' : Nat} {I : β → World → Prop} (h : OwnFrom B I) (hB : B ≤ B') : OwnFrom B' I :=
  fun s W W' row hs hg hr => h s W W' row hs hg (fun r e => ⟨Nat.le_trans hB (hr r e).1, (hr r e).2⟩)

/-- The contract of an iterator value that was made in w: whatever the loop, the values xs come, in their order. -/
def Gives (P : Program) (g : Nat) (lb : Array Value) (xs : List Value) (w : World) : Prop :=
  ∀ (l : Nat) (J : Nat → World → Prop) (W : World), Below w.heap.size w W → OwnFrom W.heap.size J →
    (∀ k x W1, xs[k]? = some x → J k W1 → ∀ m, YieldAt Fence.wide m P l #[x] W1 fun e W' => e = .returned (.bool true) ∧ J (k + 1) W' ∧ Kept w.heap.size W.heap.size W1 W') →
    J 0 W → ∀ n, CallsIn Fence.wide n P g (#[.func (.yield l) #[] #[]] ++ lb) W fun e W' => (∃ v, e = .returned v) ∧ J xs.length W'

theorem Gives.later {P : Program} {g : Nat} {lb : Array Value} {xs : List Value} {w w' : World} (h : Gives P g lb xs w) (hb : Below w.heap.size w w') : Gives P g lb xs w' :=
  fun l J W hW hJ hY h0 => h l J W (hb.trans (hW.mono hb.size)) hJ
    (fun k x W1 hx hj m => (hY k x W1 hx hj m).mono (fun _ _ hr => ⟨hr.1, hr.2.1, hr.2.2.mono hb.size (Nat.le_refl _)⟩)) h0

/-- A round's contract stands in the frame of another loop's round. -/
theorem RoundIn.inRound {F : Fence} {n : Nat} {P : Program} {l : Nat} {f : FuncId} {tmps : Array Value} {assign body : Code} {w : World} {R : Ending → World → Prop} (l' : Nat) (h : RoundIn F n P l f tmps assign body w R) : RoundIn (F.inRound l') n P l f tmps assign body w R := h

/-- The loop, where its body always falls off its end. -/
theorem wpIn_range {P : Program} {n : Nat} {g : Operand} {ps : Array Tmp} {assign body : Code} {Q : Exit → Act → World → Prop} {a : Act} {w : World}
    {gf : Nat} {lb : Array Value} (hg : a.eval g = .func (.func gf) #[] lb) (eg : ∀ args w, (callFunc gf args).run P w = .ok (.enter gf args) w)
    {xs : List Value} {w0 : World} (hseq : Gives P gf lb xs w0) (hb0 : Below w0.heap.size w0 w) (hps : ps.size = 1)
    (I : Nat → World → Prop) (hI : OwnFrom w.heap.size I) (h0 : I 0 w) (a₁ : Value → Act)
    (hassign : ∀ (l m : Nat) (x : Value) (W : World) (K : Act → World → Prop), K (a₁ x) W →
      assign.wpIn (Fence.wide.inRound l) m P (Exit.then K (fun _ _ _ => False)) { tmps := (ps.zip #[x]).foldl (fun t (p, v) => t.setIfInBounds p v) a.tmps, defers := [] } W)
    (hbody : ∀ (l m k : Nat) (x : Value) (W : World), xs[k]? = some x → w.heap.size ≤ W.heap.size → I k W →
      body.wpIn (Fence.wide.inRound l) m P (fun e _ W' => e = .normal ∧ I (k + 1) W' ∧ Kept w0.heap.size w.heap.size W W') (a₁ x) W)
    (hdone : ∀ (D : Nat) (W : World), w.heap.size ≤ D → I xs.length W → W.heap[D]? = some (.deferred (some [])) → Q .normal { a with defers := { target := .collected D, args := #[] } :: a.defers } W) :
    (Code.rangeFunc g ps assign body).wpIn Fence.wide n P Q a w := by
  refine wpIn_rangeFunc fun fn hfn => ?_
  obtain ⟨rec, hrec⟩ : ∃ rec : LoopState → Loop, rec = fun st => { state := st, pending := none, fn, tmps := a.tmps, params := ps, assign, body, defers := w.heap.size } := ⟨_, rfl⟩
  obtain ⟨W1, hW1⟩ : ∃ W1, (w.alloc (.deferred (some []))).alloc (.loop (rec .ready)) = W1 := ⟨_, rfl⟩
  have hs1 : W1.heap.size = w.heap.size + 2 := by rw [← hW1]; simp
  have hL1 : W1.heap[w.heap.size + 1]? = some (.loop (rec .ready)) := by
    rw [← hW1]; have := World.alloc_heap_new (w.alloc (.deferred (some []))) (.loop (rec .ready)); rwa [World.size_alloc] at this
  have hD1 : W1.heap[w.heap.size]? = some (.deferred (some [])) := by
    rw [← hW1]; exact (Below.heap_alloc _ _ _ (by simp)).trans (World.alloc_heap_new w _)
  have hI1 : I 0 W1 := by rw [← hW1]; exact hI.alloc _ (hI.alloc _ h0)
  have hb1 : Below w0.heap.size w0 W1 := by
    rw [← hW1]; exact (hb0.alloc hb0.size _).alloc (by simp; have := hb0.size; omega) _
  have hle := hb0.size
  refine ⟨w.heap.size + 1, [{ target := .collected w.heap.size, args := #[] }], W1, { target := .fn (.func gf) lb, args := #[.func (.yield (w.heap.size + 1)) #[] #[]] }, W1, gf,
    #[.func (.yield (w.heap.size + 1)) #[] #[]] ++ lb, W1, ?_, ?_, fun _ _ => trivial, ?_, fun h => by simp [Fence.wide] at h, ?_⟩
  · rw [← hW1, hrec]; exact run_enterLoop_outer _ _ _ _ _
  · simp only [resolve, hg]
    simp [go_sem]
  · simp [invoke, go_sem, eg]
  · have stay : ∀ {A B : World} {row : Option Nat} {j : Nat} {o : Obj}, A.grownBy B row → (∀ r, row = some r → W1.heap.size ≤ r ∧ ∃ o : Obj, A.heap[r]? = some o ∧ o.isCells = false) → j < w.heap.size + 2 → A.heap[j]? = some o → B.heap[j]? = some o :=
      fun hgr hr hj ho => (hgr.block _ (Array.getElem?_eq_some_iff.1 ho).1 (fun e => by have := (hr _ e.symm).1; omega)).trans ho
    refine (hseq (w.heap.size + 1)
      (fun k W => I k W ∧ W.heap[w.heap.size + 1]? = some (.loop (rec .ready)) ∧ W.heap[w.heap.size]? = some (.deferred (some [])))
      W1 hb1
      (fun s A B row hs hgr hr => ⟨hI s A B row hs.1 hgr (fun r e => ⟨by have := (hr r e).1; omega, (hr r e).2⟩), stay hgr hr (by omega) hs.2.1, stay hgr hr (by omega) hs.2.2⟩)
      ?_ ⟨hI1, hL1, hD1⟩ _).mono ?_
    · rintro k x W hx ⟨hi, hl, hd⟩ m
      have hlt : w.heap.size + 1 < W.heap.size := (Array.getElem?_eq_some_iff.1 hl).1
      have hy := run_yield (P := P) (args := #[x]) hl (by rw [hrec]; exact hps.symm)
      rw [hrec] at hy
      refine ⟨fn, _, assign, body, hy, roundIn_of_wpIn hfn (hassign _ _ x W _ ⟨_, run_beginRound hl (by rw [hrec]), ?_⟩)⟩
      clear hy
      obtain ⟨W2, hW2⟩ : ∃ W2, W.putObj (w.heap.size + 1) (.loop { rec .ready with state := .busy }) = W2 := ⟨_, rfl⟩
      have hs2 : W2.heap.size = W.heap.size := by rw [← hW2]; simp
      have hl2 : W2.heap[w.heap.size + 1]? = some (.loop (rec .busy)) := by
        rw [← hW2, hrec]; exact World.putObj_heap_same hlt
      have hd2 : W2.heap[w.heap.size]? = some (.deferred (some [])) := by rw [← hW2]; exact (World.putObj_heap_other (by omega)).trans hd
      have hi2 : I k W2 := by rw [← hW2]; exact hI.putObj _ hi (by omega) hl rfl
      have hk2 : Kept w0.heap.size W1.heap.size W W2 := by rw [← hW2]; exact Kept.putObj _ (by omega) (by omega)
      rw [hW2]
      refine wpIn_mono (hbody _ _ k x W2 hx (by omega) hi2) ?_
      rintro e a3 W3 ⟨rfl, hi3, hk3⟩
      have hl3 := (hk3.above (w.heap.size + 1) (by omega) (by omega)).trans hl2
      have hd3 := (hk3.above w.heap.size (Nat.le_refl _) (by omega)).trans hd2
      have hlt3 := (Array.getElem?_eq_some_iff.1 hl3).1
      refine ⟨_, _, run_endRound none hl3, rfl, ⟨hI.putObj _ hi3 (by omega) hl3 rfl, ?_, ?_⟩, ?_⟩
      · rw [World.putObj_heap_same hlt3, hrec]; rfl
      · exact (World.putObj_heap_other (by omega)).trans hd3
      · exact (hk2.trans (hk3.mono (Nat.le_refl _) (by omega))).trans (Kept.putObj _ (by omega) (by omega))
    · rintro e W2 ⟨⟨v, rfl⟩, hi, hl, hd⟩
      exact ⟨none, _, by have := run_endLoop (P := P) hl (by rw [hrec]; simp); rw [hrec] at this; exact this, hdone _ _ (Nat.le_refl _) (hI.putObj _ hi (by omega) hl rfl) ((World.putObj_heap_other (by omega)).trans hd)⟩

end Go.Proofs.Ytbaeogoojpngbaa
