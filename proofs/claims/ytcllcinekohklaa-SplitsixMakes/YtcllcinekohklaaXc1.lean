/-
  A law of our own on a range over an iterator that may give up by a panic, where both sides keep memory of their own.
-/
import Derived.Test.YtcllcinekohklaaXb3
namespace Go.Proofs.Ytcllcinekohklaa
open Go Go.RowKit
set_option linter.unusedVariables false
set_option linter.unusedSimpArgs false

/-- How an iterator ends: it returns, or gives up. -/
def EndsP (en : Option Int) (e : Ending) : Prop := match en with | none => ∃ v, e = .returned v | some er => e = .panicked [guP er]
/-- The contract of an iterator value that was made in w: N values come, the k-th one of X, then it ends; it reads blocks of R alone. -/
def GivesP (P : Program) (g : Nat) (lb : Array Value) (N : Nat) (X : Nat → Value → (Nat → Prop) → World → Prop) (R : Nat → Prop) (w : World) (en : Option Int) : Prop :=
  ∀ (l : Nat) (J : Nat → (Nat → Prop) → World → Prop) (W : World) (O : Nat → Prop),
    w.heap.size ≤ W.heap.size → (∀ b, R b → W.heap[b]? = w.heap[b]?) → (∀ b, O b → ¬ R b ∧ b < W.heap.size) →
    (∀ k O A B, J k O A → Sep (fun b => W.heap.size ≤ b ∧ ¬ O b) A B → J k O B) →
    (∀ k x A O, k < N → W.heap.size ≤ A.heap.size → (∀ b, O b → ¬ R b ∧ b < A.heap.size) → X k x O A → J k O A → ∀ m, YieldAt Fence.wide m P l #[x] A fun e A' =>
      ∃ O', Sep O A A' ∧ (∀ b, O' b → b < A'.heap.size ∧ (O b ∨ A.heap.size ≤ b)) ∧ e = .returned (.bool true) ∧ J (k + 1) O' A') →
    J 0 O W → ∀ n, CallsIn Fence.wide n P g (#[.func (.yield l) #[] #[]] ++ lb) W fun e W' => EndsP en e ∧ ∃ O', J N O' W'

/-- What is asked at a round's end. -/
def RoundP (I : Nat → (Nat → Prop) → World → Prop) (k : Nat) (O : Nat → Prop) (s : Nat) (A : World) (e : Exit) (W' : World) : Prop :=
  ∃ O', Sep (fun b => O b ∨ s ≤ b) A W' ∧ (∀ b, O' b → b < W'.heap.size ∧ (O b ∨ s ≤ b)) ∧ e = .normal ∧ I (k + 1) O' W'
def exitP (en : Option Int) : Exit := match en with | none => .normal | some er => .panic [guP er]

/-- The loop. -/
theorem wpIn_rangeP {P : Program} {n : Nat} {g : Operand} {ps : Array Tmp} {assign body : Code} {Q : Exit → Act → World → Prop} {a : Act} {w : World}
    {gf : Nat} {lb : Array Value} (hg : a.eval g = .func (.func gf) #[] lb) (eg : ∀ args w, (callFunc gf args).run P w = .ok (.enter gf args) w)
    {N : Nat} {X : Nat → Value → (Nat → Prop) → World → Prop} {R : Nat → Prop} {w0 : World} {en : Option Int} (hseq : GivesP P gf lb N X R w0 en) (hle : w0.heap.size ≤ w.heap.size) (hR : ∀ b, R b → b < w0.heap.size ∧ w.heap[b]? = w0.heap[b]?) (hps : ps.size = 1)
    (I : Nat → (Nat → Prop) → World → Prop) (O0 : Nat → Prop) (hO : ∀ b, O0 b → ¬ R b ∧ b < w.heap.size)
    (hI : ∀ k O A B, I k O A → Sep (fun b => w.heap.size ≤ b ∧ ¬ O b) A B → I k O B) (h0 : I 0 O0 w)
    (hround : ∀ (m k : Nat) (x : Value) (W : World) (O : Nat → Prop), k < N → w.heap.size + 2 ≤ W.heap.size → (∀ b, O b → ¬ R b ∧ b < W.heap.size ∧ b ≠ w.heap.size ∧ b ≠ w.heap.size + 1) →
      X k x (fun b => O b ∨ b = w.heap.size ∨ b = w.heap.size + 1) W → I k O W →
      assign.wpIn (Fence.wide.inRound (w.heap.size + 1)) m P (Exit.then (fun a1 W1 => Sep O W W1 ∧ ∀ W2, Only (w.heap.size + 1) W1 W2 →
        body.wpIn (Fence.wide.inRound (w.heap.size + 1)) m P (fun e _ W' => RoundP I k O W.heap.size W2 e W') a1 W2) (fun _ _ _ => False))
        { tmps := (ps.zip #[x]).foldl (fun t (p, v) => t.setIfInBounds p v) a.tmps, defers := [] } W)
    (hdone : ∀ O W, I N O W → W.heap[w.heap.size]? = some (.deferred (some [])) → (∀ b, O b → b ≠ w.heap.size) → Q (exitP en) { a with defers := { target := .collected w.heap.size, args := #[] } :: a.defers } W) :
    (Code.rangeFunc g ps assign body).wpIn Fence.wide n P Q a w := by
  refine wpIn_rangeFunc fun fn hfn => ?_
  obtain ⟨rec, hrec⟩ : ∃ rec : LoopState → Option Code → Loop, rec = fun st pd => { state := st, pending := pd, fn, tmps := a.tmps, params := ps, assign, body, defers := w.heap.size } := ⟨_, rfl⟩
  obtain ⟨W1, hW1⟩ : ∃ W1, (w.alloc (.deferred (some []))).alloc (.loop (rec .ready none)) = W1 := ⟨_, rfl⟩
  have hs1 : W1.heap.size = w.heap.size + 2 := by rw [← hW1]; simp
  have hL1 : W1.heap[w.heap.size + 1]? = some (.loop (rec .ready none)) := by
    rw [← hW1]; have := World.alloc_heap_new (w.alloc (.deferred (some []))) (.loop (rec .ready none)); rwa [World.size_alloc] at this
  have hD1 : W1.heap[w.heap.size]? = some (.deferred (some [])) := by
    rw [← hW1]; exact (Below.heap_alloc _ _ _ (by simp)).trans (World.alloc_heap_new w _)
  have hB1 : Below w.heap.size w W1 := by rw [← hW1]; exact ((Below.refl _ w).alloc (Nat.le_refl _) _).alloc (by simp) _
  have hI1 : I 0 O0 W1 := hI 0 O0 _ _ h0 (Sep.of_below hB1)
  refine ⟨w.heap.size + 1, [{ target := .collected w.heap.size, args := #[] }], W1, { target := .fn (.func gf) lb, args := #[.func (.yield (w.heap.size + 1)) #[] #[]] }, W1, gf,
    #[.func (.yield (w.heap.size + 1)) #[] #[]] ++ lb, W1, ?_, ?_, fun _ _ => trivial, ?_, fun h => by simp [Fence.wide] at h, ?_⟩
  · rw [← hW1, hrec]; exact run_enterLoop_outer _ _ _ _ _
  · simp only [resolve, hg]
    simp [go_sem]
  · simp [invoke, go_sem, eg]
  · have hRl : ∀ b, R b → b < w.heap.size := fun b hb => Nat.lt_of_lt_of_le (hR b hb).1 hle
    refine (hseq (w.heap.size + 1)
      (fun k Of A => ∃ O, Of = (fun b => O b ∨ b = w.heap.size ∨ b = w.heap.size + 1) ∧ I k O A ∧ A.heap[w.heap.size + 1]? = some (.loop (rec .ready none)) ∧ A.heap[w.heap.size]? = some (.deferred (some [])) ∧ (∀ b, O b → b ≠ w.heap.size ∧ b ≠ w.heap.size + 1))
      W1 (fun b => O0 b ∨ b = w.heap.size ∨ b = w.heap.size + 1) (by omega) (fun b hb => (hB1.block b (hRl b hb)).trans (hR b hb).2) ?_ ?_ ?_ ⟨O0, rfl, hI1, hL1, hD1, fun b hb => by have := (hO b hb).2; omega⟩ _).mono ?_
    · rintro b (hb | rfl | rfl)
      · exact ⟨(hO b hb).1, by have := (hO b hb).2; omega⟩
      · exact ⟨fun h => by have := hRl _ h; omega, by omega⟩
      · exact ⟨fun h => by have := hRl _ h; omega, by omega⟩
    · rintro k Of A B ⟨O, rfl, hi, hl, hd, hne⟩ hs
      refine ⟨O, rfl, hI k O A B hi (hs.mono fun b _ hb => ⟨by have := hb.1; omega, fun ho => hb.2 (.inl ho)⟩), hs.blk hl (fun hb => hb.2 (.inr (.inr rfl))), hs.blk hd (fun hb => hb.2 (.inr (.inl rfl))), hne⟩
    · rintro k x A Of hk hA hOf hX ⟨O, rfl, hi, hl, hd, hne⟩ m
      have hy := run_yield (P := P) (args := #[x]) hl (by rw [hrec]; exact hps.symm)
      rw [hrec] at hy
      refine ⟨fn, _, assign, body, hy, roundIn_of_wpIn hfn (wpIn_mono (hround m k x A O hk (by omega) (fun b hb => ⟨(hOf b (.inl hb)).1, (hOf b (.inl hb)).2, hne b hb⟩) hX hi) ?_)⟩
      clear hy
      intro e a1 Wa hE
      cases e with
      | normal =>
        obtain ⟨hsa, hb⟩ := hE
        have hla := hsa.blk hl (fun ho => (hne _ ho).2 rfl)
        have hda := hsa.blk hd (fun ho => (hne _ ho).1 rfl)
        have hlta := (Array.getElem?_eq_some_iff.1 hla).1
        refine ⟨_, run_beginRound hla (by rw [hrec]), wpIn_mono (hb _ (Only.putObj _)) ?_⟩
        intro e2 a2 W3 hE2
        obtain ⟨O', hs3, hO', rfl, hi3⟩ := hE2
        have hl2 : (Wa.putObj (w.heap.size + 1) (.loop { rec .ready none with state := .busy })).heap[w.heap.size + 1]? = some (.loop (rec .busy none)) := by rw [hrec]; exact World.putObj_heap_same hlta
        have hd2 : (Wa.putObj (w.heap.size + 1) (.loop { rec .ready none with state := .busy })).heap[w.heap.size]? = some (.deferred (some [])) := (World.putObj_heap_other (by omega)).trans hda
        have hl3 := hs3.blk hl2 (fun ho => by rcases ho with ho | ho; exact (hne _ ho).2 rfl; omega)
        have hd3 := hs3.blk hd2 (fun ho => by rcases ho with ho | ho; exact (hne _ ho).1 rfl; omega)
        have hlt3 := (Array.getElem?_eq_some_iff.1 hl3).1
        have hne' : ∀ b, O' b → b ≠ w.heap.size ∧ b ≠ w.heap.size + 1 := fun b hb => by
          rcases (hO' b hb).2 with h | h
          · exact hne b h
          · omega
        have hsep : ∀ o : Obj, Sep (fun b => O b ∨ b = w.heap.size ∨ b = w.heap.size + 1) A (W3.putObj (w.heap.size + 1) o) := fun o => by
          refine (((hsa.mono fun b _ hb => .inl hb).then (Sep.of_only (O := fun b => O b ∨ b = w.heap.size ∨ b = w.heap.size + 1) (Only.putObj _) (.inr (.inr rfl))) fun b hb => .inl hb).then hs3 fun b hb => ?_).then (Sep.of_only (O := fun b => O b ∨ b = w.heap.size ∨ b = w.heap.size + 1) (Only.putObj o) (.inr (.inr rfl))) fun b hb => .inl hb
          rcases hb with hb | hb
          · exact .inl (.inl hb)
          · exact .inr hb
        have hO'' : ∀ (o : Obj) b, (O' b ∨ b = w.heap.size ∨ b = w.heap.size + 1) → b < (W3.putObj (w.heap.size + 1) o).heap.size ∧ ((O b ∨ b = w.heap.size ∨ b = w.heap.size + 1) ∨ A.heap.size ≤ b) := fun o b hb => by
          rw [World.putObj_size]
          rcases hb with hb | rfl | rfl
          · exact ⟨(hO' b hb).1, (hO' b hb).2.imp .inl id⟩
          · exact ⟨by omega, .inl (.inr (.inl rfl))⟩
          · exact ⟨by omega, .inl (.inr (.inr rfl))⟩
        have hput : ∀ o : Obj, Sep (fun b => w.heap.size ≤ b ∧ ¬ O' b) W3 (W3.putObj (w.heap.size + 1) o) := fun o => Sep.of_only (Only.putObj o) ⟨by omega, fun ho => (hne' _ ho).2 rfl⟩
        refine ⟨_, _, run_endRound none hl3, _, hsep _, hO'' _, rfl, O', rfl, hI _ _ _ _ hi3 (hput _), ?_, (World.putObj_heap_other (by omega)).trans hd3, hne'⟩
        rw [World.putObj_heap_same hlt3, hrec]; rfl
      | exit id => exact hE.elim
      | goto t => exact hE.elim
      | ret => exact hE.elim
      | panic c => exact hE.elim
      | outgrown => exact hE.elim
    · rintro e W2 ⟨hend, Of, O, rfl, hi, hl, hd, hne⟩
      cases en with
      | none =>
        obtain ⟨v, rfl⟩ := hend
        exact ⟨none, _, by have := run_endLoop (P := P) hl (by rw [hrec]; simp); rw [hrec] at this; exact this, hdone O _ (hI _ _ _ _ hi (Sep.of_only (Only.putObj _) ⟨by omega, fun ho => (hne _ ho).2 rfl⟩)) ((World.putObj_heap_other (by omega)).trans hd) (fun b hb => (hne b hb).1)⟩
      | some er =>
        obtain rfl := hend
        exact hdone O _ hi hd (fun b hb => (hne b hb).1)

end Go.Proofs.Ytcllcinekohklaa
