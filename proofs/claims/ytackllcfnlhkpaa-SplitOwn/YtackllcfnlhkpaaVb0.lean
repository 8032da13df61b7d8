/-
  A region that draws, in a round: out of its walk by hand.
-/
import Derived.Test.YtackllcfnlhkpaaVa9
import Derived.OrdersIn
import Derived.Maps.OwnIn
import Derived.Maps.AppendAt
namespace Go.Proofs.Ytackllcfnlhkpaa
open Go Go.RowKit
set_option linter.unusedVariables false
set_option linter.unusedSimpArgs false

theorem rowsIn_round {l n : Nat} {P : Program} {row : String} {args : Array Value} {w : World} {R : Value → World → Prop} (h : Rows P row args w R) : RowsIn (Fence.wide.inRound l) n P row args w R :=
  fun c cs _ => let ⟨v, w', r, s⟩ := h c cs; ⟨v, w', r, stepsIn_wide.2 s⟩
theorem wp_round {l n : Nat} {P : Program} {o : Oper} {a : Act} {w : World} {K K' : Act → World → Prop} {Q : Exit → Act → World → Prop} (hd : ∀ c, o.op ≠ .defer c) (hK : ∀ a w, K a w → K' a w) (h : o.wp P a w K Q) : o.wpIn (Fence.wide.inRound l) n P a w K' Q := by
  unfold Oper.wp at h
  refine ⟨fun f _ => trivial, ?_⟩
  rw [Oper.semAt_plain _ _ _ hd]
  generalize (execOp a.eval o).run P w = r at *
  cases r with
  | ok x w' =>
    cases x <;> simp only [Oper.uponIn, Oper.upon] at h ⊢
    all_goals first
      | exact hK _ _ h
      | exact h.elim
      | exact ⟨fun h => by simp [Fence.wide] at h, CallsIn.inRound l (callsIn_wide.2 (h.mono fun e w'' he => by cases e <;> first | exact hK _ _ he | exact he))⟩
      | exact ⟨fun h => by simp [Fence.wide] at h, rowsIn_round (h.mono fun v w'' he => hK _ _ he)⟩
  | halt x w' => cases x <;> simp only [Oper.uponIn, Oper.upon] at h ⊢ <;> first | exact h | exact h.elim
theorem wpOps_round {l n : Nat} {P : Program} {ops : Array Oper} {Q : Exit → Act → World → Prop} (hd : ∀ o ∈ ops.toList, ∀ c, o.op ≠ .defer c) (hQ : ¬ LetsOut Q) : ∀ (sched : List Nat) (a : Act) (w : World), wpOps P ops Q sched a w → wpOpsIn (Fence.wide.inRound l) n P ops Q sched a w
  | [], a, w, h => h
  | i :: rest, a, w, h => by
    unfold wpOps at h
    unfold wpOpsIn
    cases ho : ops[i]? with
    | none => rw [ho] at h; exact wpOps_round hd hQ rest a w h
    | some o =>
      rw [ho] at h
      simp only at h ⊢
      have hm : o ∈ ops.toList := by
        have := Array.mem_of_getElem? ho
        simpa using this
      by_cases hw : Region.wanted o (yielded ops a.tmps) = true
      · rw [if_pos hw] at h ⊢
        rcases h with h | h
        · exact wp_round (hd o hm) (fun a w => wpOps_round hd hQ rest a w) h
        · exact absurd h.2 hQ
      · rw [if_neg hw] at h ⊢
        exact ⟨fun _ _ => trivial, wpOps_round hd hQ rest _ w h⟩
/-- A region that draws, in a round, by hand: what is so behind it. -/
theorem region_round {l n : Nat} {P : Program} {id : Nat} {ops : Array Oper} {Q : Exit → Act → World → Prop} {a : Act} {w : World} (M : Act → Act → World → Prop) (S : World → Prop) (hm : P.follows .mixedOrders = true) (hd : ∀ o ∈ ops.toList, ∀ c, o.op ≠ .defer c)
    (h : wpAnyH P .any ops (fun e a' w' => match e with | .normal => M a a' w' | _ => False) S ops.size (Array.replicate ops.size false) a { w with drawn := w.drawn + 1 }) (hM : ∀ a' w', M a a' w' → Q .normal a' w') :
    (Code.region id ops true).wpIn (Fence.wide.inRound l) n P Q a w := by
  have hout : ¬ LetsOut (fun (e : Exit) (a' : Act) (w' : World) => match e with | .normal => M a a' w' | _ => False) := by rintro ⟨_, _, h⟩; exact h
  have key : (Code.region id ops true).wpIn (Fence.wide.inRound l) n P (fun e a' w' => match e with | .normal => M a a' w' | _ => False) a w := by
    refine wpIn_region_draw fun t => wpOps_round hd hout _ _ _ ?_
    simp only [Region.schedule, hm, Bool.true_or, if_true]
    exact wpAny_sound ops.size t _ a _ (wpAny_of_held _ _ _ _ h)
  refine wpIn_mono key ?_
  intro e a' w' hq
  cases e <;> first | exact hM a' w' hq | exact hq.elim

end Go.Proofs.Ytackllcfnlhkpaa
