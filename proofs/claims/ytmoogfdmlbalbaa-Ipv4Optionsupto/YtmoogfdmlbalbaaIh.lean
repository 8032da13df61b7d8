/-
  A region that draws its order, whose first operations only read and whose last two make a box and fill it: walked once.
-/
import Derived.Test.YtmoogfdmlbalbaaAgg
import Derived.OrdersHeld
namespace Go.Proofs.Ytmoogfdmlbalbaa
open Go Go.RowKit
set_option linter.unusedVariables false
set_option linter.unusedSimpArgs false

theorem wpQuiet_mono {P : Program} {ops : Array Oper} {C : World → Prop} {K K' : Act → Prop} (h : ∀ a, K a → K' a) : ∀ (l : List Oper) (a : Act), wpQuiet P ops C K l a → wpQuiet P ops C K' l a
  | [], a, hh => h a hh
  | o :: l, a, hh => by
    unfold wpQuiet at hh ⊢
    split
    · next hw => rw [if_pos hw] at hh; exact Oper.quiet_mono (fun a' => wpQuiet_mono h l a') hh
    · next hw => rw [if_neg hw] at hh; exact wpQuiet_mono h l _ hh

def plainOp : Op → Bool
  | .move _ | .load _ _ | .indexAddr _ _ _ | .convert _ _ _ | .binOp _ _ _ _ _ | .build _ _ => true
  | _ => false
theorem plain_value {P : Program} {o : Oper} {a : Act} {w w' : World} {n : Next} (hp : plainOp o.op = true) (h : (execOp a.eval o).run P w = .ok n w') : ∃ x, n = .value x := by
  obtain ⟨dst, op, ty, pos, aft, gd⟩ := o
  simp only at hp
  unfold plainOp at hp
  split at hp
  all_goals first
    | (simp only [execOp, Sem.run_bind] at h
       revert h
       generalize (Sem.run P _ w) = r
       intro h
       cases r with
       | ok x w1 => simp [Result.andThen] at h; exact ⟨_, h.1.symm⟩
       | halt x w1 => simp [Result.andThen] at h)
    | (simp [execOp] at h; exact ⟨_, h.1.symm⟩)
    | (simp only [execOp, Sem.run_bind] at h
       revert h
       generalize (Sem.run P (eqGuard _ _ _ _ _ _) w) = r
       intro h
       cases r with
       | ok x w1 =>
         simp only [Result.andThen] at h
         revert h
         generalize (Sem.run P (binOp _ _ _ _) w1) = r2
         intro h
         cases r2 with
         | ok x2 w2 => simp [Result.andThen] at h; exact ⟨_, h.1.symm⟩
         | halt x2 w2 => simp [Result.andThen] at h
       | halt x w1 => simp [Result.andThen] at h)
    | cases hp

theorem quiet_run {P : Program} {o : Oper} {a : Act} {S : World → Prop} {w : World} {v : Value} (hp : plainOp o.op = true) (h : o.quietAt P a S w v) : (execOp a.eval o).run P w = .ok (.value v) w := by
  unfold Oper.quietAt at h
  generalize hr : (execOp a.eval o).run P w = r at h
  cases r with
  | ok n w' =>
    obtain ⟨x, rfl⟩ := plain_value hp hr
    simp only [Oper.quietUpon] at h
    obtain ⟨rfl, rfl⟩ := h
    rfl
  | halt x w' => simp only [Oper.quietUpon] at h

def headB (md : Region.Mode) (ops : Array Oper) : Nat → Nat → Array Bool → Bool
  | 0, _, _ => true
  | f + 1, k, listed => (Region.ready md ops listed).contains k && Region.free md ops listed k && headB md ops f (k + 1) (listed.setIfInBounds k true)
def markF (listed : Array Bool) (k : Nat) : Nat → Array Bool
  | 0 => listed
  | n + 1 => markF (listed.setIfInBounds k true) (k + 1) n

theorem held_of_quiet {P : Program} {ops : Array Oper} {Q : Exit → Act → World → Prop} {S : World → Prop} {md : Region.Mode} {fuel : Nat} {w : World} (hs : Region.noSelect ops = true) (hQ : ∀ c (a : Act) d v w, Q (.panic c) (a.put d v) w → Q (.panic c) a w) (hS : S w) :
    ∀ (l : List Oper) (k : Nat) (listed : Array Bool) (a : Act), (∀ j, j < l.length → l[j]? = ops[k + j]?) → headB md ops l.length k listed = true → (l.all fun o => plainOp o.op) = true →
      wpQuiet P ops S (fun a' => wpAnyH P md ops Q S fuel (markF listed k l.length) a' w) l a → wpAnyH P md ops Q S (fuel + l.length) listed a w
  | [], k, listed, a, _, _, _, h => h
  | o :: l, k, listed, a, hl, hB, hp, h => by
    have h0 : ops[k]? = some o := by simpa using (hl 0 (by simp)).symm
    simp only [List.length_cons, headB, Bool.and_eq_true] at hB
    obtain ⟨⟨hr, hf⟩, hB'⟩ := hB
    simp only [List.all_cons, Bool.and_eq_true] at hp
    have hl' : ∀ j, j < l.length → l[j]? = ops[k + 1 + j]? := fun j hj => by have := hl (j + 1) (by simp; omega); simpa [Nat.add_assoc, Nat.add_comm 1 j] using this
    have ih := fun a' => held_of_quiet (P := P) (fuel := fuel) hs hQ hS l (k + 1) (listed.setIfInBounds k true) a' hl' hB' hp.2
    show wpAnyH P md ops Q S ((fuel + l.length) + 1) listed a w
    unfold wpQuiet at h
    by_cases hw : Region.wanted o (yielded ops a.tmps) = true
    · rw [if_pos hw] at h
      obtain ⟨v, h1, h2⟩ := h
      exact wpAnyH_take h0 hs hf hr (fun c a w q => hQ c a _ _ w q) (.inl ⟨hw, fun u hu => quiet_run hp.1 (h1 u hu)⟩) hS (ih _ h2)
    · rw [if_neg hw] at h
      exact wpAnyH_take h0 hs hf hr (fun c a w q => hQ c a _ _ w q) (.inr ⟨by simpa using hw, rfl⟩) hS (ih _ h)

/-- The region, its last two operations by themselves. -/
theorem wp_region_box {P : Program} {id : Nat} {Q : Exit → Act → World → Prop} {a : Act} {w : World} {l : List Oper} (n : Nat) {oA oS : Oper} (S : World → Prop) (hm : P.follows .mixedOrders = true) (hs : Region.noSelect l.toArray = true) (hQ : ∀ c (a : Act) d v w, Q (.panic c) (a.put d v) w → Q (.panic c) a w)
    (hS : S w.drew) (hn : l.length = n + 2) (hB : headB .any l.toArray n 0 (Array.replicate l.toArray.size false) = true) (hp : ((l.take n).all fun o => plainOp o.op) = true)
    (r1 : Region.ready .any l.toArray (markF (Array.replicate l.toArray.size false) 0 n) = [n]) (r2 : Region.ready .any l.toArray ((markF (Array.replicate l.toArray.size false) 0 n).setIfInBounds n true) = [n + 1])
    (r3 : Region.ready .any l.toArray (((markF (Array.replicate l.toArray.size false) 0 n).setIfInBounds n true).setIfInBounds (n + 1) true) = [])
    (hA : l[n]? = some oA) (hS' : l[n + 1]? = some oS) (gA : oA.guard = none) (gS : oS.guard = none)
    (h : wpQuiet P l.toArray S (fun a' => oA.wp P a' w.drew (fun a2 w2 => S w2 ∧ oS.wp P a2 w2 (fun a3 w3 => S w3 ∧ Q .normal a3 w3) Q) Q) (l.take n) a) : (Code.region id l.toArray true).wp P Q a w := by
  refine wp_region_held (S := S) hm ?_
  have hsz : l.toArray.size = 2 + (l.take n).length := by simp; omega
  have htl : (l.take n).length = n := by simp; omega
  show wpAnyH P .any l.toArray Q S l.toArray.size (Array.replicate l.toArray.size false) a w.drew
  have key := held_of_quiet (P := P) (ops := l.toArray) (Q := Q) (S := S) (md := .any) (fuel := 2) (w := w.drew) hs hQ hS (l.take n) 0 (Array.replicate l.toArray.size false) a (fun j hj => by rw [htl] at hj; simp [List.getElem?_take, hj]) (by rw [htl]; exact hB) hp
  rw [htl] at key
  rw [show l.toArray.size = 2 + n by simp; omega] at *
  refine key ?_
  refine wpQuiet_mono (fun a' ha => ?_) _ _ h
  refine wpAnyH_all (rs := [n]) r1 (by simp) ?_
  intro i hi
  obtain rfl : i = n := by simpa using hi
  unfold wpOp
  rw [show l.toArray[i]? = some oA by simpa using hA]
  simp only
  rw [if_pos (by simp [Region.wanted, gA])]
  refine .inl (Oper.wp_mono (fun a2 w2 h2 => ⟨h2.1, ?_⟩) ha)
  refine wpAnyH_all (rs := [i + 1]) r2 (by simp) ?_
  intro j hj
  obtain rfl : j = i + 1 := by simpa using hj
  unfold wpOp
  rw [show l.toArray[i + 1]? = some oS by simpa using hS']
  simp only
  rw [if_pos (by simp [Region.wanted, gS])]
  refine .inl (Oper.wp_mono (fun a3 w3 h3 => ⟨h3.1, ?_⟩) h2.2)
  exact wpAnyH_done r3 h3.2 _
end Go.Proofs.Ytmoogfdmlbalbaa
