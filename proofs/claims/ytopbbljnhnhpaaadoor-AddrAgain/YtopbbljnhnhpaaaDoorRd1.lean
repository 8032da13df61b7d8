/-
  A prefix's text as a kind of letters: an address's kind, a slash, and a number.
-/
import Derived.Test.YtopbbljnhnhpaaaDoorAddrParse4
namespace Go.Proofs.YtopbbljnhnhpaaaDoor
open Go Go.RowKit
set_option linter.unusedVariables false
set_option linter.unusedSimpArgs false

/-- A prefixed in a block of its own. -/
structure PreIn {σ : Type} (T : TypeId) (rv : Value) (At : σ → World → Prop) (most : Int) (b : Nat) (p : Pre σ) (w : World) : Prop where
  inner : At p.addr w
  c0 : w.cell? ⟨b, 0, none⟩ = some (.iface T rv)
  c1 : w.cell? ⟨b, 1, none⟩ = some (.int .i64 most)
  c2 : w.cell? ⟨b, 2, none⟩ = some (.bool p.slashed)
  c3 : w.cell? ⟨b, 3, none⟩ = some (.int .i64 p.num.value)
  c4 : w.cell? ⟨b, 4, none⟩ = some (.bool p.num.begun)
  ok : p.num.Ok most
  typed : Typed w b 105

def PreTook {σ : Type} (R : Reader σ) (T : TypeId) (rv : Value) (At : σ → World → Prop) (most : Int) (B b : Nat) (own : Nat → Prop) (p : Pre σ) (r : Int) (w : World) (e : Ending) (w' : World) : Prop :=
  e = .returned (.bool (preTake R most p r).isSome) ∧ Turns B (fun j => own j ∨ j = b) w w' ∧ ∀ p', preTake R most p r = some p' → PreIn T rv At most b p' w'

theorem pre_inner {σ : Type} {R : Reader σ} {T : TypeId} {rv : Value} {At : σ → World → Prop} {most : Int} {B b : Nat} {own : Nat → Prop} {p : Pre σ} {r : Int} {w : World} {e : Ending} {w' : World} (hno : ¬ own b) (h : PreIn T rv At most b p w)
    (hs : p.slashed = false) (hc : ¬ (r = 47 ∧ R.whole p.addr = true)) (hT : e = .returned (.bool (R.take p.addr r).isSome) ∧ Turns B own w w' ∧ ∀ st', R.take p.addr r = some st' → At st' w') : PreTook R T rv At most B b own p r w e w' := by
  obtain ⟨he, ht, ha⟩ := hT
  have e1 : preTake R most p r = (R.take p.addr r).map (fun a => { p with addr := a }) := by
    unfold preTake
    rw [if_neg (by rw [hs]; decide), if_neg hc]
  obtain ⟨cs, hcs⟩ := h.typed
  have hb : w'.heap[b]? = w.heap[b]? := (ht.kept b _ hcs hno (fun c fz k => by injection k with k1 k2; exact absurd k2 (by decide))).trans hcs.symm
  have ec := fun i => World.cell?_of_block (a := ⟨b, i, none⟩) hb
  refine ⟨by rw [he, e1, Option.isSome_map], ht.mono (fun k hk => .inl hk), fun p' hp' => ?_⟩
  rw [e1] at hp'
  cases hr : R.take p.addr r with
  | none => rw [hr] at hp'; cases hp'
  | some st' =>
    rw [hr] at hp'
    simp at hp'
    subst hp'
    exact ⟨ha st' hr, (ec 0).trans h.c0, (ec 1).trans h.c1, (ec 2).trans h.c2, (ec 3).trans h.c3, (ec 4).trans h.c4, h.ok, ⟨cs, hb.trans hcs⟩⟩

set_option maxHeartbeats 4000000 in
set_option maxRecDepth 100000 in
theorem pre_take {σ : Type} {R : Reader σ} {T : TypeId} {rv : Value} {ft fw : Nat} {At : σ → World → Prop} {most : Int} {B b : Nat} {own : Nat → Prop} (K : Kind R B own T rv ft fw At) (hB : B ≤ b) (hno : ¬ own b) (hm : 0 ≤ most ∧ most ≤ 255)
    (hfr : ∀ st w w' o k, Typed w b 105 → At st w → Wrote b o k w w' → At st w') (p : Pre σ) (r : Int) (w : World) (h : PreIn T rv At most b p w) (hr : 0 ≤ r ∧ r < 2147483648) :
    Calls Tryd.prog 130 #[.pointer (some ⟨b, 0, none⟩), .int .i32 r] w fun e w' => PreTook R T rv At most B b own p r w e w' := by
  have HH : Hid (PreIn T rv At most b p w) := h
  obtain ⟨hin, c0, c1, c2, c3, c4, hok, hty⟩ := h
  generalize hQ : (fun e w' => PreTook R T rv At most B b own p r w e w') = Q
  have HQ : Hid _ := hQ
  clear hQ
  cases hs : p.slashed
  · rw [hs] at c2
    have mT := K.findT
    have mW := K.findW
    have eT := K.entT
    have eW := K.entW
    have HW : Hid _ := K.whole p.addr w hin
    have HT : Hid _ := K.take p.addr w r hin hr
    have HS : Hid _ := hs
    have hop := hty.open 2
    by_cases h47 : r = 47
    · subst h47
      cases hw : R.whole p.addr
      · rw [hw] at HW
        have HWW : Hid _ := hw
        clear K hin c1 c3 c4 hok hw hs
        go_enter Tryd.func130, Tryd.ntmps130
        go_wp2_with fail
        refine Calls.mono HW.out ?_
        rintro e w1 ⟨rfl, rfl⟩
        go_wp2_with fail
        refine Calls.mono HT.out ?_
        intro e w2 hT
        have hP := pre_inner hno HH.out HS.out (fun k => by have := k.2; rw [HWW.out] at this; cases this) hT
        obtain ⟨rfl, _⟩ := hT
        go_wp2
        rw [← HQ.out]
        exact hP
      · rw [hw] at HW
        have HWW : Hid _ := hw
        clear K c1 c3 c4 hw hs
        go_enter Tryd.func130, Tryd.ntmps130
        go_wp2_with fail
        refine Calls.mono HW.out ?_
        rintro e w1 ⟨rfl, rfl⟩
        have hwr := (Wrote.refl b 2 1 w1).set (i := 2) (by omega) (.bool true)
        go_wp2
        rw [← HQ.out]
        have e1 : preTake R most p 47 = some { p with slashed := true } := by
          unfold preTake
          rw [if_neg (by rw [HS.out]; decide), if_pos ⟨rfl, HWW.out⟩]
        have hh := HH.out
        refine ⟨by rw [e1]; rfl, (hwr.turns hB).mono (fun k hk => .inr hk), fun p' hp' => ?_⟩
        rw [e1] at hp'
        cases hp'
        exact ⟨hfr _ _ _ _ _ hh.typed hh.inner hwr, (hwr.cell 0 (by omega)).trans hh.c0, (hwr.cell 1 (by omega)).trans hh.c1, World.cell?_setCell_same _ _ _ hh.c2, (hwr.cell 3 (by omega)).trans hh.c3, (hwr.cell 4 (by omega)).trans hh.c4, hh.ok, hh.typed.wrote hwr⟩
    · have q47 : (r == 47) = false := by simpa using h47
      clear K hin c1 c3 c4 hok hs HW
      go_enter Tryd.func130, Tryd.ntmps130
      go_wp2_with fail
      refine Calls.mono HT.out ?_
      intro e w2 hT
      have hP := pre_inner hno HH.out HS.out (fun k => h47 k.1) hT
      obtain ⟨rfl, _⟩ := hT
      go_wp2
      rw [← HQ.out]
      exact hP
  · rw [hs] at c2
    have HN : Hid _ := num_take p.num r most b 3 w.drew hok hm.2 hr c3 c4 hty.open
    have HS : Hid _ := hs
    clear K hin c3 c4 hok hs
    have HD : Hid (∀ e w2, NumTook (p.num.take r most) b 3 w.drew e w2 → PreTook R T rv At most B b own p r w e w2 ∧ e = .returned (.bool (p.num.take r most).isSome)) := by
      intro e w2 hT
      have e1 : preTake R most p r = (p.num.take r most).map (fun n => { p with num := n }) := by
        unfold preTake
        rw [if_pos HS.out]
      have hh := HH.out
      unfold NumTook at hT
      cases hn : p.num.take r most with
      | none =>
        rw [hn] at hT e1
        obtain ⟨rfl, rfl⟩ := hT
        exact ⟨⟨by rw [e1]; rfl, (Turns.refl _ _ _).drew, fun p' hp' => by rw [e1] at hp'; cases hp'⟩, rfl⟩
      | some n' =>
        rw [hn] at hT e1
        obtain ⟨rfl, hw2⟩ := hT
        have hwr := (((Wrote.refl b 3 2 w).drew).set (i := 3) (by omega) (.int .i64 n'.value)).set (i := 4) (by omega) (.bool n'.begun)
        rw [← hw2] at hwr
        have hk := Num.take_ok hn hh.ok
        have d3 : w2.cell? ⟨b, 3, none⟩ = some (.int .i64 n'.value) := by
          rw [hw2, World.cell?_setCell_other _ _ _ _ (by intro k; injection k; omega)]
          exact World.cell?_setCell_same _ _ _ hh.c3
        have d4 : w2.cell? ⟨b, 4, none⟩ = some (.bool n'.begun) := by
          rw [hw2]
          have c4' : (w.drew.setCell ⟨b, 3, none⟩ (.int .i64 n'.value)).cell? ⟨b, 4, none⟩ = some (.bool p.num.begun) := by
            rw [World.cell?_setCell_other _ _ _ _ (by intro k; injection k; omega)]
            exact hh.c4
          exact World.cell?_setCell_same _ _ _ c4'
        refine ⟨⟨by rw [e1]; rfl, (hwr.turns hB).mono (fun k hk => .inr hk), fun p' hp' => ?_⟩, rfl⟩
        rw [e1] at hp'
        simp at hp'
        subst hp'
        exact ⟨hfr _ _ _ _ _ hh.typed hh.inner hwr, (hwr.cell 0 (by omega)).trans hh.c0, (hwr.cell 1 (by omega)).trans hh.c1, (hwr.cell 2 (by omega)).trans hh.c2, d3, d4, hk, hh.typed.wrote hwr⟩
    go_enter Tryd.func130, Tryd.ntmps130
    go_wp2_with fail
    go_region_with (go_at_call 121; refine Calls.mono HN.out ?_; intro e w2 hT; have hP := HD.out e w2 hT; obtain ⟨hP, rfl⟩ := hP)
    go_wp2
    go_ret
    rw [← HQ.out]
    exact hP

end Go.Proofs.YtopbbljnhnhpaaaDoor
