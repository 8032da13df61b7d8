/-
  How grouped takes a letter, and how a text is read.
-/
import Derived.Test.YtlpbffcijhgelaaDoorAddrDot
import Derived.Laws.RangeAny
namespace Go.Proofs.YtlpbffcijhgelaaDoor
open Go Go.RowKit
set_option linter.unusedVariables false
set_option linter.unusedSimpArgs false

theorem Dot.takes_ok : ∀ (l : List UInt8) (d d' : Dot), d.takes l = some d' → d.Ok → d'.Ok
  | [], d, d', h, hd => by cases h; exact hd
  | c :: l, d, d', h, hd => by
    unfold Dot.takes at h
    cases hx : d.take c.toNat with
    | none => simp [hx] at h
    | some d2 =>
      simp [hx] at h
      exact Dot.takes_ok l d2 d' h (Dot.take_ok hx hd)

theorem Grp.ok_new : Grp.new.Ok :=
  ⟨fun z hz => (by cases hz), rfl, by decide, fun c hc => (by cases hc), by decide, by decide, Dot.ok_new, by decide, fun h => (by cases h), by decide, fun _ _ => by decide, fun h => (by cases h)⟩

theorem Grp.take_ok {g g' : Grp} {r : Int} (h : g.take r = some g') (hg : g.Ok) : g'.Ok := by
  obtain ⟨k1, k2, k3, k4, k5, k6, k7, k8, k9, k10, k11, k12⟩ := hg
  unfold Grp.take at h
  by_cases hd : g.dots = true
  · rw [if_pos hd] at h
    cases hx : g.tail.take r with
    | none => simp [hx] at h
    | some d =>
      rw [hx] at h
      cases h
      exact ⟨k1, k2, k3, k4, k5, k6, Dot.take_ok hx k7, k8, k9, k10, k11, k12⟩
  · rw [if_neg hd] at h
    have hd' : g.dots = false := by simpa using hd
    rw [hd', if_neg (by decide)] at k8
    split at h
    · split at h
      · rename_i hp
        have h14 := k11 hp hd'
        unfold Grp.second at h
        split at h
        · cases h
        · split at h
          · cases h
            refine ⟨k1, k2, k3, k4, k5, k6, k7, by rw [hd', if_neg (by decide)]; exact k8, k9, by dsimp only; omega, k11, k12⟩
          · cases h
            refine ⟨k1, k2, k3, k4, k5, ⟨Int.natCast_nonneg _, Int.le_refl _⟩, k7, ?_, fun h1 => by simp [hd'] at h1, by dsimp only; omega, k11, k12⟩
            dsimp only
            rw [hd', if_neg (by decide), if_pos hp]
            simpa using h14
      · rename_i hp
        rw [if_neg hp] at k8
        unfold Grp.colon at h
        split at h
        · cases h
        · rename_i hroom
          unfold Grp.room at hroom
          cases h
          have hle : g.ended.length ≤ 12 ∧ (g.gapped = true → g.ended.length ≤ 10) := by
            cases hgp : g.gapped
            · rw [hgp] at hroom k8; simp at hroom k8 ⊢; omega
            · rw [hgp] at hroom k8; simp at hroom k8 ⊢; omega
          refine ⟨?_, by simp; omega, by simp, fun c hc => (by cases hc), by simp, by simp; omega, k7, ?_, fun h1 => by simp [hd'] at h1, by simp, fun _ _ => by simp; omega, fun h1 => by simp [hd'] at h1⟩
          · intro z hz
            simp at hz
            rcases hz with hz | rfl | rfl
            · exact k1 z hz
            · unfold Byte; omega
            · unfold Byte; omega
          · simp [hd']
            cases hgp : g.gapped
            · simp; omega
            · have := hle.2 hgp; simp; omega
    · split at h
      · unfold Grp.dot at h
        split at h
        · cases h
        · rename_i hroom
          unfold Grp.room at hroom
          cases hx : g.tail.takes g.part with
          | none => simp [hx] at h
          | some d =>
            simp [hx] at h
            obtain ⟨d', hy, rfl⟩ := h
            have hdk := Dot.take_ok hy (Dot.takes_ok _ _ _ hx k7)
            cases hgp : g.gapped
            · rw [hgp] at hroom
              simp at hroom
              exact ⟨k1, k2, k3, k4, k5, k6, hdk, by simp [hgp]; omega, fun _ _ => by dsimp only; omega, k10, fun _ h2 => (by cases h2), fun _ => by dsimp only; omega⟩
            · rw [hgp] at hroom
              simp at hroom
              exact ⟨k1, k2, k3, k4, k5, k6, hdk, by simp [hgp]; omega, fun _ h2 => by simp [hgp] at h2, k10, fun _ h2 => (by cases h2), fun _ => by dsimp only; omega⟩
      · unfold Grp.digit at h
        cases hx : hexv r with
        | none => simp [hx] at h
        | some x =>
          rw [hx] at h
          obtain ⟨hx0, hx1, hr0, hr1⟩ := hexv_lt hx
          dsimp only at h
          split at h
          · cases h
          · rename_i hno
            cases h
            have hp4 : ¬ g.part.length = 4 := fun e => hno (.inr (.inr e))
            have hrm : ¬ g.room = 0 := fun e => hno (.inr (.inl e))
            unfold Grp.room at hrm
            have hle : g.ended.length ≤ 14 ∧ (g.gapped = true → g.ended.length ≤ 12) := by
              cases hgp : g.gapped
              · rw [hgp] at hrm k8; simp at hrm k8 ⊢; split at k8 <;> omega
              · rw [hgp] at hrm k8; simp at hrm k8 ⊢; split at k8 <;> omega
            refine ⟨k1, k2, by simp; omega, ?_, by dsimp only; omega, k6, k7, ?_, fun h1 => by simp [hd'] at h1, by simp, fun h1 => by simp at h1, fun h1 => by simp [hd'] at h1⟩
            · intro c hc
              simp at hc
              rcases hc with hc | rfl
              · exact k4 c hc
              · have : r.toNat < 128 := by omega
                simp [UInt8.toNat_ofNat']
                omega
            · simp [hd']
              cases hgp : g.gapped
              · simp; omega
              · have := hle.2 hgp; simp; omega

set_option maxHeartbeats 4000000 in
set_option maxRecDepth 100000 in
theorem grp_take {B b : Nat} {g : Grp} {w : World} {r : Int} (h : GrpAt B b g w) (hk : g.Ok) (hr : 0 ≤ r ∧ r < 2147483648) :
    Calls Tryd.prog 123 #[.pointer (some ⟨b, 0, none⟩), .int .i32 r] w fun e w' => GrpTook (g.take r) B b w e w' := by
  have c1 := h.c1
  have c6 := h.c6
  unfold Grp.take
  cases hd : g.dots with
  | true =>
    rw [hd] at c6
    have hC := dot_take g.tail r b 7 w hk.tail hr h.tail h.typed.open
    rw [if_pos rfl]
    generalize hx : g.tail.take r = x at hC
    have HX : Hid _ := hx
    clear hx
    go_enter Tryd.func123, Tryd.ntmps123
    go_wp2_with fail
    refine hC.mono ?_
    rintro e w' ⟨rfl, hW, hS⟩
    go_wp2
    go_ret
    refine ⟨by simp, hW.turns h.hB, fun g' hg' => ?_⟩
    cases x with
    | none => cases hg'
    | some d =>
      cases hg'
      have e := fun i (hi : i < 7) => hW.cell i (Or.inl hi)
      obtain ⟨v, h0, hown⟩ := h.row
      exact ⟨h.typed.wrote hW, h.hB, ⟨v, (e 0 (by omega)).trans h0, own_wrote hW h.typed (by decide) hown⟩, (e 1 (by omega)).trans h.c1, (e 2 (by omega)).trans h.c2, (e 3 (by omega)).trans h.c3,
        (e 4 (by omega)).trans h.c4, (e 5 (by omega)).trans h.c5, (e 6 (by omega)).trans c6, hS d rfl⟩
  | false =>
    rw [hd] at c6
    simp only [Bool.false_eq_true, if_false]
    by_cases h58 : r = 58
    · subst h58
      simp only [if_true]
      by_cases hp : g.part = []
      · rw [hp] at c1
        rw [if_pos hp]
        have hC := grp_second h
        generalize g.second = x at hC ⊢
        go_enter Tryd.func123, Tryd.ntmps123
        go_wp2_with fail
        refine hC.mono ?_
        rintro e w' ⟨rfl, hW⟩
        go_wp2
        go_ret
        exact ⟨rfl, hW⟩
      · rw [if_neg hp]
        have hq : g.part.isEmpty = false := by simpa using hp
        have hq' := str_ne _ hp
        have hC := grp_colon h hk
        generalize g.colon = x at hC ⊢
        go_enter Tryd.func123, Tryd.ntmps123
        go_wp2_with fail
        refine hC.mono ?_
        rintro e w' ⟨rfl, hW⟩
        go_wp2
        go_ret
        exact ⟨rfl, hW⟩
    · rw [if_neg h58]
      have q58 : (r == 58) = false := by simpa using h58
      by_cases h46 : r = 46
      · subst h46
        rw [if_pos rfl]
        have hC := grp_dot h hk hd
        generalize g.dot = x at hC ⊢
        go_enter Tryd.func123, Tryd.ntmps123
        go_wp2_with fail
        refine hC.mono ?_
        rintro e w' ⟨rfl, hW⟩
        go_wp2
        go_ret
        exact ⟨rfl, hW⟩
      · rw [if_neg h46]
        have q46 : (r == 46) = false := by simpa using h46
        have hC := grp_digit h hk hr
        generalize g.digit r = x at hC ⊢
        go_enter Tryd.func123, Tryd.ntmps123
        go_wp2_with fail
        refine hC.mono ?_
        rintro e w' ⟨rfl, hW⟩
        go_wp2
        go_ret
        exact ⟨rfl, hW⟩

end Go.Proofs.YtlpbffcijhgelaaDoor
