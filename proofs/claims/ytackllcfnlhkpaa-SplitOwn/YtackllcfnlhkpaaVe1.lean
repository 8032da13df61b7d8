/-
  Fragments, plainly: each byte once, as few as may be.
-/
import Derived.Test.YtackllcfnlhkpaaVd4
namespace Go.Proofs.Ytackllcfnlhkpaa
open Go Go.RowKit
set_option linter.unusedVariables false
set_option linter.unusedSimpArgs false

def bodies (L : List Fg) : List Int := L.flatMap (fun g => g.body)
theorem bodies_cons (g : Fg) (L : List Fg) : bodies (g :: L) = g.body ++ bodies L := by simp [bodies]
theorem bodies_push (L : List Fg) (g : Fg) : bodies (L ++ [g]) = bodies L ++ g.body := by simp [bodies]
/-- What is so of the j-th fragment. -/
structure FgOk (mtu : Nat) (mf : Bool) (off : Int) (L : List Fg) (j : Nat) (g : Fg) : Prop where
  opt : g.opts.length ≤ 40 ∧ g.opts.length % 4 = 0
  fit : 20 + g.opts.length + g.body.length ≤ mtu
  pl : 8 * (g.off - off) = ((bodies (L.take j)).length : Int)
  mid : j + 1 < L.length → g.mf = true ∧ g.body.length % 8 = 0 ∧ mtu - (20 + g.opts.length + g.body.length) < 8
  last : j + 1 = L.length → g.mf = mf
theorem frs_ok {mtu : Nat} {later : List Int} {mf : Bool} (hm : 68 ≤ mtu) (hl : later.length ≤ 40 ∧ later.length % 4 = 0) : ∀ (n : Nat) (off : Int) (o b : List Int), b.length ≤ n → o.length ≤ 40 → o.length % 4 = 0 →
    (∀ (j : Nat) (g : Fg), (frs mtu later mf n off o b)[j]? = some g → FgOk mtu mf off (frs mtu later mf n off o b) j g) ∧ bodies (frs mtu later mf n off o b) = b := by
  have single : ∀ (off : Int) (o b : List Int), 20 + o.length + b.length ≤ mtu → o.length ≤ 40 → o.length % 4 = 0 →
      (∀ (j : Nat) (g : Fg), ([⟨off, mf, o, b⟩] : List Fg)[j]? = some g → FgOk mtu mf off [⟨off, mf, o, b⟩] j g) ∧ bodies [⟨off, mf, o, b⟩] = b := by
    intro off o b hf h1 h2
    refine ⟨fun j g hg => ?_, by simp [bodies]⟩
    cases j with
    | zero =>
      simp at hg
      subst hg
      exact ⟨⟨h1, h2⟩, hf, by simp [bodies], fun h => by simp at h, fun _ => rfl⟩
    | succ j => simp at hg
  intro n
  induction n with
  | zero =>
    intro off o b hn h1 h2
    exact single off o b (by omega) h1 h2
  | succ n ih =>
    intro off o b hn h1 h2
    by_cases hf : 20 + o.length + b.length ≤ mtu
    · rw [frs_fits hf]
      exact single off o b hf h1 h2
    · rw [frs, if_neg hf]
      have hr1 := room_le mtu o.length
      have hr2 := room_ge hm h1
      have hr3 := room_8 mtu o.length
      have hr4 : mtu - 20 - o.length - room mtu o.length < 8 := by unfold room; omega
      have htl : (b.take (room mtu o.length)).length = room mtu o.length := by rw [List.length_take]; omega
      obtain ⟨i1, i2⟩ := ih (off + (room mtu o.length / 8 : Nat)) later (b.drop (room mtu o.length)) (by rw [List.length_drop]; omega) hl.1 hl.2
      have hp := frs_pos mtu later mf n (off + (room mtu o.length / 8 : Nat)) later (b.drop (room mtu o.length))
      generalize frs mtu later mf n (off + (room mtu o.length / 8 : Nat)) later (b.drop (room mtu o.length)) = M at *
      generalize room mtu o.length = r at *
      refine ⟨fun j g hg => ?_, by rw [bodies_cons, i2]; exact List.take_append_drop r b⟩
      cases j with
      | zero =>
        simp at hg
        subst hg
        refine ⟨⟨h1, h2⟩, by simp only [htl]; omega, by simp [bodies], fun _ => ⟨rfl, by simp only [htl]; omega, by simp only [htl]; omega⟩, fun h => by simp only [List.length_cons] at h; omega⟩
      | succ j =>
        simp only [List.getElem?_cons_succ] at hg
        obtain ⟨a1, a2, a3, a4, a5⟩ := i1 j g hg
        refine ⟨a1, a2, ?_, fun h => a4 (by simpa using h), fun h => a5 (by simpa using h)⟩
        rw [List.take_succ_cons, bodies_cons, List.length_append]
        simp only [htl]
        have : ((r / 8 : Nat) : Int) * 8 = (r : Int) := by omega
        omega
theorem ref_far {df mf : Bool} {off : Int} {opts body : List Int} {mtu : Int} (h : refE df mf off opts body mtu = 0) (j : Nat) (g : Fg) (hg : (fragL mf off opts body mtu)[j]? = some g) : 0 ≤ g.off ∧ g.off ≤ 8191 := by
  have hw := ref_ok h
  have hk := chk_ok (wrong_ok hw).1
  have ho := frs_off _ _ _ _ _ _ _ j g hg
  refine ⟨by omega, ?_⟩
  by_cases hf : fitB opts.length body.length mtu = true
  · have hm := (wrong_ok hw).2
    unfold fragL at hg
    unfold fitB at hf
    rw [frs_fits (by simp at hf; omega)] at hg
    cases j with
    | zero => simp at hg; subst hg; exact hk.2.1
    | succ j => simp at hg
  · unfold refE at h
    rw [if_neg (by simpa using hw), if_neg hf] at h
    by_cases h1 : df = true
    · simp [h1] at h
    · rw [if_neg h1] at h
      by_cases h2 : (mf && decide (body.length % 8 ≠ 0)) = true
      · rw [if_pos h2] at h; omega
      · rw [if_neg h2] at h
        by_cases h3 : farB (fragL mf off opts body mtu) = true
        · rw [if_pos h3] at h; omega
        · by_cases hg2 : 8191 < g.off
          · exact absurd (far_yes hg hg2) h3
          · omega
theorem frag_ok {df mf : Bool} {off : Int} {opts body : List Int} {m : Nat} (h : refE df mf off opts body m = 0) : (∀ (j : Nat) (g : Fg), (fragL mf off opts body m)[j]? = some g → FgOk m mf off (fragL mf off opts body m) j g) ∧ bodies (fragL mf off opts body m) = body ∧ 0 < (fragL mf off opts body m).length := by
  obtain ⟨hc, hm1, hm2⟩ := wrong_ok (ref_ok h)
  have hk := chk_ok hc
  have := frs_ok (mtu := m) (later := copiedL opts) (mf := mf) (by omega) (copiedL_length opts hk.2.2.1) body.length off opts body (Nat.le_refl _) hk.2.2.1 hk.2.2.2.1
  unfold fragL
  rw [Int.toNat_natCast]
  exact ⟨this.1, this.2, frs_pos ..⟩

end Go.Proofs.Ytackllcfnlhkpaa
