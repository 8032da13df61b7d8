/-
  The document's Whole4 and Parse4.
-/
import Derived.Test.YtlpbffcijhgelaaDoorQa3
import Derived.Test.YtlpbffcijhgelaaDoorQbx
namespace Go.Proofs.YtlpbffcijhgelaaDoor
set_option linter.unusedVariables false
set_option linter.unusedSimpArgs false
open Go Go.RowKit

set_option maxHeartbeats 2000000 in
theorem whole_ref (s : ByteArray) (w : World) (hs : s.size ≤ 100000) :
    Calls Tryd.prog 51 #[.string s] w fun e w' => e = .returned (.bool (whoB (txt s))) ∧ Below w.heap.size w w' := by
  generalize hR : whoB (txt s) = R
  have HR : Hid _ := hR
  clear hR
  go_enter Tryd.func51, Tryd.ntmps51
  go_wp2_with fail
  refine (split_ref s 46 w (by decide) hs).mono ?_
  rintro e w1 ⟨v, bs, rfl, hown, hbs, hB⟩
  obtain ⟨a, cap, rfl, hlen, hz⟩ := own_form hown
  have hsl := splitA_length 46 (txt s) []
  rw [txt_length] at hsl
  have HBS : Hid _ := hbs
  have hR2 : R = (begB (txt s) && (decide (bs.length = 4) && !((bs.map txt).getD 3 []).isEmpty)) := by
    rw [← HR.out, whoB, ← hbs, List.length_map]
  have HR2 : Hid _ := hR2
  have hbl : bs.length ≤ 100001 := by
    have := congrArg List.length hbs
    rw [List.length_map] at this
    omega
  clear hown hbs HR hR2
  go_wp2_with fail
  refine (begins_ref s w1 hs).mono ?_
  rintro e w2 ⟨rfl, hB2⟩
  have hB3 : Below w.heap.size w w2 := hB.trans (hB2.mono hB.size)
  cases hbg : begB (txt s) with
  | false =>
    have eR : R = false := by rw [HR2.out, hbg]; rfl
    subst eR
    clear HR2
    go_wp2
    go_ret
    exact ⟨rfl, hB3⟩
  | true =>
    by_cases h4 : bs.length = 4
    · rcases hz with hz | ⟨g, rfl, _, hg, hc⟩
      · omega
      have hb : bs[3]? = some bs[3] := by simp [h4]
      have hck := (hB2.cell (p := ⟨g, 3, none⟩) hg).trans (hc 3 (.string bs[3]) (by rw [strsV, List.getElem?_map, hb]; rfl))
      have hg3 : (bs.map txt).getD 3 [] = txt bs[3] := by simp [h4]
      have eR : R = !(txt bs[3]).isEmpty := by rw [HR2.out, hbg, decide_eq_true h4, hg3]; rfl
      have HE : Hid _ := eR
      have q0 : ((bs.length : Int) == 4) = true := by simp; omega
      clear hc hb hg3 eR HR2
      generalize bs[3] = b at *
      by_cases he : b.size = 0
      · have hse := toList_none b he
        have eF : R = false := by rw [HE.out, (txt_empty b).2 he]; rfl
        subst eF
        clear HE
        go_wp2
        go_ret
        exact ⟨rfl, hB3⟩
      · have hse := toList_empty b he
        have eF : R = true := by
          rw [HE.out]
          cases ht : txt b with
          | nil => exact absurd ((txt_empty b).1 ht) he
          | cons => rfl
        subst eF
        clear HE
        go_wp2
        go_ret
        exact ⟨rfl, hB3⟩
    · have eR : R = false := by rw [HR2.out, decide_eq_false h4]; simp
      have q0 : ((bs.length : Int) == 4) = false := by simp; omega
      subst eR
      clear HR2
      go_wp2
      go_ret
      exact ⟨rfl, hB3⟩

theorem partsOk_each : ∀ (ps : List (List Int)), partsOk ps = true → ∀ p ∈ ps, octB p 255 = true
  | [], _, p, hp => by cases hp
  | [q], h, p, hp => by
    rcases List.mem_cons.1 hp with rfl | hp
    · exact h
    · cases hp
  | q :: r :: t, h, p, hp => by
    rw [partsOk] at h
    simp only [Bool.and_eq_true] at h
    rcases List.mem_cons.1 hp with rfl | hp
    · exact h.1.1
    · exact partsOk_each (r :: t) h.2 p hp

theorem octB_good {p : List Int} {most : Int} (h : octB p most = true) (hm : 0 ≤ most) : p.all digB = true ∧ p.length ≤ 3 ∧ 0 ≤ numF 0 p ∧ numF 0 p ≤ most := by
  cases p with
  | nil => exact ⟨rfl, by simp, by simp [numF], by simpa [numF] using hm⟩
  | cons x l =>
    rw [octB_form _ _ (by simp)] at h
    simp only [Bool.and_eq_true, Bool.not_eq_true', Bool.or_eq_false_iff, decide_eq_true_eq, decide_eq_false_iff_not] at h
    exact ⟨h.2.1, by omega, (numF_range _ 0 (by decide) h.2.1).1, h.2.2⟩

theorem whoB_parts {l : List Int} (h : whoB l = true) : (splitA 46 [] l).length = 4 ∧ ∀ p ∈ splitA 46 [] l, octB p 255 = true := by
  unfold whoB begB at h
  simp only [Bool.and_eq_true, decide_eq_true_eq] at h
  exact ⟨h.2.1, partsOk_each _ h.1.2⟩

theorem begN_le (l : List Int) : ∀ f n, n ≤ begN l f n
  | 0, n => Nat.le_refl _
  | f + 1, n => by
    unfold begN
    split
    · exact Nat.le_of_succ_le (begN_le l f (n + 1))
    · exact Nat.le_refl _

end Go.Proofs.YtlpbffcijhgelaaDoor
