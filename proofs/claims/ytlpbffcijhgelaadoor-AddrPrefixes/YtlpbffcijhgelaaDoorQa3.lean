/-
  The document's Begins4, Whole4.
-/
import Derived.Test.YtlpbffcijhgelaaDoorQa2
namespace Go.Proofs.YtlpbffcijhgelaaDoor
set_option linter.unusedVariables false
set_option linter.unusedSimpArgs false
open Go Go.RowKit

theorem partsOk_bad (p : List Int) (r : List (List Int)) (h : octB p 255 = false) : partsOk (p :: r) = false := by
  cases r with
  | nil => exact h
  | cons q r => rw [partsOk, h]; rfl
theorem partsOk_empty (r : List (List Int)) (h : r ≠ []) : partsOk ([] :: r) = false := by
  cases r with
  | nil => exact absurd rfl h
  | cons q r => rw [partsOk]; simp
theorem partsOk_on (p : List Int) (r : List (List Int)) (h : octB p 255 = true) (g : r = [] ∨ p ≠ []) : partsOk (p :: r) = partsOk r := by
  cases r with
  | nil => exact h
  | cons q r =>
    rcases g with g | g
    · cases g
    · rw [partsOk, h]
      cases p with
      | nil => exact absurd rfl g
      | cons => rfl

theorem drop_at {α : Type} {l : List α} {k : Nat} {x : α} (h : l[k]? = some x) : l.drop k = x :: l.drop (k + 1) := by
  obtain ⟨hk, rfl⟩ := List.getElem?_eq_some_iff.1 h
  exact List.drop_eq_getElem_cons hk

theorem toList_none (s : ByteArray) (h : s.size = 0) : s.toList.isEmpty = true := by
  rw [Lib.toList_data]
  cases s with
  | mk d =>
    cases d with
    | mk l =>
      cases l with
      | nil => rfl
      | cons => simp [ByteArray.size] at h

set_option maxHeartbeats 2000000 in
theorem begins_ref (s : ByteArray) (w : World) (hs : s.size ≤ 100000) :
    Calls Tryd.prog 50 #[.string s] w fun e w' => e = .returned (.bool (begB (txt s))) ∧ Below w.heap.size w w' := by
  generalize hR : begB (txt s) = R
  have HR : Hid _ := hR
  clear hR
  go_enter Tryd.func50, Tryd.ntmps50
  go_wp2_with fail
  refine (split_ref s 46 w (by decide) hs).mono ?_
  rintro e w1 ⟨v, bs, rfl, hown, hbs, hB⟩
  obtain ⟨a, cap, rfl, hlen, hz⟩ := own_form hown
  have hll : (splitA 46 [] (txt s)).length = bs.length := by rw [← hbs, List.length_map]
  have hsl := splitA_length 46 (txt s) []
  rw [txt_length, hll] at hsl
  clear hown
  by_cases h4 : 4 < bs.length
  · have eR : R = false := by
      rw [← HR.out, begB, hll, decide_eq_false (by omega)]
      rfl
    subst eR
    clear HR
    have q0 : (4 : Int) < (bs.length : Nat) := by omega
    go_wp2
    go_ret
    exact ⟨rfl, hB⟩
  · have eR : R = partsOk (bs.map txt) := by
      rw [← HR.out, begB, hll, decide_eq_true (by omega), ← hbs]
      rfl
    have q0 : ¬ ((4 : Int) < (bs.length : Nat)) := by omega
    have HE : Hid _ := eR
    clear HR eR hll hsl
    have HBS : Hid _ := hbs
    clear hbs
    go_wp2
    go_loop [4] (fun i => ∃ k : Nat, k ≤ bs.length ∧ i = .int .i64 k ∧ partsOk (bs.map txt) = partsOk ((bs.map txt).drop k)) (fun i => bs.length - (intOf i).toNat)
    case atStart => exact ⟨0, Nat.zero_le _, rfl, rfl⟩
    case round =>
      obtain ⟨k, hk, rfl, hpk⟩ := hrel
      have HP : Hid _ := hpk
      clear hpk
      by_cases hlt : k < bs.length
      · rcases hz with hz | ⟨g, rfl, _, _, hc⟩
        · omega
        have hb : bs[k]? = some bs[k] := by simp [hlt]
        have hck := hc k (.string bs[k]) (by rw [strsV, List.getElem?_map, hb]; rfl)
        have hd : (bs.map txt).drop k = txt bs[k] :: (bs.map txt).drop (k + 1) := drop_at (by rw [List.getElem?_map, hb]; rfl)
        have HD : Hid _ := hd
        have hrest : ((bs.map txt).drop (k + 1) = []) ↔ k + 1 = bs.length := by
          rw [List.drop_eq_nil_iff, List.length_map]; omega
        have HRE : Hid _ := hrest
        have hbs0 : bs[k].size = 0 → k < bs.length := fun _ => hlt
        clear hc hd hb hrest hbs0
        generalize bs[k] = b at *
        have hoc := octet_ref b 255 w1 (by decide)
        by_cases ho : octB (txt b) 255 = true
        · rw [ho] at hoc
          have HOC : Hid _ := hoc
          clear hoc
          by_cases hlast : k + 1 = bs.length
          · have hq : ¬ ((k : Int) < (bs.length : Nat) - 1) := by omega
            go_wp2_with fail
            refine Calls.mono HOC.out ?_
            rintro e w2 ⟨rfl, rfl⟩
            go_wp2
            refine ⟨⟨k + 1, by omega, by simp, ?_⟩, by simp [intOf]; omega⟩
            rw [HP.out, HD.out, partsOk_on _ _ ho (.inl (HRE.out.2 hlast))]
          · have hq : ((k : Int) < (bs.length : Nat) - 1) := by omega
            by_cases he : b.size = 0
            · have hse := toList_none b he
              have eF : R = false := by
                rw [HE.out, HP.out, HD.out, (txt_empty b).2 he]
                exact partsOk_empty _ (fun h => hlast (HRE.out.1 h))
              subst eF
              clear HE
              go_wp2_with fail
              refine Calls.mono HOC.out ?_
              rintro e w2 ⟨rfl, rfl⟩
              go_wp2
              go_ret
              exact ⟨rfl, hB⟩
            · have hse := toList_empty b he
              go_wp2_with fail
              refine Calls.mono HOC.out ?_
              rintro e w2 ⟨rfl, rfl⟩
              go_wp2
              refine ⟨⟨k + 1, by omega, by simp, ?_⟩, by simp [intOf]; omega⟩
              rw [HP.out, HD.out, partsOk_on _ _ ho (.inr (fun h => he ((txt_empty b).1 h)))]
        · have hof : octB (txt b) 255 = false := by simpa using ho
          rw [hof] at hoc
          have HOC : Hid _ := hoc
          clear hoc
          have eF : R = false := by
            rw [HE.out, HP.out, HD.out]
            exact partsOk_bad _ _ hof
          subst eF
          clear HE
          go_wp2_with fail
          refine Calls.mono HOC.out ?_
          rintro e w2 ⟨rfl, rfl⟩
          go_wp2
          go_ret
          exact ⟨rfl, hB⟩
      · obtain rfl : k = bs.length := by omega
        have eT : R = true := by
          rw [HE.out, HP.out, List.drop_eq_nil_of_le (by rw [List.length_map]; exact Nat.le_refl _)]
          rfl
        subst eT
        clear HE HP
        go_wp2
        go_ret
        exact ⟨rfl, hB⟩

end Go.Proofs.YtlpbffcijhgelaaDoor
