/-
  The document's worth, group, value, room.
  The document's Begins4, Whole4.
  The document's Whole4 and Parse4.
  The document's Parse4.
-/
import Derived.Test.YtaebknkjhhcneaaGreatDoorFold14
import Derived.Test.YtaebknkjhhcneaaGreatDoorFold08
namespace Go.Proofs.YtaebknkjhhcneaaGreatDoor
set_option linter.unusedVariables false
set_option linter.unusedSimpArgs false
open Go Go.RowKit

set_option maxHeartbeats 1000000 in
theorem worth_ref (c : Int) (w : World) (h : 0 ≤ c ∧ c < 256) : Calls Tryz.prog 184 #[.int .u8 c] w fun e w' => e = .returned (.int .i64 (worthV c)) ∧ w' = w := by
  have hdc := digit_ref c w h
  by_cases h1 : 48 ≤ c ∧ c ≤ 57
  · have e1 : digB c = true := by simpa [digB] using h1
    have e2 : worthV c = c - 48 := if_pos h1
    rw [e1] at hdc
    rw [e2]
    have HD : Hid _ := hdc
    clear hdc e1 e2
    go_enter Tryz.func184, Tryz.ntmps184
    go_wp2_with fail
    refine Calls.mono HD.out ?_
    rintro e w' ⟨rfl, rfl⟩
    go_wp2
    go_ret
    exact ⟨rfl, rfl⟩
  · have e1 : digB c = false := by
      rw [Bool.eq_false_iff]
      intro hh
      exact h1 (digB_bounds hh)
    rw [e1] at hdc
    by_cases h2 : 97 ≤ c ∧ c ≤ 102
    · have e2 : worthV c = c - 97 + 10 := by unfold worthV; rw [if_neg h1, if_pos h2]
      rw [e2]
      have HD : Hid _ := hdc
      clear hdc e1 e2
      go_enter Tryz.func184, Tryz.ntmps184
      go_wp2_with fail
      refine Calls.mono HD.out ?_
      rintro e w' ⟨rfl, rfl⟩
      obtain ⟨h21, h22⟩ := h2
      go_wp2
      go_ret
      exact ⟨rfl, rfl⟩
    · by_cases h3 : 65 ≤ c ∧ c ≤ 70
      · have e2 : worthV c = c - 65 + 10 := by unfold worthV; rw [if_neg h1, if_neg h2, if_pos h3]
        rw [e2]
        have HD : Hid _ := hdc
        clear hdc e1 e2
        go_enter Tryz.func184, Tryz.ntmps184
        go_wp2_with fail
        refine Calls.mono HD.out ?_
        rintro e w' ⟨rfl, rfl⟩
        obtain ⟨h31, h32⟩ := h3
        go_wp2
        go_ret
        exact ⟨rfl, rfl⟩
      · have e2 : worthV c = -1 := by unfold worthV; rw [if_neg h1, if_neg h2, if_neg h3]
        rw [e2]
        have HD : Hid _ := hdc
        clear hdc e1 e2
        go_enter Tryz.func184, Tryz.ntmps184
        go_wp2_with fail
        refine Calls.mono HD.out ?_
        rintro e w' ⟨rfl, rfl⟩
        go_wp2
        all_goals first
          | (go_ret; exact ⟨rfl, rfl⟩)
          | (exfalso; omega)

theorem worth_range (c : Int) : -1 ≤ worthV c ∧ worthV c ≤ 15 := by
  unfold worthV
  repeat' split
  all_goals omega

set_option maxHeartbeats 1000000 in
theorem group_ref (s : ByteArray) (w : World) (hs : s.size ≤ 100000000) : Calls Tryz.prog 163 #[.string s] w fun e w' => e = .returned (.bool (grpB (txt s))) ∧ w' = w := by
  have hl := txt_length s
  generalize hR : grpB (txt s) = R
  have HR : Hid _ := hR
  clear hR
  go_enter Tryz.func163, Tryz.ntmps163
  go_wp2
  go_loop [3] (fun i => ∃ k : Nat, k ≤ s.size ∧ i = .int .i64 k ∧ ((txt s).take k).all (fun c => decide (0 ≤ worthV c)) = true) (fun i => s.size - (intOf i).toNat)
  case atStart => exact ⟨0, Nat.zero_le _, rfl, rfl⟩
  case round =>
    obtain ⟨k, hk, rfl, hall⟩ := hrel
    by_cases hlt : k < s.size
    · have hx := txt_at s k hlt
      have hb := byte_at s k hlt
      have hwo := worth_ref _ w hb
      have hwr := worth_range (((s[k]'hlt).toNat : Nat) : Int)
      have HA : Hid _ := all_snoc (p := fun c => decide (0 ≤ worthV c)) hx
      have HX : Hid _ := hx
      have HH : Hid _ := hall
      have HW : Hid _ := hwo
      clear hx hall hwo
      by_cases h0 : worthV (((s[k]'hlt).toNat : Nat) : Int) < 0
      · have eF : R = false := by rw [← HR.out, grpB, all_not HX.out (by simpa using h0)]; rfl
        subst eF
        clear HR
        go_wp2_with fail
        refine Calls.mono HW.out ?_
        rintro e w' ⟨rfl, rfl⟩
        go_wp2
        go_ret
        exact ⟨rfl, rfl⟩
      · go_wp2_with fail
        refine Calls.mono HW.out ?_
        rintro e w' ⟨rfl, rfl⟩
        go_wp2
        refine ⟨⟨k + 1, by omega, by simp, ?_⟩, by simp [intOf]; omega⟩
        rw [HA.out, HH.out, Bool.true_and]
        simpa using h0
    · obtain rfl : k = s.size := by omega
      have ht : (txt s).take s.size = txt s := List.take_of_length_le (by omega)
      rw [ht] at hall
      have eR : R = (decide (1 ≤ s.size) && decide (s.size ≤ 4)) := by rw [← HR.out, grpB, hall, hl]; rfl
      have HE : Hid _ := eR
      clear HR eR hall
      by_cases h1 : 1 ≤ s.size
      · by_cases h4 : s.size ≤ 4
        · have q1 : (1 : Int) ≤ (s.size : Nat) := by omega
          have q2 : ((s.size : Nat) : Int) ≤ 4 := by omega
          go_wp2
          go_ret
          exact ⟨by rw [HE.out, decide_eq_true h1, decide_eq_true h4]; rfl, rfl⟩
        · have q1 : (1 : Int) ≤ (s.size : Nat) := by omega
          have q2 : ¬ ((s.size : Nat) : Int) ≤ 4 := by omega
          go_wp2
          go_ret
          exact ⟨by rw [HE.out, decide_eq_true h1, decide_eq_false h4]; rfl, rfl⟩
      · have q1 : ¬ (1 : Int) ≤ (s.size : Nat) := by omega
        go_wp2
        go_ret
        exact ⟨by rw [HE.out, decide_eq_false h1]; rfl, rfl⟩

theorem valF_snoc (l : List Int) (k : Nat) (x : Int) (h : l[k]? = some x) : valF (l.take (k + 1)) = valF (l.take k) * 16 + worthV x := by
  obtain ⟨hk, rfl⟩ := List.getElem?_eq_some_iff.1 h
  rw [List.take_succ_eq_append_getElem hk, valF, List.foldl_append]
  rfl
theorem pow16_le : ∀ n, n ≤ 4 → (16 : Int) ^ n ≤ 65536 := by decide
theorem valF_range (l : List Int) : ∀ (k : Nat), k ≤ l.length → l.all (fun c => decide (0 ≤ worthV c)) = true → 0 ≤ valF (l.take k) ∧ valF (l.take k) < 16 ^ k
  | 0, _, _ => by simp [valF]
  | k + 1, hk, h => by
    have hx : l[k]? = some (l[k]'(by omega)) := by simp
    have := valF_range l k (by omega) h
    rw [valF_snoc l k _ hx, Int.pow_succ]
    have hw := worth_range (l[k]'(by omega))
    have h0 : 0 ≤ worthV (l[k]'(by omega)) := by
      rw [List.all_eq_true] at h
      simpa using h _ (List.mem_of_getElem? hx)
    omega

set_option maxHeartbeats 1000000 in
theorem value_ref (s : ByteArray) (w : World) (hg : grpB (txt s) = true) : Calls Tryz.prog 165 #[.string s] w fun e w' => e = .returned (.int .i64 (valF (txt s))) ∧ w' = w := by
  have hl := txt_length s
  unfold grpB at hg
  simp only [Bool.and_eq_true, decide_eq_true_eq] at hg
  obtain ⟨hall, _, h4⟩ := hg
  have HALL : Hid _ := hall
  clear hall
  go_enter Tryz.func165, Tryz.ntmps165
  go_wp2
  go_loop [3, 4] (fun n i => ∃ k : Nat, k ≤ s.size ∧ i = .int .i64 k ∧ n = .int .i64 (valF ((txt s).take k))) (fun _ i => s.size - (intOf i).toNat)
  case atStart => exact ⟨0, Nat.zero_le _, rfl, rfl⟩
  case round =>
    obtain ⟨k, hk, rfl, rfl⟩ := hrel
    by_cases hlt : k < s.size
    · have hx := txt_at s k hlt
      have hb := byte_at s k hlt
      have hr := valF_range (txt s) k (by omega) HALL.out
      have hp := pow16_le k (by omega)
      have hwr := worth_range (((s[k]'hlt).toNat : Nat) : Int)
      have HN : Hid _ := valF_snoc (txt s) k _ hx
      have hr1 := hr.1
      have hr2 : valF ((txt s).take k) < 65536 := by omega
      have hwo := worth_ref _ w hb
      have HW : Hid _ := hwo
      clear hr hp hx hwo
      generalize valF ((txt s).take k) = n at *
      generalize worthV (((s[k]'hlt).toNat : Nat) : Int) = x at *
      go_wp2_with fail
      refine Calls.mono HW.out ?_
      rintro e w' ⟨rfl, rfl⟩
      go_wp2
      refine ⟨⟨k + 1, by omega, by simp, ?_⟩, by simp [intOf]; omega⟩
      rw [HN.out]
    · obtain rfl : k = s.size := by omega
      have ht : (txt s).take s.size = txt s := List.take_of_length_le (by omega)
      rw [ht]
      go_wp2
      go_ret
      exact ⟨rfl, rfl⟩

theorem room_ref (L P : Value) (gap : Int) (w : World) (h1 : L.oneCell' = true) (h2 : P.oneCell' = true) (hg : -9223372036854775808 ≤ gap ∧ gap ≤ 9223372036854775807) :
    Calls Tryz.prog 164 #[.agg #[L, .int .i64 gap, P]] w fun e w' => e = .returned (.int .i64 (if 0 ≤ gap then 7 else 8)) ∧ Below w.heap.size w w' := by
  have hB := (Below.refl w.heap.size w).alloc (Nat.le_refl _) (.cells #[L, .int .i64 gap, P] 185)
  go_enter Tryz.func164, Tryz.ntmps164
  by_cases h0 : 0 ≤ gap
  · rw [if_pos h0]
    go_wp2
    go_ret
    exact ⟨rfl, hB⟩
  · rw [if_neg h0]
    go_wp2
    go_ret
    exact ⟨rfl, hB⟩

end Go.Proofs.YtaebknkjhhcneaaGreatDoor

namespace Go.Proofs.YtaebknkjhhcneaaGreatDoor
set_option linter.unusedVariables false
set_option linter.unusedSimpArgs false
open Go Go.RowKit

theorem partsOk_bad (p : List Int) (r : List (List Int)) (h : octB p 255 = false) : partsOk (p :: r) = false := by
  cases r with
  | nil => exact h
  | cons q r => rw [partsOk, h]; rfl
theorem partsOk_empty (r : List (List Int)) (h : r ≠ []) : partsOk ([] :: r) = false := by
  cases r with
  | nil => exact absurd rfl h
  | cons q r => rw [partsOk]; simp
theorem partsOk_on (p : List Int) (r : List (List Int)) (h : octB p 255 = true) (g : r = [] ∨ p ≠ []) : partsOk (p :: r) = partsOk r := by
  cases r with
  | nil => exact h
  | cons q r =>
    rcases g with g | g
    · cases g
    · rw [partsOk, h]
      cases p with
      | nil => exact absurd rfl g
      | cons => rfl

theorem drop_at {α : Type} {l : List α} {k : Nat} {x : α} (h : l[k]? = some x) : l.drop k = x :: l.drop (k + 1) := by
  obtain ⟨hk, rfl⟩ := List.getElem?_eq_some_iff.1 h
  exact List.drop_eq_getElem_cons hk

theorem toList_none (s : ByteArray) (h : s.size = 0) : s.toList.isEmpty = true := by
  rw [Lib.toList_data]
  cases s with
  | mk d =>
    cases d with
    | mk l =>
      cases l with
      | nil => rfl
      | cons => simp [ByteArray.size] at h

set_option maxHeartbeats 2000000 in
theorem begins_ref (s : ByteArray) (w : World) (hs : s.size ≤ 100000) :
    Calls Tryz.prog 166 #[.string s] w fun e w' => e = .returned (.bool (begB (txt s))) ∧ Below w.heap.size w w' := by
  generalize hR : begB (txt s) = R
  have HR : Hid _ := hR
  clear hR
  go_enter Tryz.func166, Tryz.ntmps166
  go_wp2_with fail
  refine (split_ref s 46 w (by decide) hs).mono ?_
  rintro e w1 ⟨v, bs, rfl, hown, hbs, hB⟩
  obtain ⟨a, cap, rfl, hlen, hz⟩ := own_form hown
  have hll : (splitA 46 [] (txt s)).length = bs.length := by rw [← hbs, List.length_map]
  have hsl := splitA_length 46 (txt s) []
  rw [txt_length, hll] at hsl
  clear hown
  by_cases h4 : 4 < bs.length
  · have eR : R = false := by
      rw [← HR.out, begB, hll, decide_eq_false (by omega)]
      rfl
    subst eR
    clear HR
    have q0 : (4 : Int) < (bs.length : Nat) := by omega
    go_wp2
    go_ret
    exact ⟨rfl, hB⟩
  · have eR : R = partsOk (bs.map txt) := by
      rw [← HR.out, begB, hll, decide_eq_true (by omega), ← hbs]
      rfl
    have q0 : ¬ ((4 : Int) < (bs.length : Nat)) := by omega
    have HE : Hid _ := eR
    clear HR eR hll hsl
    have HBS : Hid _ := hbs
    clear hbs
    go_wp2
    go_loop [4] (fun i => ∃ k : Nat, k ≤ bs.length ∧ i = .int .i64 k ∧ partsOk (bs.map txt) = partsOk ((bs.map txt).drop k)) (fun i => bs.length - (intOf i).toNat)
    case atStart => exact ⟨0, Nat.zero_le _, rfl, rfl⟩
    case round =>
      obtain ⟨k, hk, rfl, hpk⟩ := hrel
      have HP : Hid _ := hpk
      clear hpk
      by_cases hlt : k < bs.length
      · rcases hz with hz | ⟨g, rfl, _, _, hc⟩
        · omega
        have hb : bs[k]? = some bs[k] := by simp [hlt]
        have hck := hc k (.string bs[k]) (by rw [strsV, List.getElem?_map, hb]; rfl)
        have hd : (bs.map txt).drop k = txt bs[k] :: (bs.map txt).drop (k + 1) := drop_at (by rw [List.getElem?_map, hb]; rfl)
        have HD : Hid _ := hd
        have hrest : ((bs.map txt).drop (k + 1) = []) ↔ k + 1 = bs.length := by
          rw [List.drop_eq_nil_iff, List.length_map]; omega
        have HRE : Hid _ := hrest
        have hbs0 : bs[k].size = 0 → k < bs.length := fun _ => hlt
        clear hc hd hb hrest hbs0
        generalize bs[k] = b at *
        have hoc := octet_ref b 255 w1 (by decide)
        by_cases ho : octB (txt b) 255 = true
        · rw [ho] at hoc
          have HOC : Hid _ := hoc
          clear hoc
          by_cases hlast : k + 1 = bs.length
          · have hq : ¬ ((k : Int) < (bs.length : Nat) - 1) := by omega
            go_wp2_with fail
            refine Calls.mono HOC.out ?_
            rintro e w2 ⟨rfl, rfl⟩
            go_wp2
            refine ⟨⟨k + 1, by omega, by simp, ?_⟩, by simp [intOf]; omega⟩
            rw [HP.out, HD.out, partsOk_on _ _ ho (.inl (HRE.out.2 hlast))]
          · have hq : ((k : Int) < (bs.length : Nat) - 1) := by omega
            by_cases he : b.size = 0
            · have hse := toList_none b he
              have eF : R = false := by
                rw [HE.out, HP.out, HD.out, (txt_empty b).2 he]
                exact partsOk_empty _ (fun h => hlast (HRE.out.1 h))
              subst eF
              clear HE
              go_wp2_with fail
              refine Calls.mono HOC.out ?_
              rintro e w2 ⟨rfl, rfl⟩
              go_wp2
              go_ret
              exact ⟨rfl, hB⟩
            · have hse := toList_empty b he
              go_wp2_with fail
              refine Calls.mono HOC.out ?_
              rintro e w2 ⟨rfl, rfl⟩
              go_wp2
              refine ⟨⟨k + 1, by omega, by simp, ?_⟩, by simp [intOf]; omega⟩
              rw [HP.out, HD.out, partsOk_on _ _ ho (.inr (fun h => he ((txt_empty b).1 h)))]
        · have hof : octB (txt b) 255 = false := by simpa using ho
          rw [hof] at hoc
          have HOC : Hid _ := hoc
          clear hoc
          have eF : R = false := by
            rw [HE.out, HP.out, HD.out]
            exact partsOk_bad _ _ hof
          subst eF
          clear HE
          go_wp2_with fail
          refine Calls.mono HOC.out ?_
          rintro e w2 ⟨rfl, rfl⟩
          go_wp2
          go_ret
          exact ⟨rfl, hB⟩
      · obtain rfl : k = bs.length := by omega
        have eT : R = true := by
          rw [HE.out, HP.out, List.drop_eq_nil_of_le (by rw [List.length_map]; exact Nat.le_refl _)]
          rfl
        subst eT
        clear HE HP
        go_wp2
        go_ret
        exact ⟨rfl, hB⟩

end Go.Proofs.YtaebknkjhhcneaaGreatDoor

namespace Go.Proofs.YtaebknkjhhcneaaGreatDoor
set_option linter.unusedVariables false
set_option linter.unusedSimpArgs false
open Go Go.RowKit

set_option maxHeartbeats 2000000 in
theorem whole_ref (s : ByteArray) (w : World) (hs : s.size ≤ 100000) :
    Calls Tryz.prog 167 #[.string s] w fun e w' => e = .returned (.bool (whoB (txt s))) ∧ Below w.heap.size w w' := by
  generalize hR : whoB (txt s) = R
  have HR : Hid _ := hR
  clear hR
  go_enter Tryz.func167, Tryz.ntmps167
  go_wp2_with fail
  refine (split_ref s 46 w (by decide) hs).mono ?_
  rintro e w1 ⟨v, bs, rfl, hown, hbs, hB⟩
  obtain ⟨a, cap, rfl, hlen, hz⟩ := own_form hown
  have hsl := splitA_length 46 (txt s) []
  rw [txt_length] at hsl
  have HBS : Hid _ := hbs
  have hR2 : R = (begB (txt s) && (decide (bs.length = 4) && !((bs.map txt).getD 3 []).isEmpty)) := by
    rw [← HR.out, whoB, ← hbs, List.length_map]
  have HR2 : Hid _ := hR2
  have hbl : bs.length ≤ 100001 := by
    have := congrArg List.length hbs
    rw [List.length_map] at this
    omega
  clear hown hbs HR hR2
  go_wp2_with fail
  refine (begins_ref s w1 hs).mono ?_
  rintro e w2 ⟨rfl, hB2⟩
  have hB3 : Below w.heap.size w w2 := hB.trans (hB2.mono hB.size)
  cases hbg : begB (txt s) with
  | false =>
    have eR : R = false := by rw [HR2.out, hbg]; rfl
    subst eR
    clear HR2
    go_wp2
    go_ret
    exact ⟨rfl, hB3⟩
  | true =>
    by_cases h4 : bs.length = 4
    · rcases hz with hz | ⟨g, rfl, _, hg, hc⟩
      · omega
      have hb : bs[3]? = some bs[3] := by simp [h4]
      have hck := (hB2.cell (p := ⟨g, 3, none⟩) hg).trans (hc 3 (.string bs[3]) (by rw [strsV, List.getElem?_map, hb]; rfl))
      have hg3 : (bs.map txt).getD 3 [] = txt bs[3] := by simp [h4]
      have eR : R = !(txt bs[3]).isEmpty := by rw [HR2.out, hbg, decide_eq_true h4, hg3]; rfl
      have HE : Hid _ := eR
      have q0 : ((bs.length : Int) == 4) = true := by simp; omega
      clear hc hb hg3 eR HR2
      generalize bs[3] = b at *
      by_cases he : b.size = 0
      · have hse := toList_none b he
        have eF : R = false := by rw [HE.out, (txt_empty b).2 he]; rfl
        subst eF
        clear HE
        go_wp2
        go_ret
        exact ⟨rfl, hB3⟩
      · have hse := toList_empty b he
        have eF : R = true := by
          rw [HE.out]
          cases ht : txt b with
          | nil => exact absurd ((txt_empty b).1 ht) he
          | cons => rfl
        subst eF
        clear HE
        go_wp2
        go_ret
        exact ⟨rfl, hB3⟩
    · have eR : R = false := by rw [HR2.out, decide_eq_false h4]; simp
      have q0 : ((bs.length : Int) == 4) = false := by simp; omega
      subst eR
      clear HR2
      go_wp2
      go_ret
      exact ⟨rfl, hB3⟩

theorem partsOk_each : ∀ (ps : List (List Int)), partsOk ps = true → ∀ p ∈ ps, octB p 255 = true
  | [], _, p, hp => by cases hp
  | [q], h, p, hp => by
    rcases List.mem_cons.1 hp with rfl | hp
    · exact h
    · cases hp
  | q :: r :: t, h, p, hp => by
    rw [partsOk] at h
    simp only [Bool.and_eq_true] at h
    rcases List.mem_cons.1 hp with rfl | hp
    · exact h.1.1
    · exact partsOk_each (r :: t) h.2 p hp

theorem octB_good {p : List Int} {most : Int} (h : octB p most = true) (hm : 0 ≤ most) : p.all digB = true ∧ p.length ≤ 3 ∧ 0 ≤ numF 0 p ∧ numF 0 p ≤ most := by
  cases p with
  | nil => exact ⟨rfl, by simp, by simp [numF], by simpa [numF] using hm⟩
  | cons x l =>
    rw [octB_form _ _ (by simp)] at h
    simp only [Bool.and_eq_true, Bool.not_eq_true', Bool.or_eq_false_iff, decide_eq_true_eq, decide_eq_false_iff_not] at h
    exact ⟨h.2.1, by omega, (numF_range _ 0 (by decide) h.2.1).1, h.2.2⟩

theorem whoB_parts {l : List Int} (h : whoB l = true) : (splitA 46 [] l).length = 4 ∧ ∀ p ∈ splitA 46 [] l, octB p 255 = true := by
  unfold whoB begB at h
  simp only [Bool.and_eq_true, decide_eq_true_eq] at h
  exact ⟨h.2.1, partsOk_each _ h.1.2⟩

theorem begN_le (l : List Int) : ∀ f n, n ≤ begN l f n
  | 0, n => Nat.le_refl _
  | f + 1, n => by
    unfold begN
    split
    · exact Nat.le_of_succ_le (begN_le l f (n + 1))
    · exact Nat.le_refl _

end Go.Proofs.YtaebknkjhhcneaaGreatDoor

namespace Go.Proofs.YtaebknkjhhcneaaGreatDoor
set_option linter.unusedVariables false
set_option linter.unusedSimpArgs false
open Go Go.RowKit

abbrev zero4L : List Value := [.int .u8 0, .int .u8 0, .int .u8 0, .int .u8 0]

/-- An address that a parser answers, the place of its fault, and its error. -/
def Par4 (r : List Int × Int × Int) : Value := .tuple #[.agg (b8 r.1).toArray, .int .i64 r.2.1, .int .i64 r.2.2]

def Par4Post (s : ByteArray) (w : World) (e : Ending) (w' : World) : Prop := e = .returned (Par4 (rparse4 (txt s))) ∧ Below w.heap.size w w'

/-- What four parts have become of, the first k of them. -/
def numK (ps : List (List Int)) (k : Nat) : List Int := (ps.map (numF 0)).take k ++ List.replicate (4 - k) 0

theorem numK_next (ps : List (List Int)) (k : Nat) (p : List Int) (h4 : ps.length = 4) (h : ps[k]? = some p) : (numK ps k).set k (numF 0 p) = numK ps (k + 1) := by
  obtain ⟨hk, rfl⟩ := List.getElem?_eq_some_iff.1 h
  match ps, h4, k, hk with
  | [a, b, c, d], _, 0, _ => rfl
  | [a, b, c, d], _, 1, _ => rfl
  | [a, b, c, d], _, 2, _ => rfl
  | [a, b, c, d], _, 3, _ => rfl
theorem numK_length (ps : List (List Int)) (k : Nat) (h4 : ps.length = 4) (hk : k ≤ 4) : (numK ps k).length = 4 := by
  simp [numK, h4]
  omega
theorem numK_all (ps : List (List Int)) (h4 : ps.length = 4) : numK ps 4 = ps.map (numF 0) := by
  match ps, h4 with
  | [a, b, c, d], _ => rfl

set_option maxHeartbeats 4000000 in
set_option maxRecDepth 100000 in
theorem Parse4_ref (s : ByteArray) (w : World) (hs : s.size ≤ 99999) :
    Calls Tryz.prog 168 #[.string s] w fun e w' => Par4Post s w e w' := by
  have hl := txt_length s
  generalize hQ : (fun e w' => Par4Post s w e w') = Q
  have HQ : Hid _ := hQ
  clear hQ
  go_enter Tryz.func168, Tryz.ntmps168
  go_wp2_with fail
  have hb0 := blk_new w (.cells zero4L.toArray 61)
  have hB0 := (Below.refl w.heap.size w).alloc (Nat.le_refl _) (.cells zero4L.toArray 61)
  have hz0 : (w.alloc (.cells zero4L.toArray 61)).heap.size = w.heap.size + 1 := by simp
  generalize hW : w.alloc (.cells zero4L.toArray 61) = W0 at *
  clear hW
  go_loopw [5] (fun i wr => ∃ k : Nat, k ≤ s.size ∧ i = .int .i64 k ∧ Below W0.heap.size W0 wr ∧ begN (txt s) s.size 0 = begN (txt s) (s.size - k) k) (fun i _ => s.size - (intOf i).toNat)
  case atStart => exact ⟨0, Nat.zero_le _, rfl, Below.refl _ _, rfl⟩
  case round =>
    obtain ⟨k, hk, rfl, hB, hN⟩ := hrel
    have HN : Hid _ := hN
    clear hN
    by_cases hlt : k < s.size
    · have hbg := begins_ref (s.extract 0 (k + 1)) wr (by rw [ByteArray.size_extract]; omega)
      rw [txt_extract, List.drop_zero, Nat.sub_zero] at hbg
      have hstep : begN (txt s) (s.size - k) k = if begB ((txt s).take (k + 1)) then begN (txt s) (s.size - (k + 1)) (k + 1) else k := by
        have e : s.size - k = (s.size - (k + 1)) + 1 := by omega
        rw [e, begN]
      cases hbb : begB ((txt s).take (k + 1)) with
      | true =>
        rw [hbb] at hbg
        have HS : Hid _ := hstep.trans (by rw [hbb, if_pos rfl] : _ = begN (txt s) (s.size - (k + 1)) (k + 1))
        have HBG : Hid _ := hbg
        clear hbg hstep hbb
        go_wp2_with fail
        refine Calls.mono HBG.out ?_
        rintro e w2 ⟨rfl, hB2⟩
        go_wp2
        exact ⟨⟨k + 1, by omega, by simp, hB.trans (hB2.mono hB.size), HN.out.trans HS.out⟩, by simp [intOf]; omega⟩
      | false =>
        rw [hbb] at hbg
        have hne : rparse4 (txt s) = ([0, 0, 0, 0], (k : Int), 20) := by
          have e : begN (txt s) (txt s).length 0 = k := by
            rw [hl, HN.out, hstep, hbb]
            rfl
          unfold rparse4
          rw [e]
          exact if_pos (.inl (by omega))
        have HNE : Hid _ := hne
        have HBG : Hid _ := hbg
        clear hbg hstep hbb hne
        go_wp2_with fail
        refine Calls.mono HBG.out ?_
        rintro e w2 ⟨rfl, hB2⟩
        have hbx := (hB2.block _ (Nat.lt_of_lt_of_le (by omega) hB.size)).trans ((hB.block w.heap.size (by omega)).trans hb0)
        have hBx : Below w.heap.size w w2 := (hB0.trans (hB.mono (by omega))).trans (hB2.mono (Nat.le_trans hB0.size hB.size))
        obtain ⟨wE, hst, bE, hon⟩ := box_store Tryz.sizeOf61 hbx rfl zero4L rfl (by simp [Value.oneCell'])
        have HST : Hid _ := hst
        have BE : Hid _ := bE
        have HBE : Hid (Below w.heap.size w wE) := hBx.trans (hon.below (Nat.le_refl _))
        clear hst bE hon hbx hBx
        go_wp2_with ((with_reducible show wpList _ _ _ _ _ _); refine arm_store rfl (.tmp 2) (.tmp 31) 61 rfl rfl rfl HST.out ?_)
        refine bodyPost_ret (res3c Tryz.results168 rfl (agg_loadVar Tryz.isAgg61 Tryz.sizeOf61 rfl (CellsAt.of_blk BE.out))) rfl ?_
        rw [← HQ.out]
        refine ⟨?_, HBE.out⟩
        rw [HNE.out]
        rfl
    · obtain rfl : k = s.size := by omega
      have hN2 : begN (txt s) (txt s).length 0 = s.size := by
        rw [hl, HN.out, Nat.sub_self]
        rfl
      have hwh := whole_ref s wr (by omega)
      cases hwb : whoB (txt s) with
      | false =>
        rw [hwb] at hwh
        have hne : rparse4 (txt s) = ([0, 0, 0, 0], (s.size : Int), 20) := by
          unfold rparse4
          rw [hN2]
          exact if_pos (.inr hwb)
        have HNE : Hid _ := hne
        have HWH : Hid _ := hwh
        clear hwh hwb hne HN hN2
        go_wp2_with fail
        refine Calls.mono HWH.out ?_
        rintro e w2 ⟨rfl, hB2⟩
        have hbx := (hB2.block _ (Nat.lt_of_lt_of_le (by omega) hB.size)).trans ((hB.block w.heap.size (by omega)).trans hb0)
        have hBx : Below w.heap.size w w2 := (hB0.trans (hB.mono (by omega))).trans (hB2.mono (Nat.le_trans hB0.size hB.size))
        obtain ⟨wE, hst, bE, hon⟩ := box_store Tryz.sizeOf61 hbx rfl zero4L rfl (by simp [Value.oneCell'])
        have HST : Hid _ := hst
        have BE : Hid _ := bE
        have HBE : Hid (Below w.heap.size w wE) := hBx.trans (hon.below (Nat.le_refl _))
        clear hst bE hon hbx hBx
        go_wp2_with ((with_reducible show wpList _ _ _ _ _ _); refine arm_store rfl (.tmp 2) (.tmp 31) 61 rfl rfl rfl HST.out ?_)
        refine bodyPost_ret (res3c Tryz.results168 rfl (agg_loadVar Tryz.isAgg61 Tryz.sizeOf61 rfl (CellsAt.of_blk BE.out))) rfl ?_
        rw [← HQ.out]
        refine ⟨?_, HBE.out⟩
        rw [HNE.out]
        rfl
      | true =>
        rw [hwb] at hwh
        have hne : rparse4 (txt s) = ((splitA 46 [] (txt s)).map (numF 0), 0, 0) := by
          unfold rparse4
          rw [hN2]
          exact if_neg (by simp [hwb, hl])
        have HNE : Hid _ := hne
        have HWH : Hid _ := hwh
        have hpp := whoB_parts hwb
        have HPP : Hid _ := hpp
        clear hwh hwb hne HN hN2 hpp
        go_wp2_with fail
        refine Calls.mono HWH.out ?_
        rintro e w2 ⟨rfl, hB2⟩
        have hbx := (hB2.block _ (Nat.lt_of_lt_of_le (by omega) hB.size)).trans ((hB.block w.heap.size (by omega)).trans hb0)
        have hBx : Below w.heap.size w w2 := (hB0.trans (hB.mono (by omega))).trans (hB2.mono (Nat.le_trans hB0.size hB.size))
        have hlt2 : w.heap.size < w2.heap.size := Nat.lt_of_lt_of_le (by omega) (Nat.le_trans hB.size hB2.size)
        go_wp2_with fail
        refine (split_ref s 46 w2 (by decide) (by omega)).mono ?_
        rintro e w3 ⟨v, bs, rfl, hown, hbs, hB3⟩
        obtain ⟨a, cap, rfl, hlen, hz⟩ := own_form hown
        have h4 : bs.length = 4 := by
          have := congrArg List.length hbs
          rw [List.length_map, HPP.out.1] at this
          exact this
        have hbx := (hB3.block _ hlt2).trans hbx
        have hBx := hBx.trans (hB3.mono hBx.size)
        have HBS : Hid _ := hbs
        clear hown hbs
        rcases hz with hz | ⟨g, rfl, hgb, hg, hc⟩
        · omega
        obtain ⟨w4, hst, b4, hB4⟩ := box_new Tryz.sizeOf61 w3 zero4L rfl zero4L rfl (by simp [Value.oneCell'])
        have HST : Hid _ := hst
        clear hst
        go_wp2_with ((with_reducible show wpList _ _ _ _ _ _); refine arm_store rfl (.tmp 7) (.tmp 35) 61 rfl rfl rfl HST.out ?_)
        have hps : (bs.map txt).length = 4 := by rw [List.length_map]; exact h4
        have hne : w.heap.size ≠ w3.heap.size := by have := hB3.size; omega
        have hlt3 : w.heap.size < w3.heap.size := by have := hB3.size; omega
        go_loopw [8] (fun i wr => ∃ k : Nat, k ≤ 4 ∧ i = .int .i64 k ∧ wr.heap[w3.heap.size]? = some (.cells (b8 (numK (bs.map txt) k)).toArray 61) ∧ Only w3.heap.size w4 wr) (fun i _ => 4 - (intOf i).toNat)
        case atStart => exact ⟨0, Nat.zero_le _, rfl, b4, Only.refl _ _⟩
        case round =>
          clear hB
          obtain ⟨k, hk, rfl, hbk, hon⟩ := hrel
          by_cases hlt4 : k < 4
          · have hb : bs[k]? = some bs[k] := by simp [h4, hlt4]
            have hcel := ((hon.below (Nat.le_refl _)).cell (p := ⟨g, k, none⟩) hg).trans ((hB4.cell (p := ⟨g, k, none⟩) hg).trans (hc k (.string bs[k]) (by rw [strsV, List.getElem?_map, hb]; rfl)))
            have hpk : (bs.map txt)[k]? = some (txt bs[k]) := by rw [List.getElem?_map, hb]; rfl
            have hgood := octB_good (HPP.out.2 (txt bs[k]) (by rw [← HBS.out]; exact List.mem_of_getElem? hpk)) (by decide)
            have HNX : Hid _ := numK_next (bs.map txt) k (txt bs[k]) hps hpk
            have hlen4 := numK_length (bs.map txt) k hps hk
            clear hb hpk
            generalize bs[k] = b at *
            have hnum := number_ref b wr hgood.1 (by have := hgood.2.1; rw [txt_length] at this; omega)
            have hr := hgood.2.2
            have HNU : Hid _ := hnum
            clear hgood hnum
            generalize numF 0 (txt b) = n at *
            have hfz := blk_open hbk k
            have hcl : wr.cell? ⟨w3.heap.size, k, none⟩ = some ((b8 (numK (bs.map txt) k))[k]'(by rw [b8_length]; omega)) := blk_cell hbk (List.getElem?_eq_getElem _)
            have hset := blk_set hbk k (.int .u8 n)
            rw [b8_set, HNX.out] at hset
            have hon' := hon.set k (.int .u8 n)
            generalize (b8 (numK (bs.map txt) k))[k]'(by rw [b8_length]; omega) = old at *
            have HSE : Hid _ := hset
            have HON : Hid _ := hon'
            clear hset hon' hon hbk
            have hwr : IntKind.u8.wrap n = n := by unfold IntKind.wrap; simp [IntKind.signed, IntKind.bits]; omega
            go_wp2_with fail
            refine Calls.mono HNU.out ?_
            rintro e w5 ⟨rfl, rfl⟩
            go_wp2
            exact ⟨⟨k + 1, by omega, by simp, HSE.out, HON.out⟩, by simp [intOf]; omega⟩
          · obtain rfl : k = 4 := by omega
            rw [numK_all _ hps, HBS.out] at hbk
            have hl4 := HPP.out.1
            have hbR := ((hon.below (B := w3.heap.size) (Nat.le_refl _)).block _ hlt3).trans ((hB4.block _ hlt3).trans hbx)
            have hBR : Below w.heap.size w wr := (hBx.trans (hB4.mono hBx.size)).trans (hon.below (by omega))
            have hL := agg_load (t := 61) Tryz.isAgg61 Tryz.sizeOf61 (vs := b8 ((splitA 46 [] (txt s)).map (numF 0))) (by rw [b8_length, List.length_map]; exact hl4) (CellsAt.of_blk hbk)
            obtain ⟨wE, hst, bE, honE⟩ := box_store Tryz.sizeOf61 hbR rfl (b8 ((splitA 46 [] (txt s)).map (numF 0))) (by rw [b8_length, List.length_map]; exact hl4) (b8_one _)
            have hlv := agg_loadVar (t := 61) Tryz.isAgg61 Tryz.sizeOf61 (vs := b8 ((splitA 46 [] (txt s)).map (numF 0))) (by rw [b8_length, List.length_map]; exact hl4) (CellsAt.of_blk bE)
            have HBE : Hid (Below w.heap.size w wE) := hBR.trans (honE.below (Nat.le_refl _))
            have HL : Hid _ := hL
            have HSQ : Hid _ := hst
            have HLV : Hid _ := hlv
            clear hL hst hlv bE honE hbR hBR hbk hon
            go_wp2_with first
              | ((with_reducible show wpList _ _ _ _ _ _); refine arm_load rfl (.tmp 7) 61 rfl rfl HL.out ?_)
              | ((with_reducible show wpList _ _ _ _ _ _); refine arm_store rfl (.tmp 2) (.tmp 48) 61 rfl rfl rfl HSQ.out ?_)
            refine bodyPost_ret (res3c Tryz.results168 rfl HLV.out) rfl ?_
            rw [← HQ.out]
            refine ⟨?_, HBE.out⟩
            rw [HNE.out]
            rfl

end Go.Proofs.YtaebknkjhhcneaaGreatDoor
