/-
  The document's digit, octet, number.
-/
import Derived.Test.YtlpbffcijhgelaaDoorQa0
import Derived.Test.YtlpbffcijhgelaaDoorAddrOwn
namespace Go.Proofs.YtlpbffcijhgelaaDoor
set_option linter.unusedVariables false
set_option linter.unusedSimpArgs false
open Go Go.RowKit

theorem digit_ref (c : Int) (w : World) (h : 0 ≤ c ∧ c < 256) : Calls Tryd.prog 84 #[.int .u8 c] w fun e w' => e = .returned (.bool (digB c)) ∧ w' = w := by
  go_enter Tryd.func84, Tryd.ntmps84
  by_cases h1 : 48 ≤ c
  · by_cases h2 : c ≤ 57
    · go_wp2
      go_ret
      simp [digB, h1, h2]
    · go_wp2
      go_ret
      simp [digB, h1, h2]
  · go_wp2
    go_ret
    refine ⟨?_, rfl⟩
    have : decide (48 ≤ c) = false := by simpa using h1
    simp only [digB, this, Bool.false_and]
    rfl

theorem digB_bounds {c : Int} (h : digB c = true) : 48 ≤ c ∧ c ≤ 57 := by simpa [digB] using h

theorem all_snoc {l : List Int} {k : Nat} {x : Int} {p : Int → Bool} (hx : l[k]? = some x) : (l.take (k + 1)).all p = ((l.take k).all p && p x) := by
  obtain ⟨hk, rfl⟩ := List.getElem?_eq_some_iff.1 hx
  rw [List.take_succ_eq_append_getElem hk, List.all_append]
  simp
theorem all_not {l : List Int} {k : Nat} {x : Int} {p : Int → Bool} (hx : l[k]? = some x) (h : p x = false) : l.all p = false := by
  obtain ⟨hk, rfl⟩ := List.getElem?_eq_some_iff.1 hx
  rw [Bool.eq_false_iff]
  intro ha
  rw [List.all_eq_true] at ha
  rw [ha _ (List.getElem_mem hk)] at h
  cases h

theorem pow10_le : ∀ n, n ≤ 17 → (10 : Int) ^ n ≤ 100000000000000000 := by decide

theorem byte_at (s : ByteArray) (k : Nat) (h : k < s.size) : 0 ≤ (((s[k]'h).toNat : Nat) : Int) ∧ (((s[k]'h).toNat : Nat) : Int) < 256 := by
  have := (s[k]'h).toNat_lt
  omega

set_option maxHeartbeats 1000000 in
theorem number_ref (s : ByteArray) (w : World) (hd : (txt s).all digB = true) (hs : s.size ≤ 17) : Calls Tryd.prog 53 #[.string s] w fun e w' => e = .returned (.int .i64 (numF 0 (txt s))) ∧ w' = w := by
  have hl := txt_length s
  go_enter Tryd.func53, Tryd.ntmps53
  go_wp2
  go_loop [3, 4] (fun n i => ∃ k : Nat, k ≤ s.size ∧ i = .int .i64 k ∧ n = .int .i64 (numF 0 ((txt s).take k))) (fun _ i => s.size - (intOf i).toNat)
  case atStart => exact ⟨0, Nat.zero_le _, rfl, rfl⟩
  case round =>
    obtain ⟨k, hk, rfl, rfl⟩ := hrel
    by_cases hlt : k < s.size
    · have hx := txt_at s k hlt
      have hb := byte_at s k hlt
      have hr := numF_range ((txt s).take k) 0 (by decide) (by rw [List.all_eq_true] at hd ⊢; exact fun z hz => hd z (List.mem_of_mem_take hz))
      have hp := pow10_le ((txt s).take k).length (by rw [List.length_take]; omega)
      have hdg : digB (((s[k]'hlt).toNat : Nat) : Int) = true := by
        rw [List.all_eq_true] at hd
        exact hd _ (List.mem_of_getElem? hx)
      have hdg := digB_bounds hdg
      have HN : Hid _ := numF_snoc (txt s) k _ hx
      have hr2 : numF 0 ((txt s).take k) < 100000000000000000 := by
        have h2 := hr.2
        rw [Int.zero_add, Int.one_mul] at h2
        omega
      have hr1 := hr.1
      clear hr hp hx hd
      generalize numF 0 ((txt s).take k) = n at *
      go_wp2
      refine ⟨⟨k + 1, by omega, by simp, ?_⟩, by simp [intOf]; omega⟩
      rw [HN.out]
    · obtain rfl : k = s.size := by omega
      have ht : (txt s).take s.size = txt s := List.take_of_length_le (by omega)
      rw [ht]
      go_wp2
      go_ret
      exact ⟨rfl, rfl⟩

theorem toList_empty (s : ByteArray) (h : ¬ s.size = 0) : s.toList.isEmpty = false := by
  rw [Lib.toList_data]
  cases s with
  | mk d =>
    cases d with
    | mk l =>
      cases l with
      | nil => exact absurd rfl h
      | cons => rfl

/-- What octet asks ahead of its loop. -/
theorem octB_form (l : List Int) (most : Int) (h : l ≠ []) : octB l most = (!((l.head? == some 48 && decide (1 < l.length)) || decide (3 < l.length)) && (l.all digB && decide (numF 0 l ≤ most))) := by
  cases l with
  | nil => exact absurd rfl h
  | cons x l => rfl

set_option maxHeartbeats 2000000 in
theorem octet_ref (s : ByteArray) (most : Int) (w : World) (hm : 0 ≤ most ∧ most ≤ 1000000) : Calls Tryd.prog 72 #[.string s, .int .i64 most] w fun e w' => e = .returned (.bool (octB (txt s) most)) ∧ w' = w := by
  have hl := txt_length s
  by_cases h0 : s.size = 0
  · have e0 : txt s = [] := (txt_empty s).2 h0
    have e1 : octB (txt s) most = true := by rw [e0]; rfl
    rw [e1]
    have e2 : s = ⟨#[]⟩ := by
      cases s with
      | mk d => simp only [ByteArray.size] at h0; simp [Array.size_eq_zero_iff.1 h0]
    subst e2
    go_enter Tryd.func72, Tryd.ntmps72
    go_wp2
    go_ret
    exact ⟨rfl, rfl⟩
  · have hne : txt s ≠ [] := fun e => h0 ((txt_empty s).1 e)
    rw [octB_form _ _ hne]
    have hse := toList_empty s h0
    generalize hR : (!(((txt s).head? == some 48 && decide (1 < (txt s).length)) || decide (3 < (txt s).length)) && ((txt s).all digB && decide (numF 0 (txt s) ≤ most))) = R
    have HR : Hid _ := hR
    clear hR
    have hz : 0 < s.size := by omega
    have hh : (txt s).head? = some (((s[0]'hz).toNat : Nat) : Int) := by rw [List.head?_eq_getElem?]; exact txt_at s 0 hz
    have b0 := byte_at s 0 hz
    rw [hl, hh] at HR
    by_cases hlen : 3 < s.size
    · have eR : R = false := by rw [← HR.out]; simp [hlen]
      subst eR
      clear HR
      by_cases h48 : (((s[0]'hz).toNat : Nat) : Int) = 48
      · have q0 : ((((s[0]'hz).toNat : Nat) : Int) == 48) = true := by simpa using h48
        have q1 : (1 : Int) < (s.size : Nat) := by omega
        go_enter Tryd.func72, Tryd.ntmps72
        go_wp2
        go_ret
        exact ⟨rfl, rfl⟩
      · have q0 : ((((s[0]'hz).toNat : Nat) : Int) == 48) = false := by simpa using h48
        have q1 : (3 : Int) < (s.size : Nat) := by omega
        go_enter Tryd.func72, Tryd.ntmps72
        go_wp2
        go_ret
        exact ⟨rfl, rfl⟩
    · have hrest : ∀ (b : Bool), (((((s[0]'hz).toNat : Nat) : Int) == 48) && decide (1 < s.size)) = b → b = false → R = ((txt s).all digB && decide (numF 0 (txt s) ≤ most)) := by
        intro b hb hb'
        rw [← HR.out]
        subst hb'
        simp only [Option.some_beq_some, hb, Bool.false_or, decide_eq_false hlen, Bool.not_false, Bool.true_and]
      by_cases hbad : (((s[0]'hz).toNat : Nat) : Int) = 48 ∧ 1 < s.size
      · have eR : R = false := by
          rw [← HR.out, hbad.1]
          simp [hbad.2]
        subst eR
        clear HR hrest
        have q0 : ((((s[0]'hz).toNat : Nat) : Int) == 48) = true := by simpa using hbad.1
        have q1 : (1 : Int) < (s.size : Nat) := by omega
        go_enter Tryd.func72, Tryd.ntmps72
        go_wp2
        go_ret
        exact ⟨rfl, rfl⟩
      · have eR : R = ((txt s).all digB && decide (numF 0 (txt s) ≤ most)) := hrest _ rfl (by
          by_cases c : (((s[0]'hz).toNat : Nat) : Int) = 48
          · have : ¬ 1 < s.size := fun h => hbad ⟨c, h⟩
            simp [this]
          · simp [c])
        have q2 : ¬ ((3 : Int) < (s.size : Nat)) := by omega
        have HE : Hid _ := eR
        have hq : ((((s[0]'hz).toNat : Nat) : Int) == 48) = false ∨ (((((s[0]'hz).toNat : Nat) : Int) == 48) = true ∧ ¬ ((1 : Int) < (s.size : Nat))) := by
          by_cases c : (((s[0]'hz).toNat : Nat) : Int) = 48
          · exact .inr ⟨by simpa using c, fun h => hbad ⟨c, by omega⟩⟩
          · exact .inl (by simpa using c)
        clear HR hrest eR hbad
        rcases hq with q0 | ⟨q0, q1⟩
        all_goals
          go_enter Tryd.func72, Tryd.ntmps72
          go_wp2
          go_loop [5, 6] (fun n i => ∃ k : Nat, k ≤ s.size ∧ i = .int .i64 k ∧ n = .int .i64 (numF 0 ((txt s).take k)) ∧ ((txt s).take k).all digB = true) (fun _ i => s.size - (intOf i).toNat)
          case atStart => exact ⟨0, Nat.zero_le _, rfl, rfl, rfl⟩
          case round =>
            obtain ⟨k, hk, rfl, rfl, hall⟩ := hrel
            by_cases hlt : k < s.size
            · have hx := txt_at s k hlt
              have hb := byte_at s k hlt
              have hr := numF_range ((txt s).take k) 0 (by decide) hall
              have hp := pow10_le ((txt s).take k).length (by rw [List.length_take]; omega)
              have hr2 : numF 0 ((txt s).take k) < 100000000000000000 := by
                have h2 := hr.2
                rw [Int.zero_add, Int.one_mul] at h2
                omega
              have hr1 := hr.1
              have HN : Hid _ := numF_snoc (txt s) k _ hx
              have HA : Hid _ := all_snoc (p := digB) hx
              have HX : Hid _ := hx
              have HH : Hid _ := hall
              clear hr hp hx hall
              generalize numF 0 ((txt s).take k) = n at *
              by_cases hdg : digB (((s[k]'hlt).toNat : Nat) : Int) = true
              · have hdb := digB_bounds hdg
                go_wp2_with fail
                refine (digit_ref _ w hb).mono ?_
                rintro e w' ⟨rfl, rfl⟩
                rw [hdg]
                go_wp2
                refine ⟨⟨k + 1, by omega, by simp, ?_, ?_⟩, by simp [intOf]; omega⟩
                · rw [HN.out]
                · rw [HA.out, HH.out, hdg]; rfl
              · have hdf : digB (((s[k]'hlt).toNat : Nat) : Int) = false := by simpa using hdg
                have eF : R = false := by rw [HE.out, all_not HX.out hdf]; rfl
                subst eF
                clear HE
                go_wp2_with fail
                refine (digit_ref _ w hb).mono ?_
                rintro e w' ⟨rfl, rfl⟩
                rw [hdf]
                go_wp2
                go_ret
                exact ⟨rfl, rfl⟩
            · obtain rfl : k = s.size := by omega
              have ht : (txt s).take s.size = txt s := List.take_of_length_le (by omega)
              rw [ht] at hall ⊢
              have eF : R = decide (numF 0 (txt s) ≤ most) := by rw [HE.out, hall]; rfl
              subst eF
              clear HE hall
              generalize hn : numF 0 (txt s) = n
              have HN : Hid _ := hn
              clear hn
              go_wp2
              go_ret
              exact ⟨by rw [HN.out]; rfl, rfl⟩

end Go.Proofs.YtlpbffcijhgelaaDoor
