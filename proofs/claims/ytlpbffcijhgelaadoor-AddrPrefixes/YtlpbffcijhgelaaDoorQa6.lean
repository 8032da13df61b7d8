/-
  The document's worth, group, value, room.
-/
import Derived.Test.YtlpbffcijhgelaaDoorQa1
namespace Go.Proofs.YtlpbffcijhgelaaDoor
set_option linter.unusedVariables false
set_option linter.unusedSimpArgs false
open Go Go.RowKit

set_option maxHeartbeats 1000000 in
theorem worth_ref (c : Int) (w : World) (h : 0 ≤ c ∧ c < 256) : Calls Tryd.prog 87 #[.int .u8 c] w fun e w' => e = .returned (.int .i64 (worthV c)) ∧ w' = w := by
  have hdc := digit_ref c w h
  by_cases h1 : 48 ≤ c ∧ c ≤ 57
  · have e1 : digB c = true := by simpa [digB] using h1
    have e2 : worthV c = c - 48 := if_pos h1
    rw [e1] at hdc
    rw [e2]
    have HD : Hid _ := hdc
    clear hdc e1 e2
    go_enter Tryd.func87, Tryd.ntmps87
    go_wp2_with fail
    refine Calls.mono HD.out ?_
    rintro e w' ⟨rfl, rfl⟩
    go_wp2
    go_ret
    exact ⟨rfl, rfl⟩
  · have e1 : digB c = false := by
      rw [Bool.eq_false_iff]
      intro hh
      exact h1 (digB_bounds hh)
    rw [e1] at hdc
    by_cases h2 : 97 ≤ c ∧ c ≤ 102
    · have e2 : worthV c = c - 97 + 10 := by unfold worthV; rw [if_neg h1, if_pos h2]
      rw [e2]
      have HD : Hid _ := hdc
      clear hdc e1 e2
      go_enter Tryd.func87, Tryd.ntmps87
      go_wp2_with fail
      refine Calls.mono HD.out ?_
      rintro e w' ⟨rfl, rfl⟩
      obtain ⟨h21, h22⟩ := h2
      go_wp2
      go_ret
      exact ⟨rfl, rfl⟩
    · by_cases h3 : 65 ≤ c ∧ c ≤ 70
      · have e2 : worthV c = c - 65 + 10 := by unfold worthV; rw [if_neg h1, if_neg h2, if_pos h3]
        rw [e2]
        have HD : Hid _ := hdc
        clear hdc e1 e2
        go_enter Tryd.func87, Tryd.ntmps87
        go_wp2_with fail
        refine Calls.mono HD.out ?_
        rintro e w' ⟨rfl, rfl⟩
        obtain ⟨h31, h32⟩ := h3
        go_wp2
        go_ret
        exact ⟨rfl, rfl⟩
      · have e2 : worthV c = -1 := by unfold worthV; rw [if_neg h1, if_neg h2, if_neg h3]
        rw [e2]
        have HD : Hid _ := hdc
        clear hdc e1 e2
        go_enter Tryd.func87, Tryd.ntmps87
        go_wp2_with fail
        refine Calls.mono HD.out ?_
        rintro e w' ⟨rfl, rfl⟩
        go_wp2
        all_goals first
          | (go_ret; exact ⟨rfl, rfl⟩)
          | (exfalso; omega)

theorem worth_range (c : Int) : -1 ≤ worthV c ∧ worthV c ≤ 15 := by
  unfold worthV
  repeat' split
  all_goals omega

set_option maxHeartbeats 1000000 in
theorem group_ref (s : ByteArray) (w : World) (hs : s.size ≤ 100000000) : Calls Tryd.prog 77 #[.string s] w fun e w' => e = .returned (.bool (grpB (txt s))) ∧ w' = w := by
  have hl := txt_length s
  generalize hR : grpB (txt s) = R
  have HR : Hid _ := hR
  clear hR
  go_enter Tryd.func77, Tryd.ntmps77
  go_wp2
  go_loop [3] (fun i => ∃ k : Nat, k ≤ s.size ∧ i = .int .i64 k ∧ ((txt s).take k).all (fun c => decide (0 ≤ worthV c)) = true) (fun i => s.size - (intOf i).toNat)
  case atStart => exact ⟨0, Nat.zero_le _, rfl, rfl⟩
  case round =>
    obtain ⟨k, hk, rfl, hall⟩ := hrel
    by_cases hlt : k < s.size
    · have hx := txt_at s k hlt
      have hb := byte_at s k hlt
      have hwo := worth_ref _ w hb
      have hwr := worth_range (((s[k]'hlt).toNat : Nat) : Int)
      have HA : Hid _ := all_snoc (p := fun c => decide (0 ≤ worthV c)) hx
      have HX : Hid _ := hx
      have HH : Hid _ := hall
      have HW : Hid _ := hwo
      clear hx hall hwo
      by_cases h0 : worthV (((s[k]'hlt).toNat : Nat) : Int) < 0
      · have eF : R = false := by rw [← HR.out, grpB, all_not HX.out (by simpa using h0)]; rfl
        subst eF
        clear HR
        go_wp2_with fail
        refine Calls.mono HW.out ?_
        rintro e w' ⟨rfl, rfl⟩
        go_wp2
        go_ret
        exact ⟨rfl, rfl⟩
      · go_wp2_with fail
        refine Calls.mono HW.out ?_
        rintro e w' ⟨rfl, rfl⟩
        go_wp2
        refine ⟨⟨k + 1, by omega, by simp, ?_⟩, by simp [intOf]; omega⟩
        rw [HA.out, HH.out, Bool.true_and]
        simpa using h0
    · obtain rfl : k = s.size := by omega
      have ht : (txt s).take s.size = txt s := List.take_of_length_le (by omega)
      rw [ht] at hall
      have eR : R = (decide (1 ≤ s.size) && decide (s.size ≤ 4)) := by rw [← HR.out, grpB, hall, hl]; rfl
      have HE : Hid _ := eR
      clear HR eR hall
      by_cases h1 : 1 ≤ s.size
      · by_cases h4 : s.size ≤ 4
        · have q1 : (1 : Int) ≤ (s.size : Nat) := by omega
          have q2 : ((s.size : Nat) : Int) ≤ 4 := by omega
          go_wp2
          go_ret
          exact ⟨by rw [HE.out, decide_eq_true h1, decide_eq_true h4]; rfl, rfl⟩
        · have q1 : (1 : Int) ≤ (s.size : Nat) := by omega
          have q2 : ¬ ((s.size : Nat) : Int) ≤ 4 := by omega
          go_wp2
          go_ret
          exact ⟨by rw [HE.out, decide_eq_true h1, decide_eq_false h4]; rfl, rfl⟩
      · have q1 : ¬ (1 : Int) ≤ (s.size : Nat) := by omega
        go_wp2
        go_ret
        exact ⟨by rw [HE.out, decide_eq_false h1]; rfl, rfl⟩

theorem valF_snoc (l : List Int) (k : Nat) (x : Int) (h : l[k]? = some x) : valF (l.take (k + 1)) = valF (l.take k) * 16 + worthV x := by
  obtain ⟨hk, rfl⟩ := List.getElem?_eq_some_iff.1 h
  rw [List.take_succ_eq_append_getElem hk, valF, List.foldl_append]
  rfl
theorem pow16_le : ∀ n, n ≤ 4 → (16 : Int) ^ n ≤ 65536 := by decide
theorem valF_range (l : List Int) : ∀ (k : Nat), k ≤ l.length → l.all (fun c => decide (0 ≤ worthV c)) = true → 0 ≤ valF (l.take k) ∧ valF (l.take k) < 16 ^ k
  | 0, _, _ => by simp [valF]
  | k + 1, hk, h => by
    have hx : l[k]? = some (l[k]'(by omega)) := by simp
    have := valF_range l k (by omega) h
    rw [valF_snoc l k _ hx, Int.pow_succ]
    have hw := worth_range (l[k]'(by omega))
    have h0 : 0 ≤ worthV (l[k]'(by omega)) := by
      rw [List.all_eq_true] at h
      simpa using h _ (List.mem_of_getElem? hx)
    omega

set_option maxHeartbeats 1000000 in
theorem value_ref (s : ByteArray) (w : World) (hg : grpB (txt s) = true) : Calls Tryd.prog 79 #[.string s] w fun e w' => e = .returned (.int .i64 (valF (txt s))) ∧ w' = w := by
  have hl := txt_length s
  unfold grpB at hg
  simp only [Bool.and_eq_true, decide_eq_true_eq] at hg
  obtain ⟨hall, _, h4⟩ := hg
  have HALL : Hid _ := hall
  clear hall
  go_enter Tryd.func79, Tryd.ntmps79
  go_wp2
  go_loop [3, 4] (fun n i => ∃ k : Nat, k ≤ s.size ∧ i = .int .i64 k ∧ n = .int .i64 (valF ((txt s).take k))) (fun _ i => s.size - (intOf i).toNat)
  case atStart => exact ⟨0, Nat.zero_le _, rfl, rfl⟩
  case round =>
    obtain ⟨k, hk, rfl, rfl⟩ := hrel
    by_cases hlt : k < s.size
    · have hx := txt_at s k hlt
      have hb := byte_at s k hlt
      have hr := valF_range (txt s) k (by omega) HALL.out
      have hp := pow16_le k (by omega)
      have hwr := worth_range (((s[k]'hlt).toNat : Nat) : Int)
      have HN : Hid _ := valF_snoc (txt s) k _ hx
      have hr1 := hr.1
      have hr2 : valF ((txt s).take k) < 65536 := by omega
      have hwo := worth_ref _ w hb
      have HW : Hid _ := hwo
      clear hr hp hx hwo
      generalize valF ((txt s).take k) = n at *
      generalize worthV (((s[k]'hlt).toNat : Nat) : Int) = x at *
      go_wp2_with fail
      refine Calls.mono HW.out ?_
      rintro e w' ⟨rfl, rfl⟩
      go_wp2
      refine ⟨⟨k + 1, by omega, by simp, ?_⟩, by simp [intOf]; omega⟩
      rw [HN.out]
    · obtain rfl : k = s.size := by omega
      have ht : (txt s).take s.size = txt s := List.take_of_length_le (by omega)
      rw [ht]
      go_wp2
      go_ret
      exact ⟨rfl, rfl⟩

theorem room_ref (L P : Value) (gap : Int) (w : World) (h1 : L.oneCell' = true) (h2 : P.oneCell' = true) (hg : -9223372036854775808 ≤ gap ∧ gap ≤ 9223372036854775807) :
    Calls Tryd.prog 78 #[.agg #[L, .int .i64 gap, P]] w fun e w' => e = .returned (.int .i64 (if 0 ≤ gap then 7 else 8)) ∧ Below w.heap.size w w' := by
  have hB := (Below.refl w.heap.size w).alloc (Nat.le_refl _) (.cells #[L, .int .i64 gap, P] 89)
  go_enter Tryd.func78, Tryd.ntmps78
  by_cases h0 : 0 ≤ gap
  · rw [if_pos h0]
    go_wp2
    go_ret
    exact ⟨rfl, hB⟩
  · rw [if_neg h0]
    go_wp2
    go_ret
    exact ⟨rfl, hB⟩

end Go.Proofs.YtlpbffcijhgelaaDoor
