/-
  The statement PortsetBack for every argument.
-/
import Derived.Test.YtmcofmdogopfjaaPa9
namespace Go.Proofs.Ytmcofmdogopfjaa
open Go Go.RowKit Go.ChangeShapes Go.WideShapes Go.ChangeAt
set_option linter.unusedVariables false
set_option linter.unusedSimpArgs false

theorem nxt_at (o l p k : Nat) (ho : o ≤ 15) (hl : l ≤ 16 - o) : nxt o l p (atN o l p k) = atN o l p ((k + 1) % cnt o l) := by
  unfold nxt
  rw [up_of_at o l p k ho hl]

set_option maxHeartbeats 4000000 in
set_option maxRecDepth 100000 in
theorem back_no (o l p i : Int) (w : World) (ho : In64 o) (hl : In64 l) (hp : 0 ≤ p ∧ p < 65536) (h : ¬ setOk o l p) :
    Calls Try.prog 8 #[PS o l p, .int .i64 i] w fun e w' => e = .returned (.bool true) ∧ Below w.heap.size w w' := by
  have H1 : Hid _ := fun W => Count_no o l p W ho hl hp h
  have H2 : Hid _ := fun W => At_no o l p i W ho hl hp h
  have hB := bA w (PSO o l p)
  clear h
  go_enter Try.func8, Try.ntmps8
  go_wp2_with fail
  refine (H1.out _).mono ?_
  rintro e w2 ⟨rfl, hB2⟩
  obtain ⟨c0, c1, c2⟩ := ps_c (ps_at hB2)
  go_wp2_with fail
  refine (H2.out _).mono ?_
  rintro e w3 ⟨rfl, hB3⟩
  have hBw := (hB.trans (hB2.mono hB.size)).trans (hB3.mono (Nat.le_trans hB.size hB2.size))
  go_wp2_with fail
  refine (alive_calls _).mono ?_
  rintro e w4 ⟨rfl, hB4⟩
  go_wp2
  go_ret
  exact ⟨rfl, hBw.trans (hB4.mono hBw.size)⟩

set_option maxHeartbeats 4000000 in
set_option maxRecDepth 100000 in
theorem back_out (o l p : Nat) (i : Int) (w : World) (ho : o ≤ 15) (hl : l ≤ 16 - o) (hp : p < 2 ^ l) (hi : i < 0 ∨ (cnt o l : Int) ≤ i) :
    Calls Try.prog 8 #[PS o l p, .int .i64 i] w fun e w' => e = .returned (.bool true) ∧ Below w.heap.size w w' := by
  have H1 : Hid _ := fun W => Count_yes o l p W ho hl hp
  have H2 : Hid _ := fun W => At_out o l p i W ho hl hp hi
  have hB := bA w (PSO o l p)
  clear hi
  go_enter Try.func8, Try.ntmps8
  go_wp2_with fail
  refine (H1.out _).mono ?_
  rintro e w2 ⟨rfl, hB2⟩
  obtain ⟨c0, c1, c2⟩ := ps_c (ps_at hB2)
  go_wp2_with fail
  refine (H2.out _).mono ?_
  rintro e w3 ⟨rfl, hB3⟩
  have hBw := (hB.trans (hB2.mono hB.size)).trans (hB3.mono (Nat.le_trans hB.size hB2.size))
  go_wp2_with fail
  refine (alive_calls _).mono ?_
  rintro e w4 ⟨rfl, hB4⟩
  go_wp2
  go_ret
  exact ⟨rfl, hBw.trans (hB4.mono hBw.size)⟩

set_option maxHeartbeats 8000000 in
set_option maxRecDepth 100000 in
theorem back_in (o l p i : Nat) (w : World) (ho : o ≤ 15) (hl : l ≤ 16 - o) (hp : p < 2 ^ l) (hi : i < cnt o l) :
    Calls Try.prog 8 #[PS o l p, .int .i64 i] w fun e w' => e = .returned (.bool true) ∧ Below w.heap.size w w' := by
  have hc := cnt_pos o l ho
  have hc2 := cnt_le o l ho hl
  have H1 : Hid _ := fun W => Count_yes o l p W ho hl hp
  have H2 : Hid _ := fun W => At_in o l p i W ho hl hp hi
  have HX : Hid (∀ k, k < cnt o l → ∀ W, Calls Try.prog 20 #[PS o l p, .int .u16 (atN o l p k : Nat)] W fun e' w' => e' = .returned (IE (k : Nat) 0) ∧ Below W.heap.size W w') := fun k hk W => by
    have g := at_ok o l p k ho hl hp hk
    have h := Index_yes o l p (atN o l p k) W ho hl hp g.1
    rw [if_pos g.2, at_idx o l p k ho hl hp hk] at h
    exact h
  have HH : Hid (∀ W, Calls Try.prog 11 #[PS o l p, .int .u16 (atN o l p i : Nat)] W fun e' w' => e' = .returned (HasE true 0) ∧ Below W.heap.size W w') := fun W => by
    have g := at_ok o l p i ho hl hp hi
    have h := Has_yes o l p (atN o l p i) W ho hl hp g.1
    rw [decide_eq_true g.2] at h
    exact h
  have HN : Hid (∀ k, k < cnt o l → ∀ W, Calls Try.prog 22 #[PS o l p, .int .u16 (atN o l p k : Nat)] W fun e' w' => e' = .returned (UE (atN o l p ((k + 1) % cnt o l) : Nat) 0) ∧ Below W.heap.size W w') := fun k hk W => by
    have g := at_ok o l p k ho hl hp hk
    have h := Next_yes o l p (atN o l p k) W ho hl hp g.1
    rw [nxt_at o l p k ho hl] at h
    exact h
  have hB := bA w (PSO o l p)
  generalize hA : atN o l p = A at *
  clear hA
  generalize cnt o l = c at *
  obtain ⟨r, hr⟩ : ∃ r, r = A i := ⟨_, rfl⟩
  have HR : Hid _ := hr
  have HX0 : Hid _ := HX.out i hi
  rw [← hr] at H2 HH HX0
  clear hr
  have q0 : ((i : Int) != (i : Int)) = false := by simp
  go_enter Try.func8, Try.ntmps8
  go_wp2_with fail
  refine (H1.out _).mono ?_
  rintro e w2 ⟨rfl, hB2⟩
  obtain ⟨c0, c1, c2⟩ := ps_c (ps_at hB2)
  go_wp2_with fail
  refine (H2.out _).mono ?_
  rintro e w3 ⟨rfl, hB3⟩
  replace hB2 := hB2.trans (hB3.mono hB2.size)
  clear c0 c1 c2 hB3 H1 H2
  obtain ⟨c0, c1, c2⟩ := ps_c (ps_at hB2)
  go_wp2_with fail
  refine (HX0.out _).mono ?_
  rintro e w4 ⟨rfl, hB3⟩
  replace hB2 := hB2.trans (hB3.mono hB2.size)
  clear c0 c1 c2 hB3 HX0
  obtain ⟨c0, c1, c2⟩ := ps_c (ps_at hB2)
  go_wp2_with fail
  refine (HH.out _).mono ?_
  rintro e w5 ⟨rfl, hB3⟩
  replace hB2 := hB2.trans (hB3.mono hB2.size)
  clear c0 c1 c2 hB3 HH
  by_cases h300 : 300 < c
  · have hBw := hB.trans (hB2.mono hB.size)
    go_wp2_with fail
    refine (alive_calls _).mono ?_
    rintro e w6 ⟨rfl, hB4⟩
    go_wp2
    go_ret
    exact ⟨rfl, hBw.trans (hB4.mono hBw.size)⟩
  · go_wp2
    go_loopw [13, 14] (fun q j wr => ∃ k : Nat, k ≤ c ∧ j = .int .i64 k ∧ q = .int .u16 (A ((i + k) % c) : Nat) ∧ Below (w.alloc (PSO o l p)).heap.size (w.alloc (PSO o l p)) wr) (fun _ j _ => c - (intOf j).toNat)
    case atStart => exact ⟨0, Nat.zero_le _, rfl, by rw [Nat.add_zero, Nat.mod_eq_of_lt hi, HR.out], hB2⟩
    case round =>
      obtain ⟨k, hk, rfl, rfl, hb⟩ := hrel
      have hz := hb.size
      by_cases hlt : k < c
      · obtain ⟨c0, c1, c2⟩ := ps_c (ps_at hb)
        have hm : (i + k) % c < c := Nat.mod_lt _ hc
        have HNk : Hid _ := HN.out _ hm
        have e : ((i + k) % c + 1) % c = (i + (k + 1)) % c := by rw [Nat.mod_add_mod, Nat.add_assoc]
        rw [e] at HNk
        have hm2 : (i + (k + 1)) % c < c := Nat.mod_lt _ hc
        have HXk : Hid _ := HX.out _ hm2
        have h1 : ((i : Int) + (k : Int) + 1).tmod (c : Int) = (((i + (k + 1)) % c : Nat) : Int) := by
          rw [show (i : Int) + (k : Int) + 1 = ((i + (k + 1) : Nat) : Int) by omega, ← Int.ofNat_tmod]
        have HAk : Hid (∃ a, a = A ((i + (k + 1)) % c)) := ⟨_, rfl⟩
        obtain ⟨a, ha⟩ := HAk.out
        rw [← ha] at HNk HXk
        have HA2 : Hid _ := ha
        clear HN HX e HAk ha
        generalize A ((i + k) % c) = b at *
        generalize hM : (i + (k + 1)) % c = m at *
        have HM : Hid _ := hM
        clear hM
        have q1 : ((m : Int) != (m : Int)) = false := by simp
        have hlt2 : (k : Int) < (c : Int) := by omega
        go_wp2_with fail
        refine (HNk.out _).mono ?_
        rintro e w6 ⟨rfl, hB3⟩
        have hb6 := hb.trans (hB3.mono hz)
        clear c0 c1 c2
        obtain ⟨c0, c1, c2⟩ := ps_c (ps_at hb6)
        go_wp2_with fail
        refine (HXk.out _).mono ?_
        rintro e w7 ⟨rfl, hB7⟩
        have hb7 := hb6.trans (hB7.mono hb6.size)
        clear c0 c1 c2
        go_wp2
        exact ⟨⟨k + 1, by omega, by simp, by rw [HM.out, ← HA2.out], hb7⟩, by simp [intOf]; omega⟩
      · obtain rfl : k = c := by omega
        have e : A ((i + k) % k) = r := by rw [Nat.add_mod_right, Nat.mod_eq_of_lt hi, HR.out]
        rw [e]
        have hBw := hB.trans (hb.mono hB.size)
        clear e HN HX
        go_wp2_with fail
        refine (alive_calls _).mono ?_
        rintro e w6 ⟨rfl, hB4⟩
        go_wp2
        go_ret
        exact ⟨rfl, hBw.trans (hB4.mono hBw.size)⟩

theorem portsetBack_open {H : Type} {enc : TypeId × Value → H} {W : World} {base : Nat} (v0 v1 : Value) {d0 d1 : DataW H} {p0 p1 : List MemPlace}
    (o0 : Value.okWide Try.prog W .any base 24 v0) (h0 : DataW.Trod enc Try.prog W 0 (fun _ => true) true 24 v0 d0 p0)
    (o1 : Value.okWide Try.prog W .any base 3 v1) (h1 : DataW.Trod enc Try.prog W 0 (fun _ => true) true 3 v1 d1 p1) :
    Calls Try.prog 8 #[v0, v1] W fun e w' => e = .returned (.bool true) ∧ Below W.heap.size W w' := by
  obtain ⟨o, l, p, rfl, ho, hl, hp⟩ := open_set h0
  obtain ⟨i, rfl, _, _, wk⟩ := open_int Try.underlying3 o1 h1
  by_cases h : setOk o l p
  · obtain ⟨o', l', p', rfl, rfl, rfl, g1, g2, g3⟩ := nat_of h hp.1
    by_cases hi : 0 ≤ i ∧ i < (cnt o' l' : Int)
    · obtain ⟨i', rfl⟩ := Int.eq_ofNat_of_zero_le hi.1
      exact back_in o' l' p' i' W g1 g2 g3 (by omega)
    · exact back_out o' l' p' i W g1 g2 g3 (by omega)
  · exact back_no o l p i W ho hl hp h

end Go.Proofs.Ytmcofmdogopfjaa
