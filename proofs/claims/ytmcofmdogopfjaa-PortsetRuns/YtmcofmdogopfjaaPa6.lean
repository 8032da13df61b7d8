/-
  Port sets that came in; alive; the statement PortsetOf for every argument.
-/
import Derived.Test.YtmcofmdogopfjaaPa5
import Derived.OpenShut
import Derived.ChangeArms
import Derived.ChangeSame
import Derived.ProofKit
import Derived.Deep.Strs
namespace Go.Proofs.Ytmcofmdogopfjaa
open Go Go.RowKit Go.ChangeShapes Go.WideShapes Go.ChangeAt
set_option linter.unusedVariables false
set_option linter.unusedSimpArgs false

theorem agg_of {v : Value} {l : List Value} (h : v.cells.toList = l) (hl : 2 ≤ l.length) : v = .agg l.toArray := by
  cases v
  case agg cs => simp only [Value.cells] at h; rw [← h]
  all_goals (simp [Value.cells] at h; subst h; simp at hl)

set_option maxRecDepth 100000 in
theorem open_set {H : Type} {enc : TypeId × Value → H} {W : World} {v : Value} {d : DataW H} {p : List MemPlace} (h : DataW.Trod enc Try.prog W 0 (fun _ => true) true 24 v d p) :
    ∃ o l q : Int, v = PS o l q ∧ In64 o ∧ In64 l ∧ 0 ≤ q ∧ q < 65536 := by
  obtain ⟨fuel, hf⟩ := h
  obtain ⟨y0, y1, y2, m, _, hl, h0, h1, h2⟩ := Go.Deep.trod_struct3 Try.underlying24 hf
  have c3 : Try.prog.cellsOf 24 = 3 := by kernel_rfl
  rw [c3] at hl
  have h0' : DataW.trod enc Try.prog W 0 (fun _ => true) true m 3 ((v.cells.toList.drop 0).take (Try.prog.cellsOf 3)) = some y0 := h0
  have h1' : DataW.trod enc Try.prog W 0 (fun _ => true) true m 3 ((v.cells.toList.drop 1).take (Try.prog.cellsOf 3)) = some y1 := h1
  have h2' : DataW.trod enc Try.prog W 0 (fun _ => true) true m 22 ((v.cells.toList.drop 2).take (Try.prog.cellsOf 22)) = some y2 := h2
  have c1 : Try.prog.cellsOf 3 = 1 := by kernel_rfl
  have c2 : Try.prog.cellsOf 22 = 1 := by kernel_rfl
  rw [c1] at h0' h1'
  rw [c2] at h2'
  obtain ⟨n0, e0, _, wf0⟩ := DataW.trod_int Try.underlying3 h0'
  obtain ⟨n1, e1, _, wf1⟩ := DataW.trod_int Try.underlying3 h1'
  obtain ⟨n2, e2, _, wf2⟩ := DataW.trod_int Try.underlying22 h2'
  have b0 := bounds_i64 wf0
  have b1 := bounds_i64 wf1
  have b2 := bounds_u16 wf2
  have hall : v.cells.toList = [.int .i64 n0, .int .i64 n1, .int .u16 n2] := by
    generalize v.cells.toList = L at *
    match L, hl with
    | [x, y, z], _ =>
      simp at e0 e1 e2
      rw [e0, e1, e2]
  exact ⟨n0, n1, n2, agg_of hall (by simp), b0, b1, b2.1, by omega⟩

theorem nat_of {o l p : Int} (h : setOk o l p) (hp : 0 ≤ p) : ∃ o' l' p' : Nat, o = o' ∧ l = l' ∧ p = p' ∧ o' ≤ 15 ∧ l' ≤ 16 - o' ∧ p' < 2 ^ l' := by
  obtain ⟨⟨h1, h2, h3, h4⟩, h5⟩ := h
  refine ⟨o.toNat, l.toNat, p.toNat, by omega, by omega, by omega, by omega, by omega, ?_⟩
  rw [cast_pow] at h5
  omega
theorem cut_of {o l : Int} (h : cutOk o l) : ∃ o' l' : Nat, o = o' ∧ l = l' ∧ o' ≤ 15 ∧ l' ≤ 16 - o' := by
  obtain ⟨h1, h2, h3, h4⟩ := h
  exact ⟨o.toNat, l.toNat, by omega, by omega, by omega, by omega⟩

/-- What both sides answer. -/
theorem of_both (o l : Int) (n : Nat) (ho : In64 o) (hl : In64 l) (hn : n < 65536) :
    ∃ (a : Int) (b : Bool) (e : Int), (∀ W, Calls Try.prog 9 #[.int .i64 o, .int .i64 l, .int .u16 n] W fun e' w' => e' = .returned (OfE a b e) ∧ Below W.heap.size W w') ∧ (∀ W, Calls Try.prog 10 #[.int .i64 o, .int .i64 l, .int .u16 n] W fun e' w' => e' = .returned (OfE a b e) ∧ Below W.heap.size W w') := by
  by_cases h : cutOk o l
  · obtain ⟨o', l', rfl, rfl, h1, h2⟩ := cut_of h
    by_cases h3 : isOnes o' n
    · have e : ofE o' l' n = OfE (pidN o' l' n) true 0 := if_pos h3
      exact ⟨_, _, _, fun W => e ▸ Of_yes o' l' n W h1 h2 hn, fun W => e ▸ ROf_yes o' l' n W h1 h2 hn⟩
    · have e : ofE o' l' n = OfE 0 false 0 := if_neg h3
      exact ⟨_, _, _, fun W => e ▸ Of_yes o' l' n W h1 h2 hn, fun W => e ▸ ROf_yes o' l' n W h1 h2 hn⟩
  · exact ⟨0, false, 90, fun W => Of_no o l n W ho hl h, fun W => ROf_no o l n W ho hl h⟩
theorem has_both (o l p : Int) (n : Nat) (ho : In64 o) (hl : In64 l) (hp : 0 ≤ p ∧ p < 65536) (hn : n < 65536) :
    ∃ (b : Bool) (e : Int), (∀ W, Calls Try.prog 11 #[PS o l p, .int .u16 n] W fun e' w' => e' = .returned (HasE b e) ∧ Below W.heap.size W w') ∧ (∀ W, Calls Try.prog 12 #[PS o l p, .int .u16 n] W fun e' w' => e' = .returned (HasE b e) ∧ Below W.heap.size W w') := by
  by_cases h : setOk o l p
  · obtain ⟨o', l', p', rfl, rfl, rfl, h1, h2, h3⟩ := nat_of h hp.1
    exact ⟨_, _, fun W => Has_yes o' l' p' n W h1 h2 h3 hn, fun W => RHas_yes o' l' p' n W h1 h2 h3 hn⟩
  · exact ⟨_, _, fun W => Has_no o l p n W ho hl hp h, fun W => RHas_no o l p n W ho hl hp h⟩

set_option maxHeartbeats 1000000 in
theorem alive_calls (w : World) : Calls Try.prog 15 #[] w fun e w' => e = .returned (.bool true) ∧ Below w.heap.size w w' := by
  have e1 : cnt 6 8 = 252 := by decide
  have e2 : atN 6 8 52 0 = 1232 := by decide
  have e3 : ofE 6 8 1232 = OfE 52 true 0 := by rw [ofE, if_pos (by decide)]; rfl
  have HC : Hid (∀ W, Calls Try.prog 16 #[PS 6 8 52] W fun e w' => e = .returned (IE 252 0) ∧ Below W.heap.size W w') := by
    intro W
    have h := Count_yes 6 8 52 W (by decide) (by decide) (by decide)
    rw [e1] at h
    exact h
  have HA : Hid (∀ W, Calls Try.prog 18 #[PS 6 8 52, .int .i64 0] W fun e w' => e = .returned (UE 1232 0) ∧ Below W.heap.size W w') := by
    intro W
    have h := At_in 6 8 52 0 W (by decide) (by decide) (by decide) (by rw [e1]; decide)
    rw [e2] at h
    exact h
  have HO : Hid (∀ W, Calls Try.prog 9 #[.int .i64 6, .int .i64 8, .int .u16 1232] W fun e w' => e = .returned (OfE 52 true 0) ∧ Below W.heap.size W w') := by
    intro W
    have h := Of_yes 6 8 1232 W (by decide) (by decide) (by decide)
    rw [e3] at h
    exact h
  have hB := bA w (PSO 6 8 52)
  clear e1 e2 e3
  go_enter Try.func15, Try.ntmps15
  go_wp2_with fail
  refine (HC.out _).mono ?_
  rintro e w2 ⟨rfl, hB2⟩
  obtain ⟨c0, c1, c2⟩ := ps_c (ps_at hB2)
  go_wp2_with fail
  refine (HA.out _).mono ?_
  rintro e w3 ⟨rfl, hB3⟩
  go_wp2_with fail
  refine (HO.out _).mono ?_
  rintro e w4 ⟨rfl, hB4⟩
  go_wp2
  go_ret
  exact ⟨rfl, ((hB.trans (hB2.mono hB.size)).trans (hB3.mono (Nat.le_trans hB.size hB2.size))).trans (hB4.mono (Nat.le_trans (Nat.le_trans hB.size hB2.size) hB3.size))⟩

set_option maxHeartbeats 4000000 in
set_option maxRecDepth 100000 in
theorem portsetOf_walk (o l p : Int) (n : Nat) (w : World) (ho : In64 o) (hl : In64 l) (hp : 0 ≤ p ∧ p < 65536) (hn : n < 65536) :
    Calls Try.prog 3 #[PS o l p, .int .u16 n] w fun e w' => e = .returned (.bool true) ∧ Below w.heap.size w w' := by
  obtain ⟨a, b, e, ha1, ha2⟩ := of_both o l n ho hl hn
  obtain ⟨x, g, hx1, hx2⟩ := has_both o l p n ho hl hp hn
  have HC : Hid _ := fun W => Check_any o l p W ho hl hp
  have HR : Hid _ := fun W => RCheck_any o l p W ho hl hp
  generalize (if setOk o l p then (0 : Int) else 90) = c at *
  have HA1 : Hid _ := ha1
  have HA2 : Hid _ := ha2
  have HX1 : Hid _ := hx1
  have HX2 : Hid _ := hx2
  have hB := bA w (PSO o l p)
  have q1 : (a == a) = true := beq_self_eq_true a
  have q2 : (b == b) = true := beq_self_eq_true b
  have q3 : (e == e) = true := beq_self_eq_true e
  have q4 : (x == x) = true := beq_self_eq_true x
  have q5 : (g == g) = true := beq_self_eq_true g
  have q6 : (c == c) = true := beq_self_eq_true c
  clear ha1 ha2 hx1 hx2
  go_enter Try.func3, Try.ntmps3
  go_wp2_with fail
  refine (HA1.out _).mono ?_
  rintro e w2 ⟨rfl, hB2⟩
  obtain ⟨c0, c1, c2⟩ := ps_c (ps_at hB2)
  go_wp2_with fail
  refine (HA2.out _).mono ?_
  rintro e w3 ⟨rfl, hB3⟩
  have hB13 := hB2.trans (hB3.mono hB2.size)
  obtain ⟨c0, c1, c2⟩ := ps_c (ps_at hB13)
  go_wp2_with fail
  refine (HX1.out _).mono ?_
  rintro e w4 ⟨rfl, hB4⟩
  have hB14 := hB13.trans (hB4.mono hB13.size)
  obtain ⟨c0, c1, c2⟩ := ps_c (ps_at hB14)
  go_wp2_with fail
  refine (HX2.out _).mono ?_
  rintro e w5 ⟨rfl, hB5⟩
  have hB15 := hB14.trans (hB5.mono hB14.size)
  obtain ⟨d0, d1, d2⟩ := ps_hi (ps_at hB15)
  have hBw := hB.trans (hB15.mono hB.size)
  clear c0 c1 c2 hB2 hB3 hB4 hB5 hB13 hB14 hB15 hB HA1 HA2 HX1 HX2
  go_wp2_with fail
  refine wp_region_hi (by kernel_rfl) (by kernel_rfl) ?_
  repeat (go_big_quiet_step (first | (go_at_call 13; exact Hi.calls (HC.out _)) | (go_at_call 14; exact Hi.calls (HR.out _)) | (go_at_call 15; exact Hi.calls (alive_calls _))))
  refine wpQuiet_nil ?_
  intro _ hw
  obtain ⟨y, rfl⟩ := hw
  go_wp2
  go_ret
  exact ⟨rfl, hBw.trans (y.below.mono hBw.size)⟩

theorem portsetOf_open {H : Type} {enc : TypeId × Value → H} {W : World} {base : Nat} (v0 v1 : Value) {d0 d1 : DataW H} {p0 p1 : List MemPlace}
    (o0 : Value.okWide Try.prog W .any base 24 v0) (h0 : DataW.Trod enc Try.prog W 0 (fun _ => true) true 24 v0 d0 p0)
    (o1 : Value.okWide Try.prog W .any base 22 v1) (h1 : DataW.Trod enc Try.prog W 0 (fun _ => true) true 22 v1 d1 p1) :
    Calls Try.prog 3 #[v0, v1] W fun e w' => e = .returned (.bool true) ∧ Below W.heap.size W w' := by
  obtain ⟨o, l, p, rfl, ho, hl, hp⟩ := open_set h0
  obtain ⟨k, rfl, _, _, wk⟩ := open_int Try.underlying22 o1 h1
  have hk := bounds_u16 wk
  obtain ⟨n, rfl⟩ := Int.eq_ofNat_of_zero_le hk.1
  exact portsetOf_walk o l p n W ho hl hp (by omega)

end Go.Proofs.Ytmcofmdogopfjaa
