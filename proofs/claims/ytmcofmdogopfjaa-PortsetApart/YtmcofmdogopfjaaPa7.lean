/-
  The statements PortsetMany and PortsetApart for every argument.
-/
import Derived.Test.YtmcofmdogopfjaaPa6
namespace Go.Proofs.Ytmcofmdogopfjaa
open Go Go.RowKit Go.ChangeShapes Go.WideShapes Go.ChangeAt
set_option linter.unusedVariables false
set_option linter.unusedSimpArgs false

theorem ps_two {w W : World} {A B : Obj} (h : Below ((w.alloc A).alloc B).heap.size ((w.alloc A).alloc B) W) : W.heap[w.heap.size]? = some A ∧ W.heap[w.heap.size + 1]? = some B := by
  have h1 := blk_on (blk_alloc (blk_new w A) B) h
  have h2 := blk_on (blk_new (w.alloc A) B) h
  rw [show (w.alloc A).heap.size = w.heap.size + 1 by simp] at h2
  exact ⟨h1, h2⟩

set_option maxHeartbeats 4000000 in
theorem portsetMany_walk (o l p q : Int) (w : World) (ho : In64 o) (hl : In64 l) (hp : 0 ≤ p ∧ p < 65536) (hq : 0 ≤ q ∧ q < 65536) :
    Calls Try.prog 7 #[PS o l p, .int .u16 q] w fun e w' => e = .returned (.bool true) ∧ Below w.heap.size w w' := by
  have hB : Below w.heap.size w ((w.alloc (PSO o l p)).alloc (PSO o l q)) := (bA w _).alloc (by simp) _
  have HC : Hid (∃ a e b f : Int, (∀ W, Calls Try.prog 16 #[PS o l p] W fun e' w' => e' = .returned (IE a e) ∧ Below W.heap.size W w') ∧ (∀ W, Calls Try.prog 16 #[PS o l q] W fun e' w' => e' = .returned (IE b f) ∧ Below W.heap.size W w') ∧ ((e = 0 ∧ f = 0 ∧ a = b ∧ 0 < a) ∨ (e = 90 ∧ a = 0 ∧ 0 ≤ b ∧ b ≤ 65536) ∨ (e = 0 ∧ 0 ≤ a ∧ a ≤ 65536 ∧ f = 90 ∧ b = 0))) := by
    by_cases h1 : setOk o l p
    · obtain ⟨o', l', p', rfl, rfl, rfl, g1, g2, g3⟩ := nat_of h1 hp.1
      have hc := cnt_pos o' l' g1
      have hc2 := cnt_le o' l' g1 g2
      by_cases h2 : setOk o' l' q
      · obtain ⟨o'', l'', q', k1, k2, rfl, r1, r2, r3⟩ := nat_of h2 hq.1
        have e1 : o'' = o' := by omega
        have e2 : l'' = l' := by omega
        subst e1 e2
        exact ⟨_, _, _, _, fun W => Count_yes _ _ p' W g1 g2 g3, fun W => Count_yes _ _ q' W g1 g2 r3, Or.inl ⟨rfl, rfl, rfl, by omega⟩⟩
      · exact ⟨_, _, _, _, fun W => Count_yes _ _ p' W g1 g2 g3, fun W => Count_no _ _ q W ho hl hq h2, Or.inr (Or.inr ⟨rfl, by omega, by omega, rfl, rfl⟩)⟩
    · by_cases h2 : setOk o l q
      · obtain ⟨o', l', q', rfl, rfl, rfl, g1, g2, g3⟩ := nat_of h2 hq.1
        have hc2 := cnt_le o' l' g1 g2
        exact ⟨_, _, _, _, fun W => Count_no _ _ p W ho hl hp h1, fun W => Count_yes _ _ q' W g1 g2 g3, Or.inr (Or.inl ⟨rfl, rfl, by omega, by omega⟩)⟩
      · exact ⟨_, _, _, _, fun W => Count_no _ _ p W ho hl hp h1, fun W => Count_no _ _ q W ho hl hq h2, Or.inr (Or.inl ⟨rfl, rfl, by omega, by omega⟩)⟩
  obtain ⟨a, e, b, f, h1, h2, hh⟩ := HC.out
  have H1 : Hid _ := h1
  have H2 : Hid _ := h2
  have HH : Hid _ := hh
  clear HC h1 h2 hh
  go_enter Try.func7, Try.ntmps7
  go_wp2_with fail
  refine (H1.out _).mono ?_
  rintro e w2 ⟨rfl, hB2⟩
  obtain ⟨c0, c1, c2⟩ := ps_c (ps_two hB2).2
  go_wp2_with fail
  refine (H2.out _).mono ?_
  rintro e w3 ⟨rfl, hB3⟩
  have hBw := (hB.trans (hB2.mono hB.size)).trans (hB3.mono (Nat.le_trans hB.size hB2.size))
  clear c0 c1 c2 hB2 hB3 hB H1 H2
  rcases HH.out with ⟨rfl, rfl, rfl, h5⟩ | ⟨rfl, rfl, h5, h6⟩ | ⟨rfl, h5, h6, rfl, rfl⟩
  all_goals
    clear HH
    go_wp2_with fail
    refine (alive_calls _).mono ?_
    rintro e w4 ⟨rfl, hB4⟩
    go_wp2
    go_ret
    exact ⟨rfl, hBw.trans (hB4.mono hBw.size)⟩

theorem portsetMany_open {H : Type} {enc : TypeId × Value → H} {W : World} {base : Nat} (v0 v1 : Value) {d0 d1 : DataW H} {p0 p1 : List MemPlace}
    (o0 : Value.okWide Try.prog W .any base 24 v0) (h0 : DataW.Trod enc Try.prog W 0 (fun _ => true) true 24 v0 d0 p0)
    (o1 : Value.okWide Try.prog W .any base 22 v1) (h1 : DataW.Trod enc Try.prog W 0 (fun _ => true) true 22 v1 d1 p1) :
    Calls Try.prog 7 #[v0, v1] W fun e w' => e = .returned (.bool true) ∧ Below W.heap.size W w' := by
  obtain ⟨o, l, p, rfl, ho, hl, hp⟩ := open_set h0
  obtain ⟨k, rfl, _, _, wk⟩ := open_int Try.underlying22 o1 h1
  have hk := bounds_u16 wk
  exact portsetMany_walk o l p k W ho hl hp ⟨hk.1, by omega⟩

/-- What Has and Of answer of one port, at two sets of one kind. -/
theorem apart_all (o l p q : Int) (n : Nat) (ho : In64 o) (hl : In64 l) (hp : 0 ≤ p ∧ p < 65536) (hq : 0 ≤ q ∧ q < 65536) (hn : n < 65536) :
    ∃ (x y : Bool) (e f a : Int) (b : Bool) (g : Int), (∀ W, Calls Try.prog 11 #[PS o l p, .int .u16 n] W fun e' w' => e' = .returned (HasE x e) ∧ Below W.heap.size W w') ∧ (∀ W, Calls Try.prog 11 #[PS o l q, .int .u16 n] W fun e' w' => e' = .returned (HasE y f) ∧ Below W.heap.size W w') ∧ (∀ W, Calls Try.prog 9 #[.int .i64 o, .int .i64 l, .int .u16 n] W fun e' w' => e' = .returned (OfE a b g) ∧ Below W.heap.size W w') ∧
      ((e = 0 ∧ f = 0 ∧ g = 0 ∧ (x = false ∨ y = false ∨ (x = true ∧ y = true ∧ p = q)) ∧ x = (b && (a == p))) ∨ (e ≠ 0) ∨ (e = 0 ∧ f ≠ 0)) := by
  obtain ⟨a, b, g, ha, _⟩ := of_both o l n ho hl hn
  by_cases h1 : setOk o l p
  · obtain ⟨o', l', p', rfl, rfl, rfl, g1, g2, g3⟩ := nat_of h1 hp.1
    by_cases h2 : setOk o' l' q
    · obtain ⟨o'', l'', q', k1, k2, rfl, r1, r2, r3⟩ := nat_of h2 hq.1
      have e1 : o'' = o' := by omega
      have e2 : l'' = l' := by omega
      subst e1 e2
      clear ha
      have hx : ∀ s : Nat, ¬ isOnes o'' n → decide (hasN o'' l'' s n) = false := fun s h => decide_eq_false (fun k => h k.1)
      by_cases h3 : isOnes o'' n
      · have e : ofE o'' l'' n = OfE (pidN o'' l'' n) true 0 := if_pos h3
        refine ⟨_, _, _, _, _, _, _, fun W => Has_yes _ _ p' n W g1 g2 g3 hn, fun W => Has_yes _ _ q' n W g1 g2 r3 hn, fun W => e ▸ Of_yes _ _ n W g1 g2 hn, Or.inl ⟨rfl, rfl, rfl, ?_, ?_⟩⟩
        · by_cases h4 : hasN o'' l'' p' n
          · by_cases h5 : hasN o'' l'' q' n
            · exact Or.inr (Or.inr ⟨decide_eq_true h4, decide_eq_true h5, by rw [← h4.2, ← h5.2]⟩)
            · exact Or.inr (Or.inl (decide_eq_false h5))
          · exact Or.inl (decide_eq_false h4)
        · rw [Bool.true_and, Bool.eq_iff_iff, decide_eq_true_eq, beq_iff_eq]
          exact ⟨fun h => by rw [h.2], fun h => ⟨h3, Int.ofNat.inj h⟩⟩
      · have e : ofE o'' l'' n = OfE 0 false 0 := if_neg h3
        refine ⟨_, _, _, _, _, _, _, fun W => Has_yes _ _ p' n W g1 g2 g3 hn, fun W => Has_yes _ _ q' n W g1 g2 r3 hn, fun W => e ▸ Of_yes _ _ n W g1 g2 hn, Or.inl ⟨rfl, rfl, rfl, Or.inl (hx _ h3), ?_⟩⟩
        rw [hx _ h3]
        rfl
    · exact ⟨_, _, _, _, _, _, _, fun W => Has_yes _ _ p' n W g1 g2 g3 hn, fun W => Has_no _ _ q n W ho hl hq h2, ha, Or.inr (Or.inr ⟨rfl, by decide⟩)⟩
  · obtain ⟨y, f, hy, _⟩ := has_both o l q n ho hl hq hn
    exact ⟨_, _, _, _, _, _, _, fun W => Has_no _ _ p n W ho hl hp h1, hy, ha, Or.inr (Or.inl (by decide))⟩

set_option maxHeartbeats 4000000 in
theorem portsetApart_walk (o l p q : Int) (n : Nat) (w : World) (ho : In64 o) (hl : In64 l) (hp : 0 ≤ p ∧ p < 65536) (hq : 0 ≤ q ∧ q < 65536) (hn : n < 65536) :
    Calls Try.prog 6 #[PS o l p, .int .u16 q, .int .u16 n] w fun e w' => e = .returned (.bool true) ∧ Below w.heap.size w w' := by
  have hB := bA w (PSO o l p)
  obtain ⟨x, y, e, f, a, b, g, h1, h2, h3, hh⟩ := apart_all o l p q n ho hl hp hq hn
  have H1 : Hid _ := h1
  have H2 : Hid _ := h2
  have H3 : Hid _ := h3
  have HH : Hid _ := hh
  clear h1 h2 h3 hh
  go_enter Try.func6, Try.ntmps6
  go_wp2_with fail
  refine (H1.out _).mono ?_
  rintro e w2 ⟨rfl, hB2⟩
  have hk := ps_at hB2
  obtain ⟨c0, c1, c2⟩ := ps_c hk
  have hBw2 := hB.trans (hB2.mono hB.size)
  have HK : Hid _ := hk
  clear hk hB hB2 H1
  go_wp2_with fail
  refine (H2.out _).mono ?_
  rintro e w3 ⟨rfl, hB3⟩
  have hk3 := blk_on (blk_alloc HK.out (PSO o l q)) hB3
  obtain ⟨c0, c1, c2⟩ := ps_c hk3
  have hBw3 := (hBw2.trans ((bA w2 (PSO o l q)).mono hBw2.size)).trans (hB3.mono (Nat.le_trans hBw2.size (bA w2 (PSO o l q)).size))
  have HK3 : Hid _ := hk3
  clear HK hk3 hB3 hBw2 H2
  rcases HH.out with ⟨rfl, rfl, rfl, h5, h6⟩ | h5 | ⟨rfl, h5⟩
  · have H5 : Hid _ := h5
    have H6 : Hid _ := h6
    clear h5 h6 HH
    go_wp2_with fail
    refine (H3.out _).mono ?_
    rintro e w4 ⟨rfl, hB4⟩
    have hBw4 := hBw3.trans (hB4.mono hBw3.size)
    have hk4 := ps_c (blk_on HK3.out hB4)
    have h6 := H6.out
    have h5 := H5.out
    clear H5 H6 H3 hB4 hBw3
    cases b with
    | false =>
      rw [Bool.false_and] at h6
      subst h6
      cases y <;>
      · clear h5
        go_wp2_with fail
        refine (alive_calls _).mono ?_
        rintro e w5 ⟨rfl, hB5⟩
        go_wp2
        go_ret
        exact ⟨rfl, hBw4.trans (hB5.mono hBw4.size)⟩
    | true =>
      rw [Bool.true_and] at h6
      have d0 : w4.cell? ⟨w.heap.size, 2, none⟩ = some (.int .u16 p) := hk4.2.2
      cases x with
      | false =>
        have h7 := h6.symm
        cases y <;>
        · clear h5 h6
          go_wp2_with fail
          refine (alive_calls _).mono ?_
          rintro e w5 ⟨rfl, hB5⟩
          go_wp2
          go_ret
          exact ⟨rfl, hBw4.trans (hB5.mono hBw4.size)⟩
      | true =>
        have h7 := h6.symm
        cases y with
        | false =>
          clear h5 h6
          go_wp2_with fail
          refine (alive_calls _).mono ?_
          rintro e w5 ⟨rfl, hB5⟩
          go_wp2
          go_ret
          exact ⟨rfl, hBw4.trans (hB5.mono hBw4.size)⟩
        | true =>
          have h8 : (p == q) = true := by
            rcases h5 with h5 | h5 | h5
            · cases h5
            · cases h5
            · rw [h5.2.2]; exact beq_self_eq_true q
          clear h5 h6
          go_wp2_with fail
          refine (alive_calls _).mono ?_
          rintro e w5 ⟨rfl, hB5⟩
          go_wp2
          go_ret
          exact ⟨rfl, hBw4.trans (hB5.mono hBw4.size)⟩
  · clear HH
    have h6 : (e != 0) = true := by simpa using h5
    go_wp2_with fail
    refine (alive_calls _).mono ?_
    rintro e w4 ⟨rfl, hB4⟩
    go_wp2
    go_ret
    exact ⟨rfl, hBw3.trans (hB4.mono hBw3.size)⟩
  · clear HH
    have h6 : (f != 0) = true := by simpa using h5
    go_wp2_with fail
    refine (alive_calls _).mono ?_
    rintro e w4 ⟨rfl, hB4⟩
    go_wp2
    go_ret
    exact ⟨rfl, hBw3.trans (hB4.mono hBw3.size)⟩

theorem portsetApart_open {H : Type} {enc : TypeId × Value → H} {W : World} {base : Nat} (v0 v1 v2 : Value) {d0 d1 d2 : DataW H} {p0 p1 p2 : List MemPlace}
    (o0 : Value.okWide Try.prog W .any base 24 v0) (h0 : DataW.Trod enc Try.prog W 0 (fun _ => true) true 24 v0 d0 p0)
    (o1 : Value.okWide Try.prog W .any base 22 v1) (h1 : DataW.Trod enc Try.prog W 0 (fun _ => true) true 22 v1 d1 p1)
    (o2 : Value.okWide Try.prog W .any base 22 v2) (h2 : DataW.Trod enc Try.prog W 0 (fun _ => true) true 22 v2 d2 p2) :
    Calls Try.prog 6 #[v0, v1, v2] W fun e w' => e = .returned (.bool true) ∧ Below W.heap.size W w' := by
  obtain ⟨o, l, p, rfl, ho, hl, hp⟩ := open_set h0
  obtain ⟨k, rfl, _, _, wk⟩ := open_int Try.underlying22 o1 h1
  obtain ⟨m, rfl, _, _, wm⟩ := open_int Try.underlying22 o2 h2
  have hk := bounds_u16 wk
  have hm := bounds_u16 wm
  obtain ⟨n, rfl⟩ := Int.eq_ofNat_of_zero_le hm.1
  exact portsetApart_walk o l p k n W ho hl hp ⟨hk.1, by omega⟩ (by omega)

end Go.Proofs.Ytmcofmdogopfjaa
