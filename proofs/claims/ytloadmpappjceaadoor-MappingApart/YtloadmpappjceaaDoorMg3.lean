/-
  The statement MappingApart for every argument.
-/
import Derived.Test.YtloadmpappjceaaDoorMg2
namespace Go.Proofs.YtloadmpappjceaaDoor
open Go Go.RowKit Go.ChangeShapes Go.WideShapes Go.ChangeAt
set_option linter.unusedVariables false
set_option linter.unusedSimpArgs false


set_option maxHeartbeats 8000000 in
set_option maxRecDepth 100000 in
theorem mappingApart_walk (r : Ru) (hr : r.In) (v u : Nat) (hv : v < 18446744073709551616) (hu : u < 18446744073709551616) (y : List Int) (yf : FitB y) (yl : y.length = 4) (n : Nat) (hn : n < 65536) (x : List Int) (xf : FitB x) (xl : x.length = 16) (w : World) (ht : Tz w) :
    Calls Tryd.prog 8 #[RV r, .int .u64 v, .int .u64 u, A4L y, .int .u16 n, .agg (b8 x).toArray] w fun e w' => e = .returned (.bool true) ∧ Below w.heap.size w w' := by
  obtain ⟨hb, hby, hbx, hBw⟩ := three_box w (RO r) (YO y) (XO x)
  obtain ⟨e1, g1, hf1, he1⟩ := edge_form r hr v
  obtain ⟨e2, g2, hf2, he2⟩ := edge_form r hr u
  have HE1 : Hid (∀ W, Calls Tryd.prog 17 #[RV r, .int .u64 v] W fun e' w' => e' = .returned (.tuple #[.agg (edC e1).toArray, .int .i64 g1]) ∧ Below W.heap.size W w') := fun W => by have := Edge_any r hr v hv W; rw [he1] at this; exact this
  have HE2 : Hid (∀ W, Calls Tryd.prog 17 #[RV r, .int .u64 u] W fun e' w' => e' = .returned (.tuple #[.agg (edC e2).toArray, .int .i64 g2]) ∧ Below W.heap.size W w') := fun W => by have := Edge_any r hr u hu W; rw [he2] at this; exact this
  have hln1 := edC_length hf1.k4 hf1.k6 hf1.kw
  have hln2 := edC_length hf2.k4 hf2.k6 hf2.kw
  have hon1 := edC_one e1
  have hon2 := edC_one e2
  have HTZ : Hid (Tz (((w.alloc (RO r)).alloc (YO y)).alloc (XO x))) := ht.on hBw
  generalize hW : ((w.alloc (RO r)).alloc (YO y)).alloc (XO x) = W at *
  by_cases c1 : g1 = 0
  · by_cases c2 : g2 = 0
    · subst c1 c2
      obtain ⟨hok, hv2, q1⟩ := edg_of hr he1 rfl
      obtain ⟨_, hu2, q2⟩ := edg_of hr he2 rfl
      have q1' : edC e1 = edC (edg r v) := by simpa [EV] using q1
      have q2' : edC e2 = edC (edg r u) := by simpa [EV] using q2
      rw [q1'] at HE1 hln1 hon1
      rw [q2'] at HE2 hln2 hon2
      clear q1 q2 q1' q2' he1 he2 hf1 hf2
      by_cases hvu : v = u
      · subst hvu
        have hvv : ((v : Int) == (v : Int)) = true := beq_self_eq_true _
        have HEQ : Hid _ := eqlE (edg r v) (edg_fit hok v)
        unfold EV at HEQ
        clear hok hv2 hu2
        generalize edC (edg r v) = z at *
        go_enter Tryd.func8, Tryd.ntmps8
        go_wp2_with fail
        refine (awake_calls _ HTZ.out).mono ?_
        rintro e' wA ⟨rfl, hBA⟩
        have HLR : Hid _ := (RuAt.of hr (blk_on hb hBA)).ldR
        go_wp2_with first
          | ((with_reducible show wpList _ _ _ _ _ _); refine armL (.tmp 6) 31 rfl rfl rfl HLR.out ?_)
        refine (HE1.out _).mono ?_
        rintro e' w2 ⟨rfl, hB2⟩
        obtain ⟨w3, hst3, b3, hB3⟩ := box_new Tryd.sizeOf45 w2 zeroEL rfl z hln1 hon1
        have HS3 : Hid _ := hst3
        have hA3 := (hBA.trans (hB2.mono hBA.size)).trans (hB3.mono (Nat.le_trans hBA.size hB2.size))
        have HL3 : Hid _ := (RuAt.of hr (blk_on hb hA3)).ldR
        clear hst3
        go_wp2_with first
          | ((with_reducible show wpList _ _ _ _ _ _); refine armL (.tmp 6) 31 rfl rfl rfl HL3.out ?_)
          | ((with_reducible show wpList _ _ _ _ _ _); refine armS (.tmp 13) (.tmp 31) 45 rfl rfl rfl rfl HS3.out ?_)
        refine (HE2.out _).mono ?_
        rintro e' w4 ⟨rfl, hB4⟩
        obtain ⟨w5, hst5, b5, hB5⟩ := box_new Tryd.sizeOf45 w4 zeroEL rfl z hln2 hon2
        have HS5 : Hid _ := hst5
        have h35 := hB4.trans (hB5.mono hB4.size)
        have hA5 := hA3.trans (h35.mono hA3.size)
        have b35 := blk_on b3 h35
        clear hst5
        have HX3 : Hid _ := agg_load (t := 45) Tryd.isAgg45 Tryd.sizeOf45 hln1 (CellsAt.of_blk b35)
        have HX5 : Hid _ := agg_load (t := 45) Tryd.isAgg45 Tryd.sizeOf45 hln1 (CellsAt.of_blk b5)
        have HEQ5 : Hid _ := HEQ.out w5
        clear b3 b5 b35
        go_wp2_with first
          | ((with_reducible show wpList _ _ _ _ _ _); refine armLg (.tmp 13) 45 rfl rfl rfl HX3.out ?_)
          | ((with_reducible show wpList _ _ _ _ _ _); refine armLg (.tmp 15) 45 rfl rfl rfl HX5.out ?_)
          | ((with_reducible show wpList _ _ _ _ _ _); refine armS (.tmp 15) (.tmp 37) 45 rfl rfl rfl rfl HS5.out ?_)
          | ((with_reducible show wpList _ _ _ _ _ _); refine armB .eql 45 45 (.tmp 57) (.tmp 58) rfl rfl rfl rfl (gdE _ _ _ _ _ _) HEQ5.out ?_)
        go_ret
        exact ⟨rfl, hBw.trans (hA5.mono hBw.size)⟩
      · have hvv : ((v : Int) == (u : Int)) = false := beq_eq_false_iff_ne.2 (fun k => hvu (Int.ofNat.inj k))
        have hi1 := edg_in hok v
        have hi2 := edg_in hok u
        have HO1 : Hid (∀ W, Calls Tryd.prog 25 #[.agg (edC (edg r v)).toArray, A4L y, .int .u16 n] W fun e' w' => e' = .returned (.tuple #[.bool (ownsB (edg r v) y n), .int .i64 0]) ∧ Below W.heap.size W w') := fun W => by have := Owns_any (edg r v) hi1 y yf yl n hn W; rw [owns_ok hok] at this; exact this
        have HO2 : Hid (∀ W, Calls Tryd.prog 25 #[.agg (edC (edg r u)).toArray, A4L y, .int .u16 n] W fun e' w' => e' = .returned (.tuple #[.bool (ownsB (edg r u) y n), .int .i64 0]) ∧ Below W.heap.size W w') := fun W => by have := Owns_any (edg r u) hi2 y yf yl n hn W; rw [owns_ok hok] at this; exact this
        have HH1 : Hid (∀ W, Calls Tryd.prog 31 #[P6 (edg r v).l6 (edg r v).n6, .agg (b8 x).toArray] W fun e' w' => e' = .returned (.tuple #[.bool (has6 (edg r v).l6 (edg r v).n6 x), .int .i64 0]) ∧ Below W.heap.size W w') := fun W => by have := RHas6_calls (edg r v).l6 (edg r v).n6 x W hi1.f6 hi1.k6 xf xl hi1.b6; rw [edg_ok6 hok v, Bool.true_and] at this; exact this
        have HH2 : Hid (∀ W, Calls Tryd.prog 31 #[P6 (edg r u).l6 (edg r u).n6, .agg (b8 x).toArray] W fun e' w' => e' = .returned (.tuple #[.bool (has6 (edg r u).l6 (edg r u).n6 x), .int .i64 0]) ∧ Below W.heap.size W w') := fun W => by have := RHas6_calls (edg r u).l6 (edg r u).n6 x W hi2.f6 hi2.k6 xf xl hi2.b6; rw [edg_ok6 hok u, Bool.true_and] at this; exact this
        have hown := owns_one hok hv2 hu2 hvu yf yl n
        have hend := end_one hok hv2 hu2 hvu xf xl
        have hne : decide ((edg r v).ow = (edg r u).ow) = false := decide_eq_false (by rw [edg_ow, edg_ow]; exact own_one hok hv2 hu2 hvu)
        have HNE : Hid _ := neqA6 (edg r v).ow (edg r u).ow hi1.fw hi2.fw hi1.kw hi2.kw
        rw [hne] at HNE
        generalize ownsB (edg r v) y n = bo1 at *
        generalize ownsB (edg r u) y n = bo2 at *
        generalize has6 (edg r v).l6 (edg r v).n6 x = bh1 at *
        generalize has6 (edg r u).l6 (edg r u).n6 x = bh2 at *
        have HAT1 : Hid (∀ W b, W.heap[b]? = some (EO (edg r v)) → EdAt W b (edg r v)) := fun W b hh => EdAt.of hi1.k4 hi1.k6 hi1.kw hh
        have HAT2 : Hid (∀ W b, W.heap[b]? = some (EO (edg r u)) → EdAt W b (edg r u)) := fun W b hh => EdAt.of hi2.k4 hi2.k6 hi2.kw hh
        have HBY : Hid _ := hby
        have HBX : Hid _ := hbx
        clear hne hi1 hi2 hok hv2 hu2 hby hbx
        generalize edg r v = E1 at *
        generalize edg r u = E2 at *
        have HOWN : Hid _ := hown
        have HEND : Hid _ := hend
        clear hown hend
        go_enter Tryd.func8, Tryd.ntmps8
        go_wp2_with fail
        refine (awake_calls _ HTZ.out).mono ?_
        rintro e' wA ⟨rfl, hBA⟩
        have HLR : Hid _ := (RuAt.of hr (blk_on hb hBA)).ldR
        go_wp2_with first
          | ((with_reducible show wpList _ _ _ _ _ _); refine armL (.tmp 6) 31 rfl rfl rfl HLR.out ?_)
        refine (HE1.out _).mono ?_
        rintro e' w2 ⟨rfl, hB2⟩
        obtain ⟨w3, hst3, b3, hB3⟩ := box_new Tryd.sizeOf45 w2 zeroEL rfl (edC E1) hln1 hon1
        have HS3 : Hid _ := hst3
        have hA3 := (hBA.trans (hB2.mono hBA.size)).trans (hB3.mono (Nat.le_trans hBA.size hB2.size))
        have HL3 : Hid _ := (RuAt.of hr (blk_on hb hA3)).ldR
        clear hst3
        go_wp2_with first
          | ((with_reducible show wpList _ _ _ _ _ _); refine armL (.tmp 6) 31 rfl rfl rfl HL3.out ?_)
          | ((with_reducible show wpList _ _ _ _ _ _); refine armS (.tmp 13) (.tmp 31) 45 rfl rfl rfl rfl HS3.out ?_)
        refine (HE2.out _).mono ?_
        rintro e' w4 ⟨rfl, hB4⟩
        obtain ⟨w5, hst5, b5, hB5⟩ := box_new Tryd.sizeOf45 w4 zeroEL rfl (edC E2) hln2 hon2
        have HS5 : Hid _ := hst5
        have h35 := hB4.trans (hB5.mono hB4.size)
        have hA5 := hA3.trans (h35.mono hA3.size)
        have b35 := blk_on b3 h35
        clear hst5
        have HX3 : Hid _ := (HAT1.out w5 _ b35).ldE
        have HY5 : Hid _ := load_y yl (blk_on HBY.out hA5)
        go_wp2_with first
          | ((with_reducible show wpList _ _ _ _ _ _); refine armL (.tmp 13) 45 rfl rfl rfl HX3.out ?_)
          | ((with_reducible show wpList _ _ _ _ _ _); refine armL (.tmp 9) 27 rfl rfl rfl HY5.out ?_)
          | ((with_reducible show wpList _ _ _ _ _ _); refine armS (.tmp 15) (.tmp 37) 45 rfl rfl rfl rfl HS5.out ?_)
        refine (HO1.out _).mono ?_
        rintro e' w6 ⟨rfl, hB6⟩
        have HX6 : Hid _ := (HAT2.out w6 _ (blk_on b5 hB6)).ldE
        have hA6 := hA5.trans (hB6.mono hA5.size)
        have HY6 : Hid _ := load_y yl (blk_on HBY.out hA6)
        go_wp2_with first
          | ((with_reducible show wpList _ _ _ _ _ _); refine armL (.tmp 15) 45 rfl rfl rfl HX6.out ?_)
          | ((with_reducible show wpList _ _ _ _ _ _); refine armL (.tmp 9) 27 rfl rfl rfl HY6.out ?_)
        refine (HO2.out _).mono ?_
        rintro e' w7 ⟨rfl, hB7⟩
        have h57 := hB6.trans (hB7.mono hB6.size)
        have hA7 := hA6.trans (hB7.mono hA6.size)
        have HX7 : Hid _ := (HAT1.out w7 _ (blk_on b35 h57)).ld6
        have HXX7 : Hid _ := load6 xl (CellsAt.of_blk (blk_on HBX.out hA7))
        go_wp2_with first
          | ((with_reducible show wpList _ _ _ _ _ _); refine armL (.tmp 76) 25 rfl rfl rfl HX7.out ?_)
          | ((with_reducible show wpList _ _ _ _ _ _); refine armL (.tmp 11) 23 rfl rfl rfl HXX7.out ?_)
        refine (HH1.out _).mono ?_
        rintro e' w8 ⟨rfl, hB8⟩
        have h58 := h57.trans (hB8.mono h57.size)
        have hA8 := hA7.trans (hB8.mono hA7.size)
        have HX8 : Hid _ := (HAT2.out w8 _ (blk_on b5 h58)).ld6
        have HXX8 : Hid _ := load6 xl (CellsAt.of_blk (blk_on HBX.out hA8))
        go_wp2_with first
          | ((with_reducible show wpList _ _ _ _ _ _); refine armL (.tmp 83) 25 rfl rfl rfl HX8.out ?_)
          | ((with_reducible show wpList _ _ _ _ _ _); refine armL (.tmp 11) 23 rfl rfl rfl HXX8.out ?_)
        refine (HH2.out _).mono ?_
        rintro e' w9 ⟨rfl, hB9⟩
        have h59 := h58.trans (hB9.mono h58.size)
        have hA9 := hA8.trans (hB9.mono hA8.size)
        have HW1 : Hid _ := (HAT1.out w9 _ (blk_on b35 h59)).ldw
        have HW2 : Hid _ := (HAT2.out w9 _ (blk_on b5 h59)).ldw
        have HNE9 : Hid _ := HNE.out w9
        have hown := HOWN.out
        have hend := HEND.out
        clear b3 b5 b35 HOWN HEND
        cases bo1 <;> cases bo2 <;> cases bh1 <;> cases bh2 <;> first | (cases hown; done) | (cases hend; done) | skip
        all_goals clear hown hend
        all_goals
          go_wp2_with first
            | ((with_reducible show wpList _ _ _ _ _ _); refine armLg (.tmp 110) 23 rfl rfl rfl HW1.out ?_)
            | ((with_reducible show wpList _ _ _ _ _ _); refine armLg (.tmp 112) 23 rfl rfl rfl HW2.out ?_)
            | ((with_reducible show wpList _ _ _ _ _ _); refine armB .neq 23 23 (.tmp 111) (.tmp 113) rfl rfl rfl rfl (gdA6 _ _ _ _ _ _) HNE9.out ?_)
          go_ret
          exact ⟨rfl, hBw.trans (hA9.mono hBw.size)⟩
    · have q2 : (g2 != 0) = true := by simpa using c2
      subst c1
      clear he1 he2 hf1 hf2 c2
      generalize edC e1 = z1 at *
      generalize edC e2 = z2 at *
      go_enter Tryd.func8, Tryd.ntmps8
      go_wp2_with fail
      refine (awake_calls _ HTZ.out).mono ?_
      rintro e' wA ⟨rfl, hBA⟩
      have HLR : Hid _ := (RuAt.of hr (blk_on hb hBA)).ldR
      go_wp2_with first
        | ((with_reducible show wpList _ _ _ _ _ _); refine armL (.tmp 6) 31 rfl rfl rfl HLR.out ?_)
      refine (HE1.out _).mono ?_
      rintro e' w2 ⟨rfl, hB2⟩
      obtain ⟨w3, hst3, b3, hB3⟩ := box_new Tryd.sizeOf45 w2 zeroEL rfl z1 hln1 hon1
      have HS3 : Hid _ := hst3
      have hA3 := (hBA.trans (hB2.mono hBA.size)).trans (hB3.mono (Nat.le_trans hBA.size hB2.size))
      have HL3 : Hid _ := (RuAt.of hr (blk_on hb hA3)).ldR
      clear hst3
      go_wp2_with first
        | ((with_reducible show wpList _ _ _ _ _ _); refine armL (.tmp 6) 31 rfl rfl rfl HL3.out ?_)
        | ((with_reducible show wpList _ _ _ _ _ _); refine armS (.tmp 13) (.tmp 31) 45 rfl rfl rfl rfl HS3.out ?_)
      refine (HE2.out _).mono ?_
      rintro e' w4 ⟨rfl, hB4⟩
      obtain ⟨w5, hst5, b5, hB5⟩ := box_new Tryd.sizeOf45 w4 zeroEL rfl z2 hln2 hon2
      have HS5 : Hid _ := hst5
      have h35 := hB4.trans (hB5.mono hB4.size)
      have hA5 := hA3.trans (h35.mono hA3.size)
      have b35 := blk_on b3 h35
      clear hst5
      go_wp2_with first
        | ((with_reducible show wpList _ _ _ _ _ _); refine armS (.tmp 15) (.tmp 37) 45 rfl rfl rfl rfl HS5.out ?_)
      go_ret
      exact ⟨rfl, hBw.trans (hA5.mono hBw.size)⟩
  · have q1 : (g1 != 0) = true := by simpa using c1
    clear he1 he2 hf1 hf2 c1
    generalize edC e1 = z1 at *
    generalize edC e2 = z2 at *
    go_enter Tryd.func8, Tryd.ntmps8
    go_wp2_with fail
    refine (awake_calls _ HTZ.out).mono ?_
    rintro e' wA ⟨rfl, hBA⟩
    have HLR : Hid _ := (RuAt.of hr (blk_on hb hBA)).ldR
    go_wp2_with first
      | ((with_reducible show wpList _ _ _ _ _ _); refine armL (.tmp 6) 31 rfl rfl rfl HLR.out ?_)
    refine (HE1.out _).mono ?_
    rintro e' w2 ⟨rfl, hB2⟩
    obtain ⟨w3, hst3, b3, hB3⟩ := box_new Tryd.sizeOf45 w2 zeroEL rfl z1 hln1 hon1
    have HS3 : Hid _ := hst3
    have hA3 := (hBA.trans (hB2.mono hBA.size)).trans (hB3.mono (Nat.le_trans hBA.size hB2.size))
    have HL3 : Hid _ := (RuAt.of hr (blk_on hb hA3)).ldR
    clear hst3
    go_wp2_with first
      | ((with_reducible show wpList _ _ _ _ _ _); refine armL (.tmp 6) 31 rfl rfl rfl HL3.out ?_)
      | ((with_reducible show wpList _ _ _ _ _ _); refine armS (.tmp 13) (.tmp 31) 45 rfl rfl rfl rfl HS3.out ?_)
    refine (HE2.out _).mono ?_
    rintro e' w4 ⟨rfl, hB4⟩
    obtain ⟨w5, hst5, b5, hB5⟩ := box_new Tryd.sizeOf45 w4 zeroEL rfl z2 hln2 hon2
    have HS5 : Hid _ := hst5
    have h35 := hB4.trans (hB5.mono hB4.size)
    have hA5 := hA3.trans (h35.mono hA3.size)
    have b35 := blk_on b3 h35
    clear hst5
    go_wp2_with first
      | ((with_reducible show wpList _ _ _ _ _ _); refine armS (.tmp 15) (.tmp 37) 45 rfl rfl rfl rfl HS5.out ?_)
    go_ret
    exact ⟨rfl, hBw.trans (hA5.mono hBw.size)⟩

set_option maxRecDepth 100000 in
theorem mappingApart_open {H : Type} {enc : TypeId × Value → H} {W : World} {base : Nat} (tb : Tz W) (v0 v1 v2 v3 v4 v5 : Value) {d0 d1 d2 d3 d4 d5 : DataW H} {p0 p1 p2 p3 p4 p5 : List MemPlace}
    (o0 : Value.okWide Tryd.prog W .any base 31 v0) (h0 : DataW.Trod enc Tryd.prog W 0 (fun _ => true) true 31 v0 d0 p0)
    (o1 : Value.okWide Tryd.prog W .any base 38 v1) (h1 : DataW.Trod enc Tryd.prog W 0 (fun _ => true) true 38 v1 d1 p1)
    (o2 : Value.okWide Tryd.prog W .any base 38 v2) (h2 : DataW.Trod enc Tryd.prog W 0 (fun _ => true) true 38 v2 d2 p2)
    (o3 : Value.okWide Tryd.prog W .any base 27 v3) (h3 : DataW.Trod enc Tryd.prog W 0 (fun _ => true) true 27 v3 d3 p3)
    (o4 : Value.okWide Tryd.prog W .any base 32 v4) (h4 : DataW.Trod enc Tryd.prog W 0 (fun _ => true) true 32 v4 d4 p4)
    (o5 : Value.okWide Tryd.prog W .any base 23 v5) (h5 : DataW.Trod enc Tryd.prog W 0 (fun _ => true) true 23 v5 d5 p5) :
    Calls Tryd.prog 8 #[v0, v1, v2, v3, v4, v5] W fun e w' => e = .returned (.bool true) ∧ Below W.heap.size W w' := by
  obtain ⟨r, rfl, hr⟩ := open_rule h0
  obtain ⟨k, rfl, _, _, wk⟩ := open_int Tryd.underlying38 o1 h1
  have hk := bounds_u64 wk
  obtain ⟨n, rfl⟩ := Int.eq_ofNat_of_zero_le hk.1
  obtain ⟨k2, rfl, _, _, wk2⟩ := open_int Tryd.underlying38 o2 h2
  have hk2 := bounds_u64 wk2
  obtain ⟨m, rfl⟩ := Int.eq_ofNat_of_zero_le hk2.1
  obtain ⟨y, rfl, yf, yl⟩ := open_a4 h3
  obtain ⟨k4, rfl, _, _, wk4⟩ := open_int Tryd.underlying32 o4 h4
  have hk4 := bounds_u16 wk4
  obtain ⟨p, rfl⟩ := Int.eq_ofNat_of_zero_le hk4.1
  obtain ⟨x, rfl, xf, xl⟩ := open_a6 h5
  exact mappingApart_walk r hr n m (by omega) (by omega) y yf yl p (by omega) x xf xl W tb

end Go.Proofs.YtloadmpappjceaaDoor
