/-
  Map and Comes of the document.
-/
import Derived.Test.YtloadmpappjceaaDoorMi3
import Derived.Test.YtloadmpappjceaaDoorMj1
namespace Go.Proofs.YtloadmpappjceaaDoor
open Go Go.RowKit Go.ChangeShapes Go.WideShapes Go.ChangeAt
set_option linter.unusedVariables false
set_option linter.unusedSimpArgs false


set_option maxHeartbeats 2000000 in
set_option maxRecDepth 100000 in
theorem RMap_any (r : Ru) (hr : r.In) (y : List Int) (yf : FitB y) (yl : y.length = 4) (n : Nat) (hn : n < 65536) (w : World) :
    Calls Tryd.prog 24 #[RV r, A4L y, .int .u16 n] w fun e w' => e = .returned (mapE r y n) ∧ Below w.heap.size w w' := by
  generalize hQ : (fun (e : Ending) (w' : World) => e = .returned (mapE r y n) ∧ Below w.heap.size w w') = Q
  have HQ : Hid _ := hQ
  clear hQ
  obtain ⟨hb, hby, hbz, hBw⟩ := three_box w (RO r) (YO y) (.cells zero16V.toArray 23)
  have HOF : Hid _ := fun W => ROf_r r hr y yf yl n hn W
  have HLR : Hid _ := (RuAt.of hr hb).ldR
  have HLY : Hid _ := load_y yl hby
  generalize hW : ((w.alloc (RO r)).alloc (YO y)).alloc (.cells zero16V.toArray 23) = W at *
  by_cases h0 : (ofV r y n).2 = 0
  · obtain ⟨hok, hck, hlt⟩ := of_ok hr h0
    have hE : mapE r y n = .tuple #[A6 (ownL r (ofV r y n).1), .int .i64 0] := by unfold mapE; rw [if_pos h0]
    rw [hE] at HQ
    rw [h0] at HOF
    have HED : Hid _ := fun W => redge_any r hok (ofV r y n).1 hlt W
    have hkw := ownL_length (v := (ofV r y n).1) hok
    have hk4 : (edg r (ofV r y n).1).l4.length = 4 := by rw [edg_l4]; exact v4L_length hok
    have hk6 : (edg r (ofV r y n).1).l6.length = 16 := by rw [edg_l6]; exact endL_length hok
    have p4 : (edC (edg r (ofV r y n).1)).toArray.extract 25 41 = (u8s (ownL r (ofV r y n).1)).toArray := by
      have l4 := cp4_length _ (edg r (ofV r y n).1).n4 hk4
      have l6 := cp6_length _ (edg r (ofV r y n).1).n6 hk6
      have := arr_cut (cp4 (edg r (ofV r y n).1).l4 (edg r (ofV r y n).1).n4 ++ PSL (edg r (ofV r y n).1).o (edg r (ofV r y n).1).l (edg r (ofV r y n).1).p ++ cp6 (edg r (ofV r y n).1).l6 (edg r (ofV r y n).1).n6) (b8 (ownL r (ofV r y n).1)) [] (n := 25) (m := 41) (by simp [l4, l6]) (by rw [b8_length, hkw])
      have e2 : edC (edg r (ofV r y n).1) = cp4 (edg r (ofV r y n).1).l4 (edg r (ofV r y n).1).n4 ++ PSL (edg r (ofV r y n).1).o (edg r (ofV r y n).1).l (edg r (ofV r y n).1).p ++ cp6 (edg r (ofV r y n).1).l6 (edg r (ofV r y n).1).n6 ++ (b8 (ownL r (ofV r y n).1) ++ []) := by
        rw [edC, edg_ow]; simp
      rw [e2]
      exact this
    unfold EV at HED
    generalize (ofV r y n).1 = v at *
    generalize (edC (edg r v)).toArray = z at *
    generalize ownL r v = ow at *
    clear hE h0 hok hck hlt hk4 hk6
    go_enter Tryd.func24, Tryd.ntmps24
    go_wp2_with first
      | ((with_reducible show wpList _ _ _ _ _ _); refine armL (.tmp 3) 31 rfl rfl rfl HLR.out ?_)
      | ((with_reducible show wpList _ _ _ _ _ _); refine armL (.tmp 4) 27 rfl rfl rfl HLY.out ?_)
    refine (HOF.out _).mono ?_
    rintro e w2 ⟨rfl, hB2⟩
    have HL2 : Hid _ := (RuAt.of hr (blk_on hb hB2)).ldR
    go_wp2_with first
      | ((with_reducible show wpList _ _ _ _ _ _); refine armL (.tmp 3) 31 rfl rfl rfl HL2.out ?_)
    refine (HED.out _).mono ?_
    rintro e w3 ⟨rfl, hB3⟩
    have hB23 := hB2.trans (hB3.mono hB2.size)
    obtain ⟨wE, hst, bE, hon⟩ := box_store Tryd.sizeOf23 (blk_on hbz hB23) rfl (u8s ow) (by rw [u8s_length, hkw]) (u8s_one _)
    have HLV : Hid _ := agg_loadVar (t := 23) Tryd.isAgg23 Tryd.sizeOf23 (by rw [u8s_length, hkw]) (CellsAt.of_blk bE)
    have HST : Hid _ := hst
    have HBE : Hid (Below w.heap.size w wE) := (hBw.trans (hB23.mono hBw.size)).trans (hon.below (by omega))
    have hfld : ∀ W, (Instr.field 45 (.agg z) 3).run Tryd.prog W = .ok (.agg (u8s ow).toArray) W := by
      intro W
      simp [Instr.field, go_sem, asAgg, p4, Result.andThen]
    clear hst bE hon
    go_wp2_with first
      | ((with_reducible show wpList _ _ _ _ _ _); refine armS (.tmp 6) (.tmp 24) 23 rfl rfl rfl rfl HST.out ?_)
    refine bodyPost_ret (res2c Tryd.results24 rfl HLV.out) rfl ?_
    rw [← HQ.out]
    exact ⟨rfl, HBE.out⟩
  · have hE : mapE r y n = .tuple #[.agg zero16V.toArray, .int .i64 (ofV r y n).2] := by unfold mapE; rw [if_neg h0]
    rw [hE] at HQ
    have q0 : ((ofV r y n).2 != 0) = true := by simpa using h0
    clear hE h0
    generalize (ofV r y n).2 = ce at *
    generalize (ofV r y n).1 = v at *
    go_enter Tryd.func24, Tryd.ntmps24
    go_wp2_with first
      | ((with_reducible show wpList _ _ _ _ _ _); refine armL (.tmp 3) 31 rfl rfl rfl HLR.out ?_)
      | ((with_reducible show wpList _ _ _ _ _ _); refine armL (.tmp 4) 27 rfl rfl rfl HLY.out ?_)
    refine (HOF.out _).mono ?_
    rintro e w2 ⟨rfl, hB2⟩
    obtain ⟨wE, hst, bE, hon⟩ := box_store Tryd.sizeOf23 (blk_on hbz hB2) rfl zero16V rfl (by decide)
    have HLV : Hid _ := agg_loadVar (t := 23) Tryd.isAgg23 Tryd.sizeOf23 rfl (CellsAt.of_blk bE)
    have HST : Hid _ := hst
    have HBE : Hid (Below w.heap.size w wE) := (hBw.trans (hB2.mono hBw.size)).trans (hon.below (by omega))
    clear hst bE hon
    go_wp2_with first
      | ((with_reducible show wpList _ _ _ _ _ _); refine armS (.tmp 6) (.tmp 19) 23 rfl rfl rfl rfl HST.out ?_)
      | ((with_reducible show wpList _ _ _ _ _ _); refine armV (Op.build 23 #[]) rfl rfl (v := .agg zero16V.toArray) (by kernel_rfl) ?_)
    refine bodyPost_ret (res2c Tryd.results24 rfl HLV.out) rfl ?_
    rw [← HQ.out]
    exact ⟨rfl, HBE.out⟩


set_option maxHeartbeats 4000000 in
set_option maxRecDepth 100000 in
theorem RComes_any (r : Ru) (hr : r.In) (x : List Int) (xf : FitB x) (xl : x.length = 16) (y : List Int) (yf : FitB y) (yl : y.length = 4) (n : Nat) (hn : n < 65536) (w : World) :
    Calls Tryd.prog 28 #[RV r, .agg (b8 x).toArray, A4L y, .int .u16 n] w fun e w' => e = .returned (comesE r x y n) ∧ Below w.heap.size w w' := by
  obtain ⟨hb, hbx, hby, hBw⟩ := three_box w (RO r) (XO x) (YO y)
  have HMP : Hid _ := fun W => RMap_any r hr y yf yl n hn W
  have HLR : Hid _ := (RuAt.of hr hb).ldR
  have HLY : Hid _ := load_y yl hby
  generalize hW : ((w.alloc (RO r)).alloc (XO x)).alloc (YO y) = W at *
  by_cases h0 : (ofV r y n).2 = 0
  · obtain ⟨hok, hck, hlt⟩ := of_ok hr h0
    have hM : mapE r y n = .tuple #[.agg (b8 (ownL r (ofV r y n).1)).toArray, .int .i64 0] := by unfold mapE; rw [if_pos h0]; rfl
    have hE : comesE r x y n = .tuple #[.bool (decide (ownL r (ofV r y n).1 = x)), .int .i64 0] := by unfold comesE; rw [h0]; rfl
    rw [hE]
    rw [hM] at HMP
    have hkw := ownL_length (v := (ofV r y n).1) hok
    have hfw := ownL_fit (v := (ofV r y n).1) hok
    have HEQ : Hid (∀ W, (binOp .eql 23 (.agg (b8 x).toArray) (.agg (b8 (ownL r (ofV r y n).1)).toArray)).run Tryd.prog W = .ok (.bool (decide (ownL r (ofV r y n).1 = x))) W) := fun W => by
      have := (by rw [show decide (ownL r (ofV r y n).1 = x) = decide (x = ownL r (ofV r y n).1) from decide_eq_decide.2 ⟨Eq.symm, Eq.symm⟩]; exact eqlA6 x _ xf hfw xl hkw W : (binOp .eql 23 (.agg (b8 x).toArray) (.agg (b8 (ownL r (ofV r y n).1)).toArray)).run Tryd.prog W = .ok (.bool (decide (ownL r (ofV r y n).1 = x))) W)
      exact this
    generalize (ofV r y n).1 = v at *
    generalize ownL r v = ow at *
    generalize decide (ow = x) = bb at *
    clear hE hM h0 hok hck hlt
    go_enter Tryd.func28, Tryd.ntmps28
    go_wp2_with first
      | ((with_reducible show wpList _ _ _ _ _ _); refine armL (.tmp 4) 31 rfl rfl rfl HLR.out ?_)
      | ((with_reducible show wpList _ _ _ _ _ _); refine armL (.tmp 6) 27 rfl rfl rfl HLY.out ?_)
    refine (HMP.out _).mono ?_
    rintro e w2 ⟨rfl, hB2⟩
    obtain ⟨w3, hst3, b3, hB3⟩ := box_new Tryd.sizeOf23 w2 zero16V rfl (b8 ow) (by rw [b8_length, hkw]) (b8_one _)
    have HS3 : Hid _ := hst3
    have hB23 := hB2.trans (hB3.mono hB2.size)
    have HLO : Hid _ := load_x hkw b3
    have HLX : Hid _ := load_x xl (blk_on hbx hB23)
    have HEQ3 : Hid _ := HEQ.out w3
    clear hst3 b3
    go_wp2_with first
      | ((with_reducible show wpList _ _ _ _ _ _); refine armLg (.tmp 10) 23 rfl rfl rfl HLO.out ?_)
      | ((with_reducible show wpList _ _ _ _ _ _); refine armLg (.tmp 5) 23 rfl rfl rfl HLX.out ?_)
      | ((with_reducible show wpList _ _ _ _ _ _); refine armS (.tmp 10) (.tmp 17) 23 rfl rfl rfl rfl HS3.out ?_)
      | ((with_reducible show wpList _ _ _ _ _ _); refine armB .eql 23 23 (.tmp 28) (.tmp 29) rfl rfl rfl rfl (gdA6 _ _ _ _ _ _) HEQ3.out ?_)
    go_returns
    exact ⟨rfl, hBw.trans (hB23.mono hBw.size)⟩
  · have hM : mapE r y n = .tuple #[.agg zero16V.toArray, .int .i64 (ofV r y n).2] := by unfold mapE; rw [if_neg h0]
    rw [hM] at HMP
    have q0 : ((ofV r y n).2 == 0) = false := by simpa using h0
    obtain ⟨bb, ee, hE, hcase⟩ : ∃ (bb : Bool) (ee : Int), comesE r x y n = .tuple #[.bool false, .int .i64 ee] ∧ (((ofV r y n).2 == 82) = true ∧ ee = 0 ∨ ((ofV r y n).2 == 82) = false ∧ ((ofV r y n).2 == 91) = true ∧ ee = 0 ∨ ((ofV r y n).2 == 82) = false ∧ ((ofV r y n).2 == 91) = false ∧ ee = (ofV r y n).2) := by
      unfold comesE
      by_cases c1 : (ofV r y n).2 = 82
      · exact ⟨true, 0, by rw [if_pos (.inl c1)], .inl ⟨by simpa using c1, rfl⟩⟩
      · by_cases c2 : (ofV r y n).2 = 91
        · exact ⟨true, 0, by rw [if_pos (.inr c2)], .inr (.inl ⟨by simpa using c1, by simpa using c2, rfl⟩)⟩
        · exact ⟨true, _, by rw [if_neg (fun k => k.elim c1 c2), if_neg h0], .inr (.inr ⟨by simpa using c1, by simpa using c2, rfl⟩)⟩
    rw [hE]
    clear hE h0 hM
    generalize (ofV r y n).2 = ce at *
    rcases hcase with ⟨c1, rfl⟩ | ⟨c1, c2, rfl⟩ | ⟨c1, c2, rfl⟩
    all_goals
      go_enter Tryd.func28, Tryd.ntmps28
      go_wp2_with first
        | ((with_reducible show wpList _ _ _ _ _ _); refine armL (.tmp 4) 31 rfl rfl rfl HLR.out ?_)
        | ((with_reducible show wpList _ _ _ _ _ _); refine armL (.tmp 6) 27 rfl rfl rfl HLY.out ?_)
      refine (HMP.out _).mono ?_
      rintro e w2 ⟨rfl, hB2⟩
      obtain ⟨w3, hst3, b3, hB3⟩ := box_new Tryd.sizeOf23 w2 zero16V rfl zero16V rfl (by decide)
      have HS3 : Hid _ := hst3
      have hB23 := hB2.trans (hB3.mono hB2.size)
      clear hst3 b3
      go_wp2_with first
        | ((with_reducible show wpList _ _ _ _ _ _); refine armS (.tmp 10) (.tmp 17) 23 rfl rfl rfl rfl HS3.out ?_)
      go_returns
      exact ⟨rfl, hBw.trans (hB23.mono hBw.size)⟩

end Go.Proofs.YtloadmpappjceaaDoor
