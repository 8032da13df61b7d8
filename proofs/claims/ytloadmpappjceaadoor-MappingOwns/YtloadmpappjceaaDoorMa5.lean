/-
  Check of the document.
-/
import Derived.Test.YtloadmpappjceaaDoorMa4
namespace Go.Proofs.YtloadmpappjceaaDoor
open Go Go.RowKit
set_option linter.unusedVariables false
set_option linter.unusedSimpArgs false


set_option maxHeartbeats 2000000 in
set_option maxRecDepth 100000 in
theorem RCheck_r (r : Ru) (hr : r.In) (w : World) :
    Calls Tryd.prog 15 #[RV r] w fun e w' => e = .returned (.int .i64 (ckE r)) ∧ Below w.heap.size w w' := by
  have hB0 := bA w (RO r)
  have hb := blk_new w (RO r)
  have HC6 : Hid _ := fun W => RCheck6_calls r.l6 r.n6 W hr.f6 hr.k6 hr.b6
  have HC4 : Hid _ := fun W => RCheck4_L r.l4 r.n4 W hr.f4 hr.k4 hr.b4
  have hD6 := (RuAt.of hr hb).ld6
  have HD6 : Hid _ := hD6
  clear hD6
  cases c6 : okP6 r.l6 r.n6
  · have e : ckE r = 22 := by unfold ckE; rw [c6]; rfl
    rw [e]
    rw [c6] at HC6
    clear HC4 e c6
    generalize hW : w.alloc (RO r) = W at *
    clear hb
    generalize r.l6 = l6 at *
    generalize r.n6 = n6 at *
    generalize rc r = cs at *
    go_enter Tryd.func15, Tryd.ntmps15
    go_wp2_with first
      | ((with_reducible show wpList _ _ _ _ _ _); refine armL (.tmp 3) 25 rfl rfl rfl HD6.out ?_)
    refine (HC6.out _).mono ?_
    rintro e w2 ⟨rfl, hB2⟩
    go_wp2
    go_ret
    exact ⟨rfl, hB0.trans (hB2.mono hB0.size)⟩
  · rw [c6] at HC6
    have hn6 := ok6_le c6
    cases c4 : okP4L r.l4 r.n4
    · have e : ckE r = 22 := by unfold ckE; rw [c6, c4]; rfl
      rw [e]
      rw [c4] at HC4
      clear e c6 c4
      generalize hW : w.alloc (RO r) = W at *
      go_enter Tryd.func15, Tryd.ntmps15
      go_wp2_with first
        | ((with_reducible show wpList _ _ _ _ _ _); refine armL (.tmp 3) 25 rfl rfl rfl HD6.out ?_)
      refine (HC6.out _).mono ?_
      rintro e w2 ⟨rfl, hB2⟩
      have HD4 : Hid _ := (RuAt.of hr (blk_on hb hB2)).ld4
      clear hb
      go_wp2_with first
        | ((with_reducible show wpList _ _ _ _ _ _); refine armLg (.tmp 8) 29 rfl rfl rfl HD4.out ?_)
      refine (HC4.out _).mono ?_
      rintro e w3 ⟨rfl, hB3⟩
      go_wp2
      go_ret
      exact ⟨rfl, (hB0.trans (hB2.mono hB0.size)).trans (hB3.mono (Nat.le_trans hB0.size hB2.size))⟩
    · rw [c4] at HC4
      have hn4 := ok4_le c4
      have hE : ckE r = if rgOk r then 0 else 100 := by unfold ckE; rw [c6, c4]; rfl
      have hbe := hr.be
      have hbo := hr.bo
      unfold In64 at hbe hbo
      by_cases hx : 0 ≤ r.ea ∧ r.ea ≤ 48 ∧ r.n6 + r.ea ≤ 64 ∧ 0 ≤ r.off ∧ r.off ≤ 15
      · have HSF : Hid _ := fun W => suffix_any r hr hn4 W
        obtain ⟨x1, x2, x3, x4, x5⟩ := hx
        have hqe : qB r = max (r.ea - (32 - r.n4)) 0 := by unfold qB hB; omega
        by_cases g1 : 32 - r.n4 < r.ea
        · have hE2 : ckE r = if 16 - r.off < r.ea - (32 - r.n4) then 100 else 0 := by
            rw [hE]
            by_cases d : 16 - r.off < r.ea - (32 - r.n4)
            · rw [if_pos d, if_neg (fun k => by have := k.2.2.2.2.2; omega)]
            · rw [if_neg d, if_pos ⟨x1, x2, x3, x4, x5, by omega⟩]
          rw [hE2]
          clear hE hE2 c6 c4 hqe
          by_cases g2 : 16 - r.off < r.ea - (32 - r.n4)
          all_goals
            first
              | rw [if_pos g2]
              | rw [if_neg g2]
            generalize hW : w.alloc (RO r) = W at *
            go_enter Tryd.func15, Tryd.ntmps15
            go_wp2_with first
              | ((with_reducible show wpList _ _ _ _ _ _); refine armL (.tmp 3) 25 rfl rfl rfl HD6.out ?_)
            refine (HC6.out _).mono ?_
            rintro e w2 ⟨rfl, hB2⟩
            have HD4 : Hid _ := (RuAt.of hr (blk_on hb hB2)).ld4
            go_wp2_with first
              | ((with_reducible show wpList _ _ _ _ _ _); refine armLg (.tmp 8) 29 rfl rfl rfl HD4.out ?_)
            refine (HC4.out _).mono ?_
            rintro e w3 ⟨rfl, hB3⟩
            have hB23 := hB2.trans (hB3.mono hB2.size)
            obtain ⟨_, _, _, _, _, c16, c21, c22, c23, _, _⟩ := RuAt.of hr (blk_on hb hB23)
            obtain ⟨ldR, _, _, d16, d21, d22, d23⟩ := RuHi.of hr (blk_on hb hB23)
            have HLR : Hid _ := ldR
            have HF : Hid _ := hB0.trans (hB23.mono hB0.size)
            clear ldR hb hB0 hB2 hB3 hB23 HC6 HC4 HD6 HD4 hr
            generalize r.ea = ea at *
            generalize r.n6 = n6 at *
            generalize r.n4 = n4 at *
            generalize r.off = off at *
            have y1 : ¬ ea < 0 := by omega
            have y2 : ¬ 48 < ea := by omega
            have y3 : ¬ 64 - ea < n6 := by omega
            have y4 : ¬ off < 0 := by omega
            have y5 : ¬ 15 < off := by omega
            have g1b : decide (32 - n4 < ea) = true := decide_eq_true (by omega)
            go_wp2_with fail
            refine wp_region_hi (by kernel_rfl) (by kernel_rfl) ?_
            repeat (first | go_big_quiet_skip | (go_big_quiet_want; refine hi_load (.tmp 1) 31 rfl rfl HLR.out ?_; simp only [Act.put, List.setIfInBounds_toArray, List.set_cons_zero, List.set_cons_succ]; go_big_quiet_on) | (go_big_quiet_want; go_big_quiet_op; first | go_big_quiet_on | go_big_quiet_call (first | (go_at_call 39; with_reducible exact Hi.calls (HSF.out _)))))
            refine wpQuiet_nil ?_
            intro _ hw
            obtain ⟨y, rfl⟩ := hw
            go_wp2
            all_goals first
              | (exfalso; omega)
              | (go_ret; exact ⟨rfl, HF.out.trans (y.below.mono HF.out.size)⟩)
        · have hE2 : ckE r = 0 := by
            rw [hE, if_pos ⟨x1, x2, x3, x4, x5, by omega⟩]
          rw [hE2]
          clear hE hE2 c6 c4 hqe
          generalize hW : w.alloc (RO r) = W at *
          go_enter Tryd.func15, Tryd.ntmps15
          go_wp2_with first
            | ((with_reducible show wpList _ _ _ _ _ _); refine armL (.tmp 3) 25 rfl rfl rfl HD6.out ?_)
          refine (HC6.out _).mono ?_
          rintro e w2 ⟨rfl, hB2⟩
          have HD4 : Hid _ := (RuAt.of hr (blk_on hb hB2)).ld4
          go_wp2_with first
            | ((with_reducible show wpList _ _ _ _ _ _); refine armLg (.tmp 8) 29 rfl rfl rfl HD4.out ?_)
          refine (HC4.out _).mono ?_
          rintro e w3 ⟨rfl, hB3⟩
          have hB23 := hB2.trans (hB3.mono hB2.size)
          obtain ⟨_, _, _, _, _, c16, c21, c22, c23, _, _⟩ := RuAt.of hr (blk_on hb hB23)
          obtain ⟨ldR, _, _, d16, d21, d22, d23⟩ := RuHi.of hr (blk_on hb hB23)
          have HLR : Hid _ := ldR
          have HF : Hid _ := hB0.trans (hB23.mono hB0.size)
          clear ldR hb hB0 hB2 hB3 hB23 HC6 HC4 HD6 HD4 hr
          generalize r.ea = ea at *
          generalize r.n6 = n6 at *
          generalize r.n4 = n4 at *
          generalize r.off = off at *
          have y1 : ¬ ea < 0 := by omega
          have y2 : ¬ 48 < ea := by omega
          have y3 : ¬ 64 - ea < n6 := by omega
          have y4 : ¬ off < 0 := by omega
          have y5 : ¬ 15 < off := by omega
          have g1b : decide (32 - n4 < ea) = false := decide_eq_false (by omega)
          go_wp2_with fail
          refine wp_region_hi (by kernel_rfl) (by kernel_rfl) ?_
          repeat (first | go_big_quiet_skip | (go_big_quiet_want; refine hi_load (.tmp 1) 31 rfl rfl HLR.out ?_; simp only [Act.put, List.setIfInBounds_toArray, List.set_cons_zero, List.set_cons_succ]; go_big_quiet_on) | (go_big_quiet_want; go_big_quiet_op; first | go_big_quiet_on | go_big_quiet_call (first | (go_at_call 39; with_reducible exact Hi.calls (HSF.out _)))))
          refine wpQuiet_nil ?_
          intro _ hw
          obtain ⟨y, rfl⟩ := hw
          go_wp2
          all_goals first
            | (exfalso; omega)
            | (go_ret; exact ⟨rfl, HF.out.trans (y.below.mono HF.out.size)⟩)
      · have e : ckE r = 100 := by rw [hE, if_neg (fun d => hx ⟨d.1, d.2.1, d.2.2.1, d.2.2.2.1, d.2.2.2.2.1⟩)]
        rw [e]
        clear e hE c6 c4
        generalize hW : w.alloc (RO r) = W at *
        go_enter Tryd.func15, Tryd.ntmps15
        go_wp2_with first
          | ((with_reducible show wpList _ _ _ _ _ _); refine armL (.tmp 3) 25 rfl rfl rfl HD6.out ?_)
        refine (HC6.out _).mono ?_
        rintro e w2 ⟨rfl, hB2⟩
        have HD4 : Hid _ := (RuAt.of hr (blk_on hb hB2)).ld4
        go_wp2_with first
          | ((with_reducible show wpList _ _ _ _ _ _); refine armLg (.tmp 8) 29 rfl rfl rfl HD4.out ?_)
        refine (HC4.out _).mono ?_
        rintro e w3 ⟨rfl, hB3⟩
        have hB23 := hB2.trans (hB3.mono hB2.size)
        obtain ⟨_, _, _, _, _, c16, c21, c22, c23, _, _⟩ := RuAt.of hr (blk_on hb hB23)
        have HF : Hid _ := hB0.trans (hB23.mono hB0.size)
        clear HC6 HC4 HD6 HD4 hb hr hB0 hB2 hB3 hB23
        generalize r.ea = ea at *
        generalize r.n6 = n6 at *
        generalize r.off = off at *
        by_cases x1 : ea < 0
        · go_wp2
          go_ret
          exact ⟨rfl, HF.out⟩
        · by_cases x2 : 48 < ea
          · go_wp2
            go_ret
            exact ⟨rfl, HF.out⟩
          · by_cases x3 : 64 - ea < n6
            · go_wp2
              all_goals first
                | (exfalso; omega)
                | (go_ret; exact ⟨rfl, HF.out⟩)
            · by_cases x4 : off < 0
              · go_wp2
                all_goals first
                  | (exfalso; omega)
                  | (go_ret; exact ⟨rfl, HF.out⟩)
              · have x5 : 15 < off := by omega
                go_wp2
                all_goals first
                  | (exfalso; omega)
                  | (go_ret; exact ⟨rfl, HF.out⟩)

end Go.Proofs.YtloadmpappjceaaDoor
