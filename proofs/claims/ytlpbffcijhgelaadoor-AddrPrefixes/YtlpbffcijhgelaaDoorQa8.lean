/-
  The walk of the document's Read6.
-/
import Derived.Test.YtlpbffcijhgelaaDoorQa7
import Derived.Test.YtlpbffcijhgelaaDoorAddrPfx
namespace Go.Proofs.YtlpbffcijhgelaaDoor
set_option linter.unusedVariables false
set_option linter.unusedSimpArgs false
open Go Go.RowKit

set_option maxHeartbeats 8000000 in
set_option maxRecDepth 100000 in
theorem Read6_ref (s : ByteArray) (w : World) (hs : s.size ≤ 140737488355328) :
    Calls Tryd.prog 57 #[.string s] w fun e w' => Read6Post s w e w' := by
  have hl := txt_length s
  generalize hQ : (fun e w' => Read6Post s w e w') = Q
  have HQ : Hid _ := hQ
  clear hQ
  obtain ⟨W1, hst, b1, hB1⟩ := box_new Tryd.sizeOf89 (w.alloc (.cells (sixL (.slice none 0 0) 0 ⟨#[]⟩).toArray 89)) (sixL (.slice none 0 0) 0 ⟨#[]⟩) rfl (sixL (.slice none 0 0) (-1) ⟨#[]⟩) rfl (by simp [sixL, Value.oneCell'])
  have hz : (w.alloc (.cells (sixL (.slice none 0 0) 0 ⟨#[]⟩).toArray 89)).heap.size = w.heap.size + 1 := by simp
  have hres := blk_new w (.cells (sixL (.slice none 0 0) 0 ⟨#[]⟩).toArray 89)
  have hB0 := (Below.refl w.heap.size w).alloc (Nat.le_refl _) (.cells (sixL (.slice none 0 0) 0 ⟨#[]⟩).toArray 89)
  rw [hz] at hst b1 hB1
  have hX0 : SixAt w W1 (.slice none 0 0) ⟨#[]⟩ ⟨[], -1, []⟩ := ⟨b1, (hB1.block _ (by omega)).trans hres, World.ownsRow_nil _ _ _ _, rfl, hB0.trans (hB1.mono (by omega)), (Array.getElem?_eq_some_iff.1 b1).1⟩
  have HST : Hid _ := hst
  clear hst b1 hB1 hz hres hB0
  go_enter Tryd.func57, Tryd.ntmps57
  go_wp2_with ((with_reducible show wpList _ _ _ _ _ _); refine arm_store rfl (.tmp 4) (.tmp 11) 89 rfl rfl rfl HST.out ?_)
  go_loopw [5] (fun i wr => ∃ (k : Nat) (v : Value) (p : ByteArray) (x : SixS), k ≤ s.size ∧ i = .int .i64 k ∧ SixAt w wr v p x ∧ x.Ok k ∧ read6 (txt s) s.size 0 ⟨[], -1, []⟩ = read6 (txt s) (s.size - k) k x) (fun i _ => s.size - (intOf i).toNat)
  case atStart => exact ⟨0, _, _, _, Nat.zero_le _, rfl, hX0, ⟨by simp, by decide, by simp, by simp⟩, rfl⟩
  case round =>
    obtain ⟨k, v, p, x, hk, rfl, hX, hok, hrd⟩ := hrel
    clear hX0 HST
    have HX : Hid _ := hX
    by_cases hlt : k < s.size
    · have hx := txt_at s k hlt
      have hb := byte_at s k hlt
      have hstep := read6_step (txt s) k _ x hx
      rw [hl] at hstep
      have hrd2 := hrd.trans hstep
      have hps : p.size = x.part.length := by rw [← hX.part, txt_length]
      have hp0 : x.part = [] ↔ p.size = 0 := by rw [← hX.part]; exact txt_empty p
      obtain ⟨a, cap, rfl⟩ := hX.form
      obtain ⟨c0, c1, c2⟩ := hX.cells
      have C0 : Hid _ := c0
      have C1 : Hid _ := c1
      have C2 : Hid _ := c2
      have d0 := c0 (Hi.refl wr)
      have d1 := c1 (Hi.refl wr)
      have d2 := c2 (Hi.refl wr)
      simp only [Hi.refl] at d0 d1 d2
      have hfew := hok.few
      have hgap := hok.gap
      have HGO : Hid (∀ y, x.step (txt s) k (((s[k]'hlt).toNat : Nat) : Int) = some y → read6 (txt s) s.size 0 ⟨[], -1, []⟩ = read6 (txt s) (s.size - (k + 1)) (k + 1) y) := fun y h => by rw [hrd2, h]
      have HNO : Hid (x.step (txt s) k (((s[k]'hlt).toNat : Nat) : Int) = none → read6 (txt s) s.size 0 ⟨[], -1, []⟩ = (x, k)) := fun h => by rw [hrd2, h]
      have HOK : Hid (∀ y, x.step (txt s) k (((s[k]'hlt).toNat : Nat) : Int) = some y → y.Ok (k + 1)) := fun y h => step_ok h hok
      have HTX : Hid _ := hx
      clear hstep hX hrd hrd2 c0 c1 c2 hx
      by_cases hc : (((s[k]'hlt).toNat : Nat) : Int) = 58
      · have q0 : ((((s[k]'hlt).toNat : Nat) : Int) == 58) = true := by simpa using hc
        by_cases he : p.size = 0
        · have hse := toList_none p he
          have hpe := hp0.2 he
          by_cases hk0 : k = 0
          · subst hk0
            have hy : x.step (txt s) 0 (((s[0]'hlt).toNat : Nat) : Int) = some x := by
              unfold SixS.step
              rw [if_pos ⟨hc, hpe⟩, if_pos rfl]
            have HR : Hid _ := HGO.out x hy
            have HO : Hid _ := HOK.out x hy
            clear hy HGO HNO HOK hpe hp0
            go_wp2
            exact ⟨⟨1, _, _, x, by omega, rfl, HX.out, HO.out, HR.out⟩, by simp [intOf]; omega⟩
          · obtain ⟨j, rfl⟩ : ∃ j, k = j + 1 := ⟨k - 1, by omega⟩
            have hj : j < s.size := by omega
            have hxj := txt_at s j hj
            have hbj := byte_at s j hj
            have hl7 : ((x.L.length : Nat) : Int) ≤ 7 := by omega
            have hcond : x.step (txt s) (j + 1) (((s[j + 1]'hlt).toNat : Nat) : Int) = if (((s[j]'hj).toNat : Nat) : Int) = 58 ∧ x.gap < 0 then some { x with gap := x.L.length } else none := by
              unfold SixS.step
              rw [if_pos ⟨hc, hpe⟩, if_neg (by omega)]
              simp only [Nat.add_sub_cancel, hxj, Option.some.injEq, hfew, and_true]
            by_cases hsec : (((s[j]'hj).toNat : Nat) : Int) = 58 ∧ x.gap < 0
            · rw [if_pos hsec] at hcond
              have q1 : ((((s[j]'hj).toNat : Nat) : Int) == 58) = true := by simpa using hsec.1
              have q2 := hsec.2
              have HR : Hid _ := HGO.out _ hcond
              have HO : Hid _ := HOK.out _ hcond
              have HS : Hid _ := HX.out.setGap (x.L.length : Int)
              have hfz := blk_open HX.out.box 1
              clear hcond HGO HNO HOK hpe hp0 hsec hxj
              go_wp2
              exact ⟨⟨j + 1 + 1, _, _, _, by omega, by simp, HS.out, HO.out, HR.out⟩, by simp [intOf]; omega⟩
            · rw [if_neg hsec] at hcond
              have HRD : Hid _ := HNO.out hcond
              clear hcond HGO HNO HOK hpe hp0
              by_cases h58 : (((s[j]'hj).toNat : Nat) : Int) = 58
              · have q1 : ((((s[j]'hj).toNat : Nat) : Int) == 58) = true := by simpa using h58
                have q2 : ¬ x.gap < 0 := fun h => hsec ⟨h58, h⟩
                clear hsec hxj
                obtain ⟨r0, r1, r2, rf⟩ := HX.out.rcell
                have HE2 : Hid _ := HX.out.end2
                go_wp2
                refine bodyPost_ret (res_cell2 Tryd.results57 rfl HE2.out.1) rfl ?_
                rw [← HQ.out]
                exact ⟨_, _, by rw [HRD.out]; rfl, by rw [HRD.out]; exact HE2.out.2.1, by rw [HRD.out]; exact HX.out.part, HE2.out.2.2⟩
              · have q1 : ((((s[j]'hj).toNat : Nat) : Int) == 58) = false := by simpa using h58
                clear hsec hxj
                obtain ⟨r0, r1, r2, rf⟩ := HX.out.rcell
                have HE2 : Hid _ := HX.out.end2
                go_wp2
                refine bodyPost_ret (res_cell2 Tryd.results57 rfl HE2.out.1) rfl ?_
                rw [← HQ.out]
                exact ⟨_, _, by rw [HRD.out]; rfl, by rw [HRD.out]; exact HE2.out.2.1, by rw [HRD.out]; exact HX.out.part, HE2.out.2.2⟩
        · have hse := toList_empty p he
          have hpe : ¬ x.part = [] := fun h => he (hp0.1 h)
          have hstp : x.step (txt s) k (((s[k]'hlt).toNat : Nat) : Int) = if grpB x.part = false ∨ x.room ≤ x.L.length + 1 then none else some { x with L := x.L ++ [valF x.part], part := [] } := by
            unfold SixS.step
            rw [if_neg (fun h => hpe h.2), if_pos hc]
          have hgr : ∀ y : Hi wr, Calls Tryd.prog 77 #[.string p] y.W fun e w' => e = .returned (.bool (grpB x.part)) ∧ Below y.W.heap.size y.W w' := fun y => by
            have := group_ref p y.W (by have := hok.short; omega)
            rw [HX.out.part] at this
            exact this.mono fun e w' h => ⟨h.1, by rw [h.2]; exact Below.refl _ _⟩
          have hrm : ∀ y : Hi wr, Calls Tryd.prog 78 #[.agg (sixL (.slice a x.L.length cap) x.gap p).toArray] y.W fun e w' => e = .returned (.int .i64 x.room) ∧ Below y.W.heap.size y.W w' := fun y => by
            exact room_ref _ _ _ y.W rfl rfl (by omega)
          have HRM : Hid _ := hrm
          have HLD : Hid _ := fun y : Hi wr => HX.out.load y
          have hroom : x.room = 7 ∨ x.room = 8 := by unfold SixS.room; split <;> simp
          clear hrm
          have c0 := C0.out
          have c1 := C1.out
          have c2 := C2.out
          cases hgb : grpB x.part with
          | false =>
            rw [hgb] at hgr
            have HGR : Hid _ := hgr
            have HRD : Hid _ := HNO.out (by rw [hstp, if_pos (.inl hgb)])
            clear hgr hgb hstp HGO HNO HOK hpe hp0
            go_wp2_with fail
            refine wp_region_hi (by kernel_rfl) (by kernel_rfl) ?_
            repeat (first
              | go_big_quiet_skip
              | (go_big_quiet_want; refine hi_load (.tmp 4) 89 rfl rfl HLD.out ?_; simp only [Act.put, List.setIfInBounds_toArray, List.set_cons_zero, List.set_cons_succ]; go_big_quiet_on)
              | (go_big_quiet_want; go_big_quiet_op; first | go_big_quiet_on | go_big_quiet_call (first | (go_at_call 77; exact Hi.calls (HGR.out _)) | (go_at_call 78; exact Hi.calls (HRM.out _)) | (go_at_call 50; exact Hi.calls (HBG.out _)))))
            refine wpQuiet_nil ?_
            intro _ hw
            obtain ⟨y, rfl⟩ := hw
            have HX : Hid _ := HX.out.up y.below
            obtain ⟨wE, hst, hlv, hrow, hbE⟩ := HX.out.end_
            have HL : Hid _ := HX.out.load (Hi.refl _)
            have HST : Hid _ := hst
            have HLV : Hid _ := hlv
            have HRW : Hid _ := hrow
            have HBE : Hid _ := hbE
            clear hst hlv hrow hbE
            go_wp2_with first
              | ((with_reducible show wpList _ _ _ _ _ _); refine armL (.tmp 4) 89 rfl rfl rfl HL.out ?_)
              | ((with_reducible show wpList _ _ _ _ _ _); refine armS (.tmp 2) (.tmp 128) 89 rfl rfl rfl rfl HST.out ?_)
            refine bodyPost_ret (res_cell2 Tryd.results57 rfl HLV.out) rfl ?_
            rw [← HQ.out]
            exact ⟨_, _, by rw [HRD.out]; rfl, by rw [HRD.out]; exact HRW.out, by rw [HRD.out]; exact HX.out.part, HBE.out⟩
          | true =>
            rw [hgb] at hgr
            have HGR : Hid _ := hgr
            clear hgr
            by_cases hrr : x.room ≤ x.L.length + 1
            · have HRD : Hid _ := HNO.out (by rw [hstp, if_pos (.inr hrr)])
              clear hgb hstp HGO HNO HOK hpe hp0
              generalize x.room = r at *
              go_wp2_with fail
              refine wp_region_hi (by kernel_rfl) (by kernel_rfl) ?_
              repeat (first
                | go_big_quiet_skip
                | (go_big_quiet_want; refine hi_load (.tmp 4) 89 rfl rfl HLD.out ?_; simp only [Act.put, List.setIfInBounds_toArray, List.set_cons_zero, List.set_cons_succ]; go_big_quiet_on)
                | (go_big_quiet_want; go_big_quiet_op; first | go_big_quiet_on | go_big_quiet_call (first | (go_at_call 77; exact Hi.calls (HGR.out _)) | (go_at_call 78; exact Hi.calls (HRM.out _)) | (go_at_call 50; exact Hi.calls (HBG.out _)))))
              refine wpQuiet_nil ?_
              intro _ hw
              obtain ⟨y, rfl⟩ := hw
              have HX : Hid _ := HX.out.up y.below
              obtain ⟨wE, hst, hlv, hrow, hbE⟩ := HX.out.end_
              have HL : Hid _ := HX.out.load (Hi.refl _)
              have HST : Hid _ := hst
              have HLV : Hid _ := hlv
              have HRW : Hid _ := hrow
              have HBE : Hid _ := hbE
              clear hst hlv hrow hbE
              go_wp2_with first
                | ((with_reducible show wpList _ _ _ _ _ _); refine armL (.tmp 4) 89 rfl rfl rfl HL.out ?_)
                | ((with_reducible show wpList _ _ _ _ _ _); refine armS (.tmp 2) (.tmp 128) 89 rfl rfl rfl rfl HST.out ?_)
              refine bodyPost_ret (res_cell2 Tryd.results57 rfl HLV.out) rfl ?_
              rw [← HQ.out]
              exact ⟨_, _, by rw [HRD.out]; rfl, by rw [HRD.out]; exact HRW.out, by rw [HRD.out]; exact HX.out.part, HBE.out⟩
            · have hstp := hstp.trans (if_neg (fun h => h.elim (fun h => by rw [hgb] at h; cases h) hrr))
              have HR : Hid _ := HGO.out _ hstp
              have HO : Hid _ := HOK.out _ hstp
              clear hstp HGO HNO HOK hpe hp0
              generalize x.room = r at *
              go_wp2_with fail
              refine wp_region_hi (by kernel_rfl) (by kernel_rfl) ?_
              repeat (first
                | go_big_quiet_skip
                | (go_big_quiet_want; refine hi_load (.tmp 4) 89 rfl rfl HLD.out ?_; simp only [Act.put, List.setIfInBounds_toArray, List.set_cons_zero, List.set_cons_succ]; go_big_quiet_on)
                | (go_big_quiet_want; go_big_quiet_op; first | go_big_quiet_on | go_big_quiet_call (first | (go_at_call 77; exact Hi.calls (HGR.out _)) | (go_at_call 78; exact Hi.calls (HRM.out _)) | (go_at_call 50; exact Hi.calls (HBG.out _)))))
              refine wpQuiet_nil ?_
              intro _ hw
              obtain ⟨y, rfl⟩ := hw
              have HX : Hid _ := HX.out.up y.below
              have hval : ∀ W, Calls Tryd.prog 79 #[.string p] W fun e w' => ∃ u, e = .returned u ∧ (u = .int .i64 (valF x.part) ∧ w' = W) := fun W => by
                have := value_ref p W (by rw [HX.out.part]; exact hgb)
                rw [HX.out.part] at this
                exact this.mono fun e w' h => ⟨_, h.1, rfl, h.2⟩
              have HV : Hid _ := hval
              generalize y.W = V at *
              have HXd : SixAt w V.drew (.slice a x.L.length cap) p x := HX.out.up ((Below.refl _ _).drew)
              generalize hVd : V.drew = Vd at *
              obtain ⟨e0, e1, e2⟩ := HXd.cells
              obtain ⟨v', w1, hrun, ⟨a', cap', rfl⟩, hX1, f0, ff⟩ := HXd.push (by omega) (valF x.part) 87
              have HS : Hid _ := hX1.setPart ⟨#[]⟩
              have k2 := hX1.cells.2.2 (Hi.refl _)
              have kf := blk_open hX1.box
              simp only [Hi.refl] at k2
              have HRN : Hid _ := hrun
              have g0 := e0 (Hi.refl Vd)
              have g2 := e2 (Hi.refl Vd)
              simp only [Hi.refl] at g0 g2
              have G0 : ∀ o, (Vd.alloc o).cell? ⟨w.heap.size + 1, 0, none⟩ = some (.slice a x.L.length cap) := fun o => e0 ⟨_, (Below.refl _ Vd).alloc (Nat.le_refl _) o⟩
              clear hrun hval hX1 hgb e0 e1 e2 HX HGR HRM HLD c0 c1 c2 C0 C1 C2 d0 d1 d2
              generalize valF x.part = z at *
              go_wp2_with fail
              go_region_law (first
                | (refine step_append_ex (R := fun v w2 => v = .slice a' (x.L.length + 1) cap' ∧ w2 = w1) rfl _ _ _ _ rfl rfl rfl ⟨_, _, HRN.out, rfl, rfl⟩ ?_; rintro _ _ ⟨rfl, rfl⟩)
                | (refine step_callR rfl 79 _ (by kernel_rfl) (HV.out _) ?_; rintro _ _ ⟨rfl, rfl⟩))
              all_goals
                go_wp2
                exact ⟨⟨k + 1, _, _, _, by omega, by simp, HS.out, HO.out, HR.out⟩, by simp [intOf]; omega⟩
      · have q0 : ((((s[k]'hlt).toNat : Nat) : Int) == 58) = false := by simpa using hc
        have hstp0 : x.step (txt s) k (((s[k]'hlt).toNat : Nat) : Int) = if k = 1 ∧ (txt s)[0]? = some 58 then none else if (grpB (x.part ++ [(((s[k]'hlt).toNat : Nat) : Int)]) && decide ((x.L.length : Int) + 1 ≤ x.room)) || (begB (x.part ++ [(((s[k]'hlt).toNat : Nat) : Int)]) && (decide ((x.L.length : Int) + 2 ≤ x.room) && (decide (0 ≤ x.gap) || decide (x.L.length = 6)))) then some { x with part := x.part ++ [(((s[k]'hlt).toNat : Nat) : Int)] } else none := by
          unfold SixS.step
          rw [if_neg (fun h => hc h.1), if_neg hc]
        have hs0 : 0 < s.size := by omega
        have hx0 := txt_at s 0 hs0
        have hb0 := byte_at s 0 hs0
        rw [hx0] at hstp0
        by_cases hone : k = 1 ∧ (((s[0]'hs0).toNat : Nat) : Int) = 58
        · skip
          have HRD : Hid _ := HNO.out (by rw [hstp0, if_pos ⟨hone.1, by rw [hone.2]⟩])
          obtain ⟨hk1, h58⟩ := hone
          have q1 : ((((s[0]'hs0).toNat : Nat) : Int) == 58) = true := by simpa using h58
          clear hstp0 HGO HNO HOK hp0 hx0
          subst hk1
          obtain ⟨r0, r1, r2, rf⟩ := HX.out.rcell
          have HE2 : Hid _ := HX.out.end2
          go_wp2
          refine bodyPost_ret (res_cell2 Tryd.results57 rfl HE2.out.1) rfl ?_
          rw [← HQ.out]
          exact ⟨_, _, by rw [HRD.out]; rfl, by rw [HRD.out]; exact HE2.out.2.1, by rw [HRD.out]; exact HX.out.part, HE2.out.2.2⟩
        · rw [if_neg (fun h => hone ⟨h.1, by simpa using h.2⟩)] at hstp0
          have hdec : (((k : Int) == 1) = false) ∨ (((k : Int) == 1) = true ∧ ((((s[0]'hs0).toNat : Nat) : Int) == 58) = false) := by
            by_cases hk1 : k = 1
            · refine .inr ⟨by simp; omega, ?_⟩
              have : ¬ (((s[0]'hs0).toNat : Nat) : Int) = 58 := fun h => hone ⟨hk1, h⟩
              simpa using this
            · exact .inl (by simp; omega)
          have htq : txt (p ++ s.extract k (k + 1)) = x.part ++ [(((s[k]'hlt).toNat : Nat) : Int)] := by
            have e : ((txt s).drop k).take (k + 1 - k) = [(((s[k]'hlt).toNat : Nat) : Int)] := by
              rw [Nat.add_sub_cancel_left, drop_at HTX.out]
              rfl
            rw [txt_append, HX.out.part, txt_extract, e]
          have hqs : (p ++ s.extract k (k + 1)).size ≤ 100000 := by
            have := hok.short
            have e := congrArg List.length htq
            rw [txt_length, List.length_append] at e
            simp only [List.length_cons, List.length_nil] at e
            omega
          have HCAT : Hid (∀ W, (Op.stringOp .add p (s.extract k (k + 1))).run Tryd.prog W = .ok (.string (p ++ s.extract k (k + 1))) W) := fun W => run_string_add_sum W _ _ (by rw [← ByteArray.size_append']; omega)
          have hSP : ∀ {V : World}, SixAt w V (.slice a x.L.length cap) p x → SixAt w (V.setCell ⟨w.heap.size + 1, 2, none⟩ (.string (p ++ s.extract k (k + 1)))) (.slice a x.L.length cap) (p ++ s.extract k (k + 1)) { x with part := x.part ++ [(((s[k]'hlt).toNat : Nat) : Int)] } := fun h => by
            have := h.setPart (p ++ s.extract k (k + 1))
            rw [htq] at this
            exact this
          have hgr : ∀ y : Hi wr, Calls Tryd.prog 77 #[.string (p ++ s.extract k (k + 1))] y.W fun e w' => e = .returned (.bool (grpB (x.part ++ [(((s[k]'hlt).toNat : Nat) : Int)]))) ∧ Below y.W.heap.size y.W w' := fun y => by
            rw [← htq]
            exact Hi.calls_same (fun W => group_ref _ W (by omega)) y
          have hbg : ∀ y : Hi wr, Calls Tryd.prog 50 #[.string (p ++ s.extract k (k + 1))] y.W fun e w' => e = .returned (.bool (begB (x.part ++ [(((s[k]'hlt).toNat : Nat) : Int)]))) ∧ Below y.W.heap.size y.W w' := fun y => by
            rw [← htq]
            exact begins_ref _ y.W hqs
          have hrm : ∀ y : Hi wr, Calls Tryd.prog 78 #[.agg (sixL (.slice a x.L.length cap) x.gap p).toArray] y.W fun e w' => e = .returned (.int .i64 x.room) ∧ Below y.W.heap.size y.W w' := fun y => by
            exact room_ref _ _ _ y.W rfl rfl (by omega)
          have HRM : Hid _ := hrm
          have HGR : Hid _ := hgr
          have HBG : Hid _ := hbg
          have HSP : Hid (∀ {V : World}, _ → SixAt w (V.setCell ⟨w.heap.size + 1, 2, none⟩ (.string (p ++ s.extract k (k + 1)))) (.slice a x.L.length cap) (p ++ s.extract k (k + 1)) { x with part := x.part ++ [(((s[k]'hlt).toNat : Nat) : Int)] }) := @hSP
          have HLD : Hid _ := fun y : Hi wr => HX.out.load y
          have hroom : x.room = 7 ∨ x.room = 8 := by unfold SixS.room; split <;> simp
          have HGO2 : Hid _ := HGO.out { x with part := x.part ++ [(((s[k]'hlt).toNat : Nat) : Int)] }
          have HOK2 : Hid _ := HOK.out { x with part := x.part ++ [(((s[k]'hlt).toNat : Nat) : Int)] }
          have HNO2 : Hid _ := HNO.out
          have HSTP : Hid _ := hstp0
          clear hrm hgr hbg hSP hstp0 htq hqs hp0 hps hx0 hone HGO HOK HNO
          have c0 := C0.out
          have c1 := C1.out
          have c2 := C2.out
          have hle1 : (k : Int) + 1 ≤ (s.size : Nat) := by omega
          have hsl := slice_str s k hlt
          have hcat := HCAT.out
          have ff : ∀ y : Hi wr, ∀ j, y.W.frozen? ⟨w.heap.size + 1, j, none⟩ = false := fun y j => blk_open (Hi.blk HX.out.box y) j
          have FF : Hid _ := ff
          clear ff
          generalize hG : grpB (x.part ++ [(((s[k]'hlt).toNat : Nat) : Int)]) = G at *
          generalize hBg : begB (x.part ++ [(((s[k]'hlt).toNat : Nat) : Int)]) = Bg at *
          generalize x.room = r at *
          clear hG hBg
          rcases hdec with hd1 | ⟨hd1, hd2⟩
          · go_wp2_with fail
            go_region
            obtain ⟨y, hy⟩ : ∃ y : Hi wr, wr.drew = y.W := ⟨⟨wr.drew, (Below.refl _ _).drew⟩, rfl⟩
            rw [hy]
            clear hy hsl hcat HCAT
            generalize p ++ s.extract k (k + 1) = q at *
            go_wp2_with fail
            cases Bg with
            | false =>
              refine wp_region_up (by kernel_rfl) (by kernel_rfl) ?_
              repeat (first
                | go_big_quiet_skip
                | (go_big_quiet_want; refine hi_load (.tmp 4) 89 rfl rfl HLD.out ?_; simp only [Act.put, List.setIfInBounds_toArray, List.set_cons_zero, List.set_cons_succ]; go_big_quiet_on)
                | (go_big_quiet_want; go_big_quiet_op; first | go_big_quiet_on | go_big_quiet_call (first | (go_at_call 77; exact Hi.calls (HGR.out _)) | (go_at_call 78; exact Hi.calls (HRM.out _)) | (go_at_call 50; exact Hi.calls (HBG.out _)))))
              refine wpQuiet_nil ?_
              intro _ hw
              obtain ⟨y2, rfl⟩ := hw
              clear y
              go_wp2_with fail
              cases G with
              | false =>
                refine wp_region_up (by kernel_rfl) (by kernel_rfl) ?_
                repeat (first
                  | go_big_quiet_skip
                  | (go_big_quiet_want; refine hi_load (.tmp 4) 89 rfl rfl HLD.out ?_; simp only [Act.put, List.setIfInBounds_toArray, List.set_cons_zero, List.set_cons_succ]; go_big_quiet_on)
                  | (go_big_quiet_want; go_big_quiet_op; first | go_big_quiet_on | go_big_quiet_call (first | (go_at_call 77; exact Hi.calls (HGR.out _)) | (go_at_call 78; exact Hi.calls (HRM.out _)) | (go_at_call 50; exact Hi.calls (HBG.out _)))))
                refine wpQuiet_nil ?_
                intro _ hw
                obtain ⟨y3, rfl⟩ := hw
                clear y2
                have hst : x.step (txt s) k (((s[k]'hlt).toNat : Nat) : Int) = none := HSTP.out.trans (if_neg (by first | (simp [*]; done) | (simp [*]; omega) | (simp; omega)))
                have HRD : Hid _ := HNO2.out hst
                have HX : Hid _ := HX.out.up y3.below
                clear hst HGO2 HOK2 HNO2 HSTP HSP
                obtain ⟨r0, r1, r2, rf⟩ := HX.out.rcell
                have HE2 : Hid _ := HX.out.end2
                go_wp2
                refine bodyPost_ret (res_cell2 Tryd.results57 rfl HE2.out.1) rfl ?_
                rw [← HQ.out]
                exact ⟨_, _, by rw [HRD.out]; rfl, by rw [HRD.out]; exact HE2.out.2.1, by rw [HRD.out]; exact HX.out.part, HE2.out.2.2⟩
              | true =>
                by_cases h1 : (x.L.length : Int) + 1 ≤ r
                · refine wp_region_up (by kernel_rfl) (by kernel_rfl) ?_
                  repeat (first
                    | go_big_quiet_skip
                    | (go_big_quiet_want; refine hi_load (.tmp 4) 89 rfl rfl HLD.out ?_; simp only [Act.put, List.setIfInBounds_toArray, List.set_cons_zero, List.set_cons_succ]; go_big_quiet_on)
                    | (go_big_quiet_want; go_big_quiet_op; first | go_big_quiet_on | go_big_quiet_call (first | (go_at_call 77; exact Hi.calls (HGR.out _)) | (go_at_call 78; exact Hi.calls (HRM.out _)) | (go_at_call 50; exact Hi.calls (HBG.out _)))))
                  refine wpQuiet_nil ?_
                  intro _ hw
                  obtain ⟨y3, rfl⟩ := hw
                  clear y2
                  have hst : x.step (txt s) k (((s[k]'hlt).toNat : Nat) : Int) = some { x with part := x.part ++ [(((s[k]'hlt).toNat : Nat) : Int)] } := HSTP.out.trans (if_pos (by first | (simp [*]; done) | (simp [*]; exact .inr H6.out) | (simp [H6.out]; omega) | (simp [*]; omega) | (simp; omega)))
                  have HR : Hid _ := HGO2.out hst
                  have HO : Hid _ := HOK2.out hst
                  have HS : Hid _ := HSP.out (HX.out.up y3.below)
                  have ff := FF.out
                  clear hst HGO2 HOK2 HNO2 HSTP HSP HX
                  go_wp2
                  exact ⟨⟨k + 1, _, _, _, by omega, by simp, HS.out, HO.out, HR.out⟩, by simp [intOf]; omega⟩
                · refine wp_region_up (by kernel_rfl) (by kernel_rfl) ?_
                  repeat (first
                    | go_big_quiet_skip
                    | (go_big_quiet_want; refine hi_load (.tmp 4) 89 rfl rfl HLD.out ?_; simp only [Act.put, List.setIfInBounds_toArray, List.set_cons_zero, List.set_cons_succ]; go_big_quiet_on)
                    | (go_big_quiet_want; go_big_quiet_op; first | go_big_quiet_on | go_big_quiet_call (first | (go_at_call 77; exact Hi.calls (HGR.out _)) | (go_at_call 78; exact Hi.calls (HRM.out _)) | (go_at_call 50; exact Hi.calls (HBG.out _)))))
                  refine wpQuiet_nil ?_
                  intro _ hw
                  obtain ⟨y3, rfl⟩ := hw
                  clear y2
                  have hst : x.step (txt s) k (((s[k]'hlt).toNat : Nat) : Int) = none := HSTP.out.trans (if_neg (by first | (simp [*]; done) | (simp [*]; omega) | (simp; omega)))
                  have HRD : Hid _ := HNO2.out hst
                  have HX : Hid _ := HX.out.up y3.below
                  clear hst HGO2 HOK2 HNO2 HSTP HSP
                  obtain ⟨r0, r1, r2, rf⟩ := HX.out.rcell
                  have HE2 : Hid _ := HX.out.end2
                  go_wp2
                  refine bodyPost_ret (res_cell2 Tryd.results57 rfl HE2.out.1) rfl ?_
                  rw [← HQ.out]
                  exact ⟨_, _, by rw [HRD.out]; rfl, by rw [HRD.out]; exact HE2.out.2.1, by rw [HRD.out]; exact HX.out.part, HE2.out.2.2⟩
            | true =>
              by_cases h2 : (x.L.length : Int) + 2 ≤ r
              · by_cases hg : 0 ≤ x.gap
                · skip
                  refine wp_region_up (by kernel_rfl) (by kernel_rfl) ?_
                  repeat (first
                    | go_big_quiet_skip
                    | (go_big_quiet_want; refine hi_load (.tmp 4) 89 rfl rfl HLD.out ?_; simp only [Act.put, List.setIfInBounds_toArray, List.set_cons_zero, List.set_cons_succ]; go_big_quiet_on)
                    | (go_big_quiet_want; go_big_quiet_op; first | go_big_quiet_on | go_big_quiet_call (first | (go_at_call 77; exact Hi.calls (HGR.out _)) | (go_at_call 78; exact Hi.calls (HRM.out _)) | (go_at_call 50; exact Hi.calls (HBG.out _)))))
                  refine wpQuiet_nil ?_
                  intro _ hw
                  obtain ⟨y2, rfl⟩ := hw
                  clear y
                  go_wp2_with fail
                  cases G with
                  | false =>
                    refine wp_region_up (by kernel_rfl) (by kernel_rfl) ?_
                    repeat (first
                      | go_big_quiet_skip
                      | (go_big_quiet_want; refine hi_load (.tmp 4) 89 rfl rfl HLD.out ?_; simp only [Act.put, List.setIfInBounds_toArray, List.set_cons_zero, List.set_cons_succ]; go_big_quiet_on)
                      | (go_big_quiet_want; go_big_quiet_op; first | go_big_quiet_on | go_big_quiet_call (first | (go_at_call 77; exact Hi.calls (HGR.out _)) | (go_at_call 78; exact Hi.calls (HRM.out _)) | (go_at_call 50; exact Hi.calls (HBG.out _)))))
                    refine wpQuiet_nil ?_
                    intro _ hw
                    obtain ⟨y3, rfl⟩ := hw
                    clear y2
                    have hst : x.step (txt s) k (((s[k]'hlt).toNat : Nat) : Int) = some { x with part := x.part ++ [(((s[k]'hlt).toNat : Nat) : Int)] } := HSTP.out.trans (if_pos (by first | (simp [*]; done) | (simp [*]; exact .inr H6.out) | (simp [H6.out]; omega) | (simp [*]; omega) | (simp; omega)))
                    have HR : Hid _ := HGO2.out hst
                    have HO : Hid _ := HOK2.out hst
                    have HS : Hid _ := HSP.out (HX.out.up y3.below)
                    have ff := FF.out
                    clear hst HGO2 HOK2 HNO2 HSTP HSP HX
                    go_wp2
                    exact ⟨⟨k + 1, _, _, _, by omega, by simp, HS.out, HO.out, HR.out⟩, by simp [intOf]; omega⟩
                  | true =>
                    have h1 : (x.L.length : Int) + 1 ≤ r := by omega
                    refine wp_region_up (by kernel_rfl) (by kernel_rfl) ?_
                    repeat (first
                      | go_big_quiet_skip
                      | (go_big_quiet_want; refine hi_load (.tmp 4) 89 rfl rfl HLD.out ?_; simp only [Act.put, List.setIfInBounds_toArray, List.set_cons_zero, List.set_cons_succ]; go_big_quiet_on)
                      | (go_big_quiet_want; go_big_quiet_op; first | go_big_quiet_on | go_big_quiet_call (first | (go_at_call 77; exact Hi.calls (HGR.out _)) | (go_at_call 78; exact Hi.calls (HRM.out _)) | (go_at_call 50; exact Hi.calls (HBG.out _)))))
                    refine wpQuiet_nil ?_
                    intro _ hw
                    obtain ⟨y3, rfl⟩ := hw
                    clear y2
                    have hst : x.step (txt s) k (((s[k]'hlt).toNat : Nat) : Int) = some { x with part := x.part ++ [(((s[k]'hlt).toNat : Nat) : Int)] } := HSTP.out.trans (if_pos (by first | (simp [*]; done) | (simp [*]; exact .inr H6.out) | (simp [H6.out]; omega) | (simp [*]; omega) | (simp; omega)))
                    have HR : Hid _ := HGO2.out hst
                    have HO : Hid _ := HOK2.out hst
                    have HS : Hid _ := HSP.out (HX.out.up y3.below)
                    have ff := FF.out
                    clear hst HGO2 HOK2 HNO2 HSTP HSP HX
                    go_wp2
                    exact ⟨⟨k + 1, _, _, _, by omega, by simp, HS.out, HO.out, HR.out⟩, by simp [intOf]; omega⟩
                · by_cases h6 : x.L.length = 6
                  · have q6 : ((x.L.length : Int) == 6) = true := by simp; omega
                    have H6 : Hid (x.L.length = 6) := h6
                    clear h6
                    refine wp_region_up (by kernel_rfl) (by kernel_rfl) ?_
                    repeat (first
                      | go_big_quiet_skip
                      | (go_big_quiet_want; refine hi_load (.tmp 4) 89 rfl rfl HLD.out ?_; simp only [Act.put, List.setIfInBounds_toArray, List.set_cons_zero, List.set_cons_succ]; go_big_quiet_on)
                      | (go_big_quiet_want; go_big_quiet_op; first | go_big_quiet_on | go_big_quiet_call (first | (go_at_call 77; exact Hi.calls (HGR.out _)) | (go_at_call 78; exact Hi.calls (HRM.out _)) | (go_at_call 50; exact Hi.calls (HBG.out _)))))
                    refine wpQuiet_nil ?_
                    intro _ hw
                    obtain ⟨y2, rfl⟩ := hw
                    clear y
                    go_wp2_with fail
                    cases G with
                    | false =>
                      refine wp_region_up (by kernel_rfl) (by kernel_rfl) ?_
                      repeat (first
                        | go_big_quiet_skip
                        | (go_big_quiet_want; refine hi_load (.tmp 4) 89 rfl rfl HLD.out ?_; simp only [Act.put, List.setIfInBounds_toArray, List.set_cons_zero, List.set_cons_succ]; go_big_quiet_on)
                        | (go_big_quiet_want; go_big_quiet_op; first | go_big_quiet_on | go_big_quiet_call (first | (go_at_call 77; exact Hi.calls (HGR.out _)) | (go_at_call 78; exact Hi.calls (HRM.out _)) | (go_at_call 50; exact Hi.calls (HBG.out _)))))
                      refine wpQuiet_nil ?_
                      intro _ hw
                      obtain ⟨y3, rfl⟩ := hw
                      clear y2
                      have hst : x.step (txt s) k (((s[k]'hlt).toNat : Nat) : Int) = some { x with part := x.part ++ [(((s[k]'hlt).toNat : Nat) : Int)] } := HSTP.out.trans (if_pos (by first | (simp [*]; done) | (simp [*]; exact .inr H6.out) | (simp [H6.out]; omega) | (simp [*]; omega) | (simp; omega)))
                      have HR : Hid _ := HGO2.out hst
                      have HO : Hid _ := HOK2.out hst
                      have HS : Hid _ := HSP.out (HX.out.up y3.below)
                      have ff := FF.out
                      clear hst HGO2 HOK2 HNO2 HSTP HSP HX
                      go_wp2
                      exact ⟨⟨k + 1, _, _, _, by omega, by simp, HS.out, HO.out, HR.out⟩, by simp [intOf]; omega⟩
                    | true =>
                      have h1 : (x.L.length : Int) + 1 ≤ r := by omega
                      refine wp_region_up (by kernel_rfl) (by kernel_rfl) ?_
                      repeat (first
                        | go_big_quiet_skip
                        | (go_big_quiet_want; refine hi_load (.tmp 4) 89 rfl rfl HLD.out ?_; simp only [Act.put, List.setIfInBounds_toArray, List.set_cons_zero, List.set_cons_succ]; go_big_quiet_on)
                        | (go_big_quiet_want; go_big_quiet_op; first | go_big_quiet_on | go_big_quiet_call (first | (go_at_call 77; exact Hi.calls (HGR.out _)) | (go_at_call 78; exact Hi.calls (HRM.out _)) | (go_at_call 50; exact Hi.calls (HBG.out _)))))
                      refine wpQuiet_nil ?_
                      intro _ hw
                      obtain ⟨y3, rfl⟩ := hw
                      clear y2
                      have hst : x.step (txt s) k (((s[k]'hlt).toNat : Nat) : Int) = some { x with part := x.part ++ [(((s[k]'hlt).toNat : Nat) : Int)] } := HSTP.out.trans (if_pos (by first | (simp [*]; done) | (simp [*]; exact .inr H6.out) | (simp [H6.out]; omega) | (simp [*]; omega) | (simp; omega)))
                      have HR : Hid _ := HGO2.out hst
                      have HO : Hid _ := HOK2.out hst
                      have HS : Hid _ := HSP.out (HX.out.up y3.below)
                      have ff := FF.out
                      clear hst HGO2 HOK2 HNO2 HSTP HSP HX
                      go_wp2
                      exact ⟨⟨k + 1, _, _, _, by omega, by simp, HS.out, HO.out, HR.out⟩, by simp [intOf]; omega⟩
                  · have q6 : ((x.L.length : Int) == 6) = false := by simp; omega
                    refine wp_region_up (by kernel_rfl) (by kernel_rfl) ?_
                    repeat (first
                      | go_big_quiet_skip
                      | (go_big_quiet_want; refine hi_load (.tmp 4) 89 rfl rfl HLD.out ?_; simp only [Act.put, List.setIfInBounds_toArray, List.set_cons_zero, List.set_cons_succ]; go_big_quiet_on)
                      | (go_big_quiet_want; go_big_quiet_op; first | go_big_quiet_on | go_big_quiet_call (first | (go_at_call 77; exact Hi.calls (HGR.out _)) | (go_at_call 78; exact Hi.calls (HRM.out _)) | (go_at_call 50; exact Hi.calls (HBG.out _)))))
                    refine wpQuiet_nil ?_
                    intro _ hw
                    obtain ⟨y2, rfl⟩ := hw
                    clear y
                    go_wp2_with fail
                    cases G with
                    | false =>
                      refine wp_region_up (by kernel_rfl) (by kernel_rfl) ?_
                      repeat (first
                        | go_big_quiet_skip
                        | (go_big_quiet_want; refine hi_load (.tmp 4) 89 rfl rfl HLD.out ?_; simp only [Act.put, List.setIfInBounds_toArray, List.set_cons_zero, List.set_cons_succ]; go_big_quiet_on)
                        | (go_big_quiet_want; go_big_quiet_op; first | go_big_quiet_on | go_big_quiet_call (first | (go_at_call 77; exact Hi.calls (HGR.out _)) | (go_at_call 78; exact Hi.calls (HRM.out _)) | (go_at_call 50; exact Hi.calls (HBG.out _)))))
                      refine wpQuiet_nil ?_
                      intro _ hw
                      obtain ⟨y3, rfl⟩ := hw
                      clear y2
                      have hst : x.step (txt s) k (((s[k]'hlt).toNat : Nat) : Int) = none := HSTP.out.trans (if_neg (by first | (simp [*]; done) | (simp [*]; omega) | (simp; omega)))
                      have HRD : Hid _ := HNO2.out hst
                      have HX : Hid _ := HX.out.up y3.below
                      clear hst HGO2 HOK2 HNO2 HSTP HSP
                      obtain ⟨r0, r1, r2, rf⟩ := HX.out.rcell
                      have HE2 : Hid _ := HX.out.end2
                      go_wp2
                      refine bodyPost_ret (res_cell2 Tryd.results57 rfl HE2.out.1) rfl ?_
                      rw [← HQ.out]
                      exact ⟨_, _, by rw [HRD.out]; rfl, by rw [HRD.out]; exact HE2.out.2.1, by rw [HRD.out]; exact HX.out.part, HE2.out.2.2⟩
                    | true =>
                      have h1 : (x.L.length : Int) + 1 ≤ r := by omega
                      refine wp_region_up (by kernel_rfl) (by kernel_rfl) ?_
                      repeat (first
                        | go_big_quiet_skip
                        | (go_big_quiet_want; refine hi_load (.tmp 4) 89 rfl rfl HLD.out ?_; simp only [Act.put, List.setIfInBounds_toArray, List.set_cons_zero, List.set_cons_succ]; go_big_quiet_on)
                        | (go_big_quiet_want; go_big_quiet_op; first | go_big_quiet_on | go_big_quiet_call (first | (go_at_call 77; exact Hi.calls (HGR.out _)) | (go_at_call 78; exact Hi.calls (HRM.out _)) | (go_at_call 50; exact Hi.calls (HBG.out _)))))
                      refine wpQuiet_nil ?_
                      intro _ hw
                      obtain ⟨y3, rfl⟩ := hw
                      clear y2
                      have hst : x.step (txt s) k (((s[k]'hlt).toNat : Nat) : Int) = some { x with part := x.part ++ [(((s[k]'hlt).toNat : Nat) : Int)] } := HSTP.out.trans (if_pos (by first | (simp [*]; done) | (simp [*]; exact .inr H6.out) | (simp [H6.out]; omega) | (simp [*]; omega) | (simp; omega)))
                      have HR : Hid _ := HGO2.out hst
                      have HO : Hid _ := HOK2.out hst
                      have HS : Hid _ := HSP.out (HX.out.up y3.below)
                      have ff := FF.out
                      clear hst HGO2 HOK2 HNO2 HSTP HSP HX
                      go_wp2
                      exact ⟨⟨k + 1, _, _, _, by omega, by simp, HS.out, HO.out, HR.out⟩, by simp [intOf]; omega⟩
              · skip
                refine wp_region_up (by kernel_rfl) (by kernel_rfl) ?_
                repeat (first
                  | go_big_quiet_skip
                  | (go_big_quiet_want; refine hi_load (.tmp 4) 89 rfl rfl HLD.out ?_; simp only [Act.put, List.setIfInBounds_toArray, List.set_cons_zero, List.set_cons_succ]; go_big_quiet_on)
                  | (go_big_quiet_want; go_big_quiet_op; first | go_big_quiet_on | go_big_quiet_call (first | (go_at_call 77; exact Hi.calls (HGR.out _)) | (go_at_call 78; exact Hi.calls (HRM.out _)) | (go_at_call 50; exact Hi.calls (HBG.out _)))))
                refine wpQuiet_nil ?_
                intro _ hw
                obtain ⟨y2, rfl⟩ := hw
                clear y
                go_wp2_with fail
                cases G with
                | false =>
                  refine wp_region_up (by kernel_rfl) (by kernel_rfl) ?_
                  repeat (first
                    | go_big_quiet_skip
                    | (go_big_quiet_want; refine hi_load (.tmp 4) 89 rfl rfl HLD.out ?_; simp only [Act.put, List.setIfInBounds_toArray, List.set_cons_zero, List.set_cons_succ]; go_big_quiet_on)
                    | (go_big_quiet_want; go_big_quiet_op; first | go_big_quiet_on | go_big_quiet_call (first | (go_at_call 77; exact Hi.calls (HGR.out _)) | (go_at_call 78; exact Hi.calls (HRM.out _)) | (go_at_call 50; exact Hi.calls (HBG.out _)))))
                  refine wpQuiet_nil ?_
                  intro _ hw
                  obtain ⟨y3, rfl⟩ := hw
                  clear y2
                  have hst : x.step (txt s) k (((s[k]'hlt).toNat : Nat) : Int) = none := HSTP.out.trans (if_neg (by first | (simp [*]; done) | (simp [*]; omega) | (simp; omega)))
                  have HRD : Hid _ := HNO2.out hst
                  have HX : Hid _ := HX.out.up y3.below
                  clear hst HGO2 HOK2 HNO2 HSTP HSP
                  obtain ⟨r0, r1, r2, rf⟩ := HX.out.rcell
                  have HE2 : Hid _ := HX.out.end2
                  go_wp2
                  refine bodyPost_ret (res_cell2 Tryd.results57 rfl HE2.out.1) rfl ?_
                  rw [← HQ.out]
                  exact ⟨_, _, by rw [HRD.out]; rfl, by rw [HRD.out]; exact HE2.out.2.1, by rw [HRD.out]; exact HX.out.part, HE2.out.2.2⟩
                | true =>
                  by_cases h1 : (x.L.length : Int) + 1 ≤ r
                  · refine wp_region_up (by kernel_rfl) (by kernel_rfl) ?_
                    repeat (first
                      | go_big_quiet_skip
                      | (go_big_quiet_want; refine hi_load (.tmp 4) 89 rfl rfl HLD.out ?_; simp only [Act.put, List.setIfInBounds_toArray, List.set_cons_zero, List.set_cons_succ]; go_big_quiet_on)
                      | (go_big_quiet_want; go_big_quiet_op; first | go_big_quiet_on | go_big_quiet_call (first | (go_at_call 77; exact Hi.calls (HGR.out _)) | (go_at_call 78; exact Hi.calls (HRM.out _)) | (go_at_call 50; exact Hi.calls (HBG.out _)))))
                    refine wpQuiet_nil ?_
                    intro _ hw
                    obtain ⟨y3, rfl⟩ := hw
                    clear y2
                    have hst : x.step (txt s) k (((s[k]'hlt).toNat : Nat) : Int) = some { x with part := x.part ++ [(((s[k]'hlt).toNat : Nat) : Int)] } := HSTP.out.trans (if_pos (by first | (simp [*]; done) | (simp [*]; exact .inr H6.out) | (simp [H6.out]; omega) | (simp [*]; omega) | (simp; omega)))
                    have HR : Hid _ := HGO2.out hst
                    have HO : Hid _ := HOK2.out hst
                    have HS : Hid _ := HSP.out (HX.out.up y3.below)
                    have ff := FF.out
                    clear hst HGO2 HOK2 HNO2 HSTP HSP HX
                    go_wp2
                    exact ⟨⟨k + 1, _, _, _, by omega, by simp, HS.out, HO.out, HR.out⟩, by simp [intOf]; omega⟩
                  · refine wp_region_up (by kernel_rfl) (by kernel_rfl) ?_
                    repeat (first
                      | go_big_quiet_skip
                      | (go_big_quiet_want; refine hi_load (.tmp 4) 89 rfl rfl HLD.out ?_; simp only [Act.put, List.setIfInBounds_toArray, List.set_cons_zero, List.set_cons_succ]; go_big_quiet_on)
                      | (go_big_quiet_want; go_big_quiet_op; first | go_big_quiet_on | go_big_quiet_call (first | (go_at_call 77; exact Hi.calls (HGR.out _)) | (go_at_call 78; exact Hi.calls (HRM.out _)) | (go_at_call 50; exact Hi.calls (HBG.out _)))))
                    refine wpQuiet_nil ?_
                    intro _ hw
                    obtain ⟨y3, rfl⟩ := hw
                    clear y2
                    have hst : x.step (txt s) k (((s[k]'hlt).toNat : Nat) : Int) = none := HSTP.out.trans (if_neg (by first | (simp [*]; done) | (simp [*]; omega) | (simp; omega)))
                    have HRD : Hid _ := HNO2.out hst
                    have HX : Hid _ := HX.out.up y3.below
                    clear hst HGO2 HOK2 HNO2 HSTP HSP
                    obtain ⟨r0, r1, r2, rf⟩ := HX.out.rcell
                    have HE2 : Hid _ := HX.out.end2
                    go_wp2
                    refine bodyPost_ret (res_cell2 Tryd.results57 rfl HE2.out.1) rfl ?_
                    rw [← HQ.out]
                    exact ⟨_, _, by rw [HRD.out]; rfl, by rw [HRD.out]; exact HE2.out.2.1, by rw [HRD.out]; exact HX.out.part, HE2.out.2.2⟩
          · go_wp2_with fail
            go_region
            obtain ⟨y, hy⟩ : ∃ y : Hi wr, wr.drew = y.W := ⟨⟨wr.drew, (Below.refl _ _).drew⟩, rfl⟩
            rw [hy]
            clear hy hsl hcat HCAT
            generalize p ++ s.extract k (k + 1) = q at *
            go_wp2_with fail
            cases Bg with
            | false =>
              refine wp_region_up (by kernel_rfl) (by kernel_rfl) ?_
              repeat (first
                | go_big_quiet_skip
                | (go_big_quiet_want; refine hi_load (.tmp 4) 89 rfl rfl HLD.out ?_; simp only [Act.put, List.setIfInBounds_toArray, List.set_cons_zero, List.set_cons_succ]; go_big_quiet_on)
                | (go_big_quiet_want; go_big_quiet_op; first | go_big_quiet_on | go_big_quiet_call (first | (go_at_call 77; exact Hi.calls (HGR.out _)) | (go_at_call 78; exact Hi.calls (HRM.out _)) | (go_at_call 50; exact Hi.calls (HBG.out _)))))
              refine wpQuiet_nil ?_
              intro _ hw
              obtain ⟨y2, rfl⟩ := hw
              clear y
              go_wp2_with fail
              cases G with
              | false =>
                refine wp_region_up (by kernel_rfl) (by kernel_rfl) ?_
                repeat (first
                  | go_big_quiet_skip
                  | (go_big_quiet_want; refine hi_load (.tmp 4) 89 rfl rfl HLD.out ?_; simp only [Act.put, List.setIfInBounds_toArray, List.set_cons_zero, List.set_cons_succ]; go_big_quiet_on)
                  | (go_big_quiet_want; go_big_quiet_op; first | go_big_quiet_on | go_big_quiet_call (first | (go_at_call 77; exact Hi.calls (HGR.out _)) | (go_at_call 78; exact Hi.calls (HRM.out _)) | (go_at_call 50; exact Hi.calls (HBG.out _)))))
                refine wpQuiet_nil ?_
                intro _ hw
                obtain ⟨y3, rfl⟩ := hw
                clear y2
                have hst : x.step (txt s) k (((s[k]'hlt).toNat : Nat) : Int) = none := HSTP.out.trans (if_neg (by first | (simp [*]; done) | (simp [*]; omega) | (simp; omega)))
                have HRD : Hid _ := HNO2.out hst
                have HX : Hid _ := HX.out.up y3.below
                clear hst HGO2 HOK2 HNO2 HSTP HSP
                obtain ⟨r0, r1, r2, rf⟩ := HX.out.rcell
                have HE2 : Hid _ := HX.out.end2
                go_wp2
                refine bodyPost_ret (res_cell2 Tryd.results57 rfl HE2.out.1) rfl ?_
                rw [← HQ.out]
                exact ⟨_, _, by rw [HRD.out]; rfl, by rw [HRD.out]; exact HE2.out.2.1, by rw [HRD.out]; exact HX.out.part, HE2.out.2.2⟩
              | true =>
                by_cases h1 : (x.L.length : Int) + 1 ≤ r
                · refine wp_region_up (by kernel_rfl) (by kernel_rfl) ?_
                  repeat (first
                    | go_big_quiet_skip
                    | (go_big_quiet_want; refine hi_load (.tmp 4) 89 rfl rfl HLD.out ?_; simp only [Act.put, List.setIfInBounds_toArray, List.set_cons_zero, List.set_cons_succ]; go_big_quiet_on)
                    | (go_big_quiet_want; go_big_quiet_op; first | go_big_quiet_on | go_big_quiet_call (first | (go_at_call 77; exact Hi.calls (HGR.out _)) | (go_at_call 78; exact Hi.calls (HRM.out _)) | (go_at_call 50; exact Hi.calls (HBG.out _)))))
                  refine wpQuiet_nil ?_
                  intro _ hw
                  obtain ⟨y3, rfl⟩ := hw
                  clear y2
                  have hst : x.step (txt s) k (((s[k]'hlt).toNat : Nat) : Int) = some { x with part := x.part ++ [(((s[k]'hlt).toNat : Nat) : Int)] } := HSTP.out.trans (if_pos (by first | (simp [*]; done) | (simp [*]; exact .inr H6.out) | (simp [H6.out]; omega) | (simp [*]; omega) | (simp; omega)))
                  have HR : Hid _ := HGO2.out hst
                  have HO : Hid _ := HOK2.out hst
                  have HS : Hid _ := HSP.out (HX.out.up y3.below)
                  have ff := FF.out
                  clear hst HGO2 HOK2 HNO2 HSTP HSP HX
                  go_wp2
                  exact ⟨⟨k + 1, _, _, _, by omega, by simp, HS.out, HO.out, HR.out⟩, by simp [intOf]; omega⟩
                · refine wp_region_up (by kernel_rfl) (by kernel_rfl) ?_
                  repeat (first
                    | go_big_quiet_skip
                    | (go_big_quiet_want; refine hi_load (.tmp 4) 89 rfl rfl HLD.out ?_; simp only [Act.put, List.setIfInBounds_toArray, List.set_cons_zero, List.set_cons_succ]; go_big_quiet_on)
                    | (go_big_quiet_want; go_big_quiet_op; first | go_big_quiet_on | go_big_quiet_call (first | (go_at_call 77; exact Hi.calls (HGR.out _)) | (go_at_call 78; exact Hi.calls (HRM.out _)) | (go_at_call 50; exact Hi.calls (HBG.out _)))))
                  refine wpQuiet_nil ?_
                  intro _ hw
                  obtain ⟨y3, rfl⟩ := hw
                  clear y2
                  have hst : x.step (txt s) k (((s[k]'hlt).toNat : Nat) : Int) = none := HSTP.out.trans (if_neg (by first | (simp [*]; done) | (simp [*]; omega) | (simp; omega)))
                  have HRD : Hid _ := HNO2.out hst
                  have HX : Hid _ := HX.out.up y3.below
                  clear hst HGO2 HOK2 HNO2 HSTP HSP
                  obtain ⟨r0, r1, r2, rf⟩ := HX.out.rcell
                  have HE2 : Hid _ := HX.out.end2
                  go_wp2
                  refine bodyPost_ret (res_cell2 Tryd.results57 rfl HE2.out.1) rfl ?_
                  rw [← HQ.out]
                  exact ⟨_, _, by rw [HRD.out]; rfl, by rw [HRD.out]; exact HE2.out.2.1, by rw [HRD.out]; exact HX.out.part, HE2.out.2.2⟩
            | true =>
              by_cases h2 : (x.L.length : Int) + 2 ≤ r
              · by_cases hg : 0 ≤ x.gap
                · skip
                  refine wp_region_up (by kernel_rfl) (by kernel_rfl) ?_
                  repeat (first
                    | go_big_quiet_skip
                    | (go_big_quiet_want; refine hi_load (.tmp 4) 89 rfl rfl HLD.out ?_; simp only [Act.put, List.setIfInBounds_toArray, List.set_cons_zero, List.set_cons_succ]; go_big_quiet_on)
                    | (go_big_quiet_want; go_big_quiet_op; first | go_big_quiet_on | go_big_quiet_call (first | (go_at_call 77; exact Hi.calls (HGR.out _)) | (go_at_call 78; exact Hi.calls (HRM.out _)) | (go_at_call 50; exact Hi.calls (HBG.out _)))))
                  refine wpQuiet_nil ?_
                  intro _ hw
                  obtain ⟨y2, rfl⟩ := hw
                  clear y
                  go_wp2_with fail
                  cases G with
                  | false =>
                    refine wp_region_up (by kernel_rfl) (by kernel_rfl) ?_
                    repeat (first
                      | go_big_quiet_skip
                      | (go_big_quiet_want; refine hi_load (.tmp 4) 89 rfl rfl HLD.out ?_; simp only [Act.put, List.setIfInBounds_toArray, List.set_cons_zero, List.set_cons_succ]; go_big_quiet_on)
                      | (go_big_quiet_want; go_big_quiet_op; first | go_big_quiet_on | go_big_quiet_call (first | (go_at_call 77; exact Hi.calls (HGR.out _)) | (go_at_call 78; exact Hi.calls (HRM.out _)) | (go_at_call 50; exact Hi.calls (HBG.out _)))))
                    refine wpQuiet_nil ?_
                    intro _ hw
                    obtain ⟨y3, rfl⟩ := hw
                    clear y2
                    have hst : x.step (txt s) k (((s[k]'hlt).toNat : Nat) : Int) = some { x with part := x.part ++ [(((s[k]'hlt).toNat : Nat) : Int)] } := HSTP.out.trans (if_pos (by first | (simp [*]; done) | (simp [*]; exact .inr H6.out) | (simp [H6.out]; omega) | (simp [*]; omega) | (simp; omega)))
                    have HR : Hid _ := HGO2.out hst
                    have HO : Hid _ := HOK2.out hst
                    have HS : Hid _ := HSP.out (HX.out.up y3.below)
                    have ff := FF.out
                    clear hst HGO2 HOK2 HNO2 HSTP HSP HX
                    go_wp2
                    exact ⟨⟨k + 1, _, _, _, by omega, by simp, HS.out, HO.out, HR.out⟩, by simp [intOf]; omega⟩
                  | true =>
                    have h1 : (x.L.length : Int) + 1 ≤ r := by omega
                    refine wp_region_up (by kernel_rfl) (by kernel_rfl) ?_
                    repeat (first
                      | go_big_quiet_skip
                      | (go_big_quiet_want; refine hi_load (.tmp 4) 89 rfl rfl HLD.out ?_; simp only [Act.put, List.setIfInBounds_toArray, List.set_cons_zero, List.set_cons_succ]; go_big_quiet_on)
                      | (go_big_quiet_want; go_big_quiet_op; first | go_big_quiet_on | go_big_quiet_call (first | (go_at_call 77; exact Hi.calls (HGR.out _)) | (go_at_call 78; exact Hi.calls (HRM.out _)) | (go_at_call 50; exact Hi.calls (HBG.out _)))))
                    refine wpQuiet_nil ?_
                    intro _ hw
                    obtain ⟨y3, rfl⟩ := hw
                    clear y2
                    have hst : x.step (txt s) k (((s[k]'hlt).toNat : Nat) : Int) = some { x with part := x.part ++ [(((s[k]'hlt).toNat : Nat) : Int)] } := HSTP.out.trans (if_pos (by first | (simp [*]; done) | (simp [*]; exact .inr H6.out) | (simp [H6.out]; omega) | (simp [*]; omega) | (simp; omega)))
                    have HR : Hid _ := HGO2.out hst
                    have HO : Hid _ := HOK2.out hst
                    have HS : Hid _ := HSP.out (HX.out.up y3.below)
                    have ff := FF.out
                    clear hst HGO2 HOK2 HNO2 HSTP HSP HX
                    go_wp2
                    exact ⟨⟨k + 1, _, _, _, by omega, by simp, HS.out, HO.out, HR.out⟩, by simp [intOf]; omega⟩
                · by_cases h6 : x.L.length = 6
                  · have q6 : ((x.L.length : Int) == 6) = true := by simp; omega
                    have H6 : Hid (x.L.length = 6) := h6
                    clear h6
                    refine wp_region_up (by kernel_rfl) (by kernel_rfl) ?_
                    repeat (first
                      | go_big_quiet_skip
                      | (go_big_quiet_want; refine hi_load (.tmp 4) 89 rfl rfl HLD.out ?_; simp only [Act.put, List.setIfInBounds_toArray, List.set_cons_zero, List.set_cons_succ]; go_big_quiet_on)
                      | (go_big_quiet_want; go_big_quiet_op; first | go_big_quiet_on | go_big_quiet_call (first | (go_at_call 77; exact Hi.calls (HGR.out _)) | (go_at_call 78; exact Hi.calls (HRM.out _)) | (go_at_call 50; exact Hi.calls (HBG.out _)))))
                    refine wpQuiet_nil ?_
                    intro _ hw
                    obtain ⟨y2, rfl⟩ := hw
                    clear y
                    go_wp2_with fail
                    cases G with
                    | false =>
                      refine wp_region_up (by kernel_rfl) (by kernel_rfl) ?_
                      repeat (first
                        | go_big_quiet_skip
                        | (go_big_quiet_want; refine hi_load (.tmp 4) 89 rfl rfl HLD.out ?_; simp only [Act.put, List.setIfInBounds_toArray, List.set_cons_zero, List.set_cons_succ]; go_big_quiet_on)
                        | (go_big_quiet_want; go_big_quiet_op; first | go_big_quiet_on | go_big_quiet_call (first | (go_at_call 77; exact Hi.calls (HGR.out _)) | (go_at_call 78; exact Hi.calls (HRM.out _)) | (go_at_call 50; exact Hi.calls (HBG.out _)))))
                      refine wpQuiet_nil ?_
                      intro _ hw
                      obtain ⟨y3, rfl⟩ := hw
                      clear y2
                      have hst : x.step (txt s) k (((s[k]'hlt).toNat : Nat) : Int) = some { x with part := x.part ++ [(((s[k]'hlt).toNat : Nat) : Int)] } := HSTP.out.trans (if_pos (by first | (simp [*]; done) | (simp [*]; exact .inr H6.out) | (simp [H6.out]; omega) | (simp [*]; omega) | (simp; omega)))
                      have HR : Hid _ := HGO2.out hst
                      have HO : Hid _ := HOK2.out hst
                      have HS : Hid _ := HSP.out (HX.out.up y3.below)
                      have ff := FF.out
                      clear hst HGO2 HOK2 HNO2 HSTP HSP HX
                      go_wp2
                      exact ⟨⟨k + 1, _, _, _, by omega, by simp, HS.out, HO.out, HR.out⟩, by simp [intOf]; omega⟩
                    | true =>
                      have h1 : (x.L.length : Int) + 1 ≤ r := by omega
                      refine wp_region_up (by kernel_rfl) (by kernel_rfl) ?_
                      repeat (first
                        | go_big_quiet_skip
                        | (go_big_quiet_want; refine hi_load (.tmp 4) 89 rfl rfl HLD.out ?_; simp only [Act.put, List.setIfInBounds_toArray, List.set_cons_zero, List.set_cons_succ]; go_big_quiet_on)
                        | (go_big_quiet_want; go_big_quiet_op; first | go_big_quiet_on | go_big_quiet_call (first | (go_at_call 77; exact Hi.calls (HGR.out _)) | (go_at_call 78; exact Hi.calls (HRM.out _)) | (go_at_call 50; exact Hi.calls (HBG.out _)))))
                      refine wpQuiet_nil ?_
                      intro _ hw
                      obtain ⟨y3, rfl⟩ := hw
                      clear y2
                      have hst : x.step (txt s) k (((s[k]'hlt).toNat : Nat) : Int) = some { x with part := x.part ++ [(((s[k]'hlt).toNat : Nat) : Int)] } := HSTP.out.trans (if_pos (by first | (simp [*]; done) | (simp [*]; exact .inr H6.out) | (simp [H6.out]; omega) | (simp [*]; omega) | (simp; omega)))
                      have HR : Hid _ := HGO2.out hst
                      have HO : Hid _ := HOK2.out hst
                      have HS : Hid _ := HSP.out (HX.out.up y3.below)
                      have ff := FF.out
                      clear hst HGO2 HOK2 HNO2 HSTP HSP HX
                      go_wp2
                      exact ⟨⟨k + 1, _, _, _, by omega, by simp, HS.out, HO.out, HR.out⟩, by simp [intOf]; omega⟩
                  · have q6 : ((x.L.length : Int) == 6) = false := by simp; omega
                    refine wp_region_up (by kernel_rfl) (by kernel_rfl) ?_
                    repeat (first
                      | go_big_quiet_skip
                      | (go_big_quiet_want; refine hi_load (.tmp 4) 89 rfl rfl HLD.out ?_; simp only [Act.put, List.setIfInBounds_toArray, List.set_cons_zero, List.set_cons_succ]; go_big_quiet_on)
                      | (go_big_quiet_want; go_big_quiet_op; first | go_big_quiet_on | go_big_quiet_call (first | (go_at_call 77; exact Hi.calls (HGR.out _)) | (go_at_call 78; exact Hi.calls (HRM.out _)) | (go_at_call 50; exact Hi.calls (HBG.out _)))))
                    refine wpQuiet_nil ?_
                    intro _ hw
                    obtain ⟨y2, rfl⟩ := hw
                    clear y
                    go_wp2_with fail
                    cases G with
                    | false =>
                      refine wp_region_up (by kernel_rfl) (by kernel_rfl) ?_
                      repeat (first
                        | go_big_quiet_skip
                        | (go_big_quiet_want; refine hi_load (.tmp 4) 89 rfl rfl HLD.out ?_; simp only [Act.put, List.setIfInBounds_toArray, List.set_cons_zero, List.set_cons_succ]; go_big_quiet_on)
                        | (go_big_quiet_want; go_big_quiet_op; first | go_big_quiet_on | go_big_quiet_call (first | (go_at_call 77; exact Hi.calls (HGR.out _)) | (go_at_call 78; exact Hi.calls (HRM.out _)) | (go_at_call 50; exact Hi.calls (HBG.out _)))))
                      refine wpQuiet_nil ?_
                      intro _ hw
                      obtain ⟨y3, rfl⟩ := hw
                      clear y2
                      have hst : x.step (txt s) k (((s[k]'hlt).toNat : Nat) : Int) = none := HSTP.out.trans (if_neg (by first | (simp [*]; done) | (simp [*]; omega) | (simp; omega)))
                      have HRD : Hid _ := HNO2.out hst
                      have HX : Hid _ := HX.out.up y3.below
                      clear hst HGO2 HOK2 HNO2 HSTP HSP
                      obtain ⟨r0, r1, r2, rf⟩ := HX.out.rcell
                      have HE2 : Hid _ := HX.out.end2
                      go_wp2
                      refine bodyPost_ret (res_cell2 Tryd.results57 rfl HE2.out.1) rfl ?_
                      rw [← HQ.out]
                      exact ⟨_, _, by rw [HRD.out]; rfl, by rw [HRD.out]; exact HE2.out.2.1, by rw [HRD.out]; exact HX.out.part, HE2.out.2.2⟩
                    | true =>
                      have h1 : (x.L.length : Int) + 1 ≤ r := by omega
                      refine wp_region_up (by kernel_rfl) (by kernel_rfl) ?_
                      repeat (first
                        | go_big_quiet_skip
                        | (go_big_quiet_want; refine hi_load (.tmp 4) 89 rfl rfl HLD.out ?_; simp only [Act.put, List.setIfInBounds_toArray, List.set_cons_zero, List.set_cons_succ]; go_big_quiet_on)
                        | (go_big_quiet_want; go_big_quiet_op; first | go_big_quiet_on | go_big_quiet_call (first | (go_at_call 77; exact Hi.calls (HGR.out _)) | (go_at_call 78; exact Hi.calls (HRM.out _)) | (go_at_call 50; exact Hi.calls (HBG.out _)))))
                      refine wpQuiet_nil ?_
                      intro _ hw
                      obtain ⟨y3, rfl⟩ := hw
                      clear y2
                      have hst : x.step (txt s) k (((s[k]'hlt).toNat : Nat) : Int) = some { x with part := x.part ++ [(((s[k]'hlt).toNat : Nat) : Int)] } := HSTP.out.trans (if_pos (by first | (simp [*]; done) | (simp [*]; exact .inr H6.out) | (simp [H6.out]; omega) | (simp [*]; omega) | (simp; omega)))
                      have HR : Hid _ := HGO2.out hst
                      have HO : Hid _ := HOK2.out hst
                      have HS : Hid _ := HSP.out (HX.out.up y3.below)
                      have ff := FF.out
                      clear hst HGO2 HOK2 HNO2 HSTP HSP HX
                      go_wp2
                      exact ⟨⟨k + 1, _, _, _, by omega, by simp, HS.out, HO.out, HR.out⟩, by simp [intOf]; omega⟩
              · skip
                refine wp_region_up (by kernel_rfl) (by kernel_rfl) ?_
                repeat (first
                  | go_big_quiet_skip
                  | (go_big_quiet_want; refine hi_load (.tmp 4) 89 rfl rfl HLD.out ?_; simp only [Act.put, List.setIfInBounds_toArray, List.set_cons_zero, List.set_cons_succ]; go_big_quiet_on)
                  | (go_big_quiet_want; go_big_quiet_op; first | go_big_quiet_on | go_big_quiet_call (first | (go_at_call 77; exact Hi.calls (HGR.out _)) | (go_at_call 78; exact Hi.calls (HRM.out _)) | (go_at_call 50; exact Hi.calls (HBG.out _)))))
                refine wpQuiet_nil ?_
                intro _ hw
                obtain ⟨y2, rfl⟩ := hw
                clear y
                go_wp2_with fail
                cases G with
                | false =>
                  refine wp_region_up (by kernel_rfl) (by kernel_rfl) ?_
                  repeat (first
                    | go_big_quiet_skip
                    | (go_big_quiet_want; refine hi_load (.tmp 4) 89 rfl rfl HLD.out ?_; simp only [Act.put, List.setIfInBounds_toArray, List.set_cons_zero, List.set_cons_succ]; go_big_quiet_on)
                    | (go_big_quiet_want; go_big_quiet_op; first | go_big_quiet_on | go_big_quiet_call (first | (go_at_call 77; exact Hi.calls (HGR.out _)) | (go_at_call 78; exact Hi.calls (HRM.out _)) | (go_at_call 50; exact Hi.calls (HBG.out _)))))
                  refine wpQuiet_nil ?_
                  intro _ hw
                  obtain ⟨y3, rfl⟩ := hw
                  clear y2
                  have hst : x.step (txt s) k (((s[k]'hlt).toNat : Nat) : Int) = none := HSTP.out.trans (if_neg (by first | (simp [*]; done) | (simp [*]; omega) | (simp; omega)))
                  have HRD : Hid _ := HNO2.out hst
                  have HX : Hid _ := HX.out.up y3.below
                  clear hst HGO2 HOK2 HNO2 HSTP HSP
                  obtain ⟨r0, r1, r2, rf⟩ := HX.out.rcell
                  have HE2 : Hid _ := HX.out.end2
                  go_wp2
                  refine bodyPost_ret (res_cell2 Tryd.results57 rfl HE2.out.1) rfl ?_
                  rw [← HQ.out]
                  exact ⟨_, _, by rw [HRD.out]; rfl, by rw [HRD.out]; exact HE2.out.2.1, by rw [HRD.out]; exact HX.out.part, HE2.out.2.2⟩
                | true =>
                  by_cases h1 : (x.L.length : Int) + 1 ≤ r
                  · refine wp_region_up (by kernel_rfl) (by kernel_rfl) ?_
                    repeat (first
                      | go_big_quiet_skip
                      | (go_big_quiet_want; refine hi_load (.tmp 4) 89 rfl rfl HLD.out ?_; simp only [Act.put, List.setIfInBounds_toArray, List.set_cons_zero, List.set_cons_succ]; go_big_quiet_on)
                      | (go_big_quiet_want; go_big_quiet_op; first | go_big_quiet_on | go_big_quiet_call (first | (go_at_call 77; exact Hi.calls (HGR.out _)) | (go_at_call 78; exact Hi.calls (HRM.out _)) | (go_at_call 50; exact Hi.calls (HBG.out _)))))
                    refine wpQuiet_nil ?_
                    intro _ hw
                    obtain ⟨y3, rfl⟩ := hw
                    clear y2
                    have hst : x.step (txt s) k (((s[k]'hlt).toNat : Nat) : Int) = some { x with part := x.part ++ [(((s[k]'hlt).toNat : Nat) : Int)] } := HSTP.out.trans (if_pos (by first | (simp [*]; done) | (simp [*]; exact .inr H6.out) | (simp [H6.out]; omega) | (simp [*]; omega) | (simp; omega)))
                    have HR : Hid _ := HGO2.out hst
                    have HO : Hid _ := HOK2.out hst
                    have HS : Hid _ := HSP.out (HX.out.up y3.below)
                    have ff := FF.out
                    clear hst HGO2 HOK2 HNO2 HSTP HSP HX
                    go_wp2
                    exact ⟨⟨k + 1, _, _, _, by omega, by simp, HS.out, HO.out, HR.out⟩, by simp [intOf]; omega⟩
                  · refine wp_region_up (by kernel_rfl) (by kernel_rfl) ?_
                    repeat (first
                      | go_big_quiet_skip
                      | (go_big_quiet_want; refine hi_load (.tmp 4) 89 rfl rfl HLD.out ?_; simp only [Act.put, List.setIfInBounds_toArray, List.set_cons_zero, List.set_cons_succ]; go_big_quiet_on)
                      | (go_big_quiet_want; go_big_quiet_op; first | go_big_quiet_on | go_big_quiet_call (first | (go_at_call 77; exact Hi.calls (HGR.out _)) | (go_at_call 78; exact Hi.calls (HRM.out _)) | (go_at_call 50; exact Hi.calls (HBG.out _)))))
                    refine wpQuiet_nil ?_
                    intro _ hw
                    obtain ⟨y3, rfl⟩ := hw
                    clear y2
                    have hst : x.step (txt s) k (((s[k]'hlt).toNat : Nat) : Int) = none := HSTP.out.trans (if_neg (by first | (simp [*]; done) | (simp [*]; omega) | (simp; omega)))
                    have HRD : Hid _ := HNO2.out hst
                    have HX : Hid _ := HX.out.up y3.below
                    clear hst HGO2 HOK2 HNO2 HSTP HSP
                    obtain ⟨r0, r1, r2, rf⟩ := HX.out.rcell
                    have HE2 : Hid _ := HX.out.end2
                    go_wp2
                    refine bodyPost_ret (res_cell2 Tryd.results57 rfl HE2.out.1) rfl ?_
                    rw [← HQ.out]
                    exact ⟨_, _, by rw [HRD.out]; rfl, by rw [HRD.out]; exact HE2.out.2.1, by rw [HRD.out]; exact HX.out.part, HE2.out.2.2⟩
    · obtain rfl : k = s.size := by omega
      have HRD : Hid (read6 (txt s) s.size 0 ⟨[], -1, []⟩ = (x, s.size)) := by
        refine hrd.trans ?_
        rw [Nat.sub_self]
        rfl
      clear hX hrd
      obtain ⟨wE, hst, hlv, hrow, hbE⟩ := HX.out.end_
      have HL : Hid _ := HX.out.load (Hi.refl _)
      have HST : Hid _ := hst
      have HLV : Hid _ := hlv
      have HRW : Hid _ := hrow
      have HBE : Hid _ := hbE
      clear hst hlv hrow hbE
      go_wp2_with first
        | ((with_reducible show wpList _ _ _ _ _ _); refine armL (.tmp 4) 89 rfl rfl rfl HL.out ?_)
        | ((with_reducible show wpList _ _ _ _ _ _); refine armS (.tmp 2) (.tmp 151) 89 rfl rfl rfl rfl HST.out ?_)
      refine bodyPost_ret (res_cell2 Tryd.results57 rfl HLV.out) rfl ?_
      rw [← HQ.out]
      exact ⟨_, _, by rw [HRD.out]; rfl, by rw [HRD.out]; exact HRW.out, by rw [HRD.out]; exact HX.out.part, HBE.out⟩

end Go.Proofs.YtlpbffcijhgelaaDoor
