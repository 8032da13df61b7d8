/-
  The statement SplitAgain.
-/
import Derived.Test.YtackllcfnlhkpaaVe3
namespace Go.Proofs.Ytackllcfnlhkpaa
open Go Go.RowKit Go.ChangeShapes Go.WideShapes Go.ChangeAt
set_option linter.unusedVariables false
set_option linter.unusedSimpArgs false

section
variable (f : Fd) (mf : Bool) (off : Int) (so sb : Value) (opts body : List Int) (mtu less : Int) (w : World)
set_option maxHeartbeats 8000000 in
set_option maxRecDepth 100000 in
theorem splitAgain_walk (h1 : RowC w so opts) (h2 : RowC w sb body) (hoff : -9223372036854775808 ≤ off ∧ off ≤ 9223372036854775807) (hmt : -9223372036854775808 ≤ mtu ∧ mtu ≤ 9223372036854775807) (hml : -9223372036854775808 ≤ less ∧ less ≤ 9223372036854775807) :
    Calls Try.prog 6 #[VV f mf off so sb, .int .i64 mtu, .int .i64 less] w fun e w' => e = .returned (.bool true) ∧ Below w.heap.size w w' := by
  have hb0 := blk_new w (BV f mf off so sb)
  have hB0 : Below w.heap.size w (w.alloc (BV f mf off so sb)) := (Below.refl w.heap.size w).alloc (Nat.le_refl _) (BV f mf off so sb)
  have HLD : Hid _ := vb_load hb0
  have HB0 : Hid _ := hb0
  have HBB : Hid (Below w.heap.size w (w.alloc (BV f mf off so sb))) := hB0
  have HCT : Hid _ := cut_calls f mf off so sb opts body w (w.alloc (BV f mf off so sb)) h1 h2
  have HAL : Hid (∀ X, Calls Try.prog 16 #[] X fun e w' => e = .returned (.bool true) ∧ Below X.heap.size X w') := fun X => alive_calls X
  clear hb0 hB0 h1 h2
  go_enter Try.func6, Try.ntmps6

  go_wp2_with first
    | ((with_reducible show wpList _ _ _ ({ dst := _, op := Op.load 27 (Operand.tmp 3), type := _, pos := _, after := _, guard := _ } :: _) _ _); refine armL (.tmp 3) 27 rfl rfl rfl HLD.out ?_)
  refine Calls.mono HCT.out ?_
  rintro e w1 ⟨so1, sb1, rfl, hr1, hr2, hb1⟩
  have hk1 := blk_on HB0.out hb1
  obtain ⟨w2, hst2, hbx2, hon2⟩ := box_store Try.sizeOf27 hk1 rfl (vC f mf off so1 sb1) rfl (vC_one f mf off (BS.of_row hr1).one (BS.of_row hr2).one)
  have hB2 : Below w.heap.size w w2 := (HBB.out.trans (hb1.mono HBB.out.size)).trans (hon2.below (Nat.le_refl _))
  have hq1 : RowC w2 so1 (opts.take 100) := hr1.on hB2
  have hq2 : RowC w2 sb1 (body.take 70000) := hr2.on hB2
  have hbl : (body.take 70000).length ≤ 70000 := by rw [List.length_take]; omega
  generalize opts.take 100 = o at *
  generalize body.take 70000 = b at *
  have HLDX : Hid _ := vb_load hbx2
  have K1 : Hid _ := Split_calls f mf off so1 sb1 o b mtu w2 hq1 hq2 hoff hmt
  have HQ2 : Hid (RowC w2 sb1 b) := hq2
  have HBX : Hid (w2.heap[w.heap.size]? = some (BV f mf off so1 sb1)) := hbx2
  have HST : Hid _ := hst2
  have HB2 : Hid (Below w.heap.size w w2) := hB2
  clear hq1 hq2 hr1 hr2 hbx2 hon2 hst2 hB2 hk1 hb1 HCT HLD HB0 HBB

  go_wp2_with first
    | ((with_reducible show wpList _ _ _ ({ dst := _, op := Op.store 27 (Operand.tmp 3) (Operand.tmp 15), type := _, pos := _, after := _, guard := _ } :: _) _ _); refine armS (.tmp 3) (Operand.tmp 15) 27 rfl rfl rfl rfl HST.out ?_; simp only [Act.put])
    | ((with_reducible show wpList _ _ _ ({ dst := _, op := Op.load 27 (Operand.tmp 3), type := _, pos := _, after := _, guard := _ } :: _) _ _); refine armL (.tmp 3) 27 rfl rfl rfl HLDX.out ?_)
  refine Calls.mono K1.out ?_
  rintro e X1 ⟨v1, rfl, hr1, hB1⟩
  clear K1 HST HLDX
  have HBX1 : Hid (Below w.heap.size w X1) := HB2.out.trans (hB1.mono HB2.out.size)
  have HVB : Hid (X1.heap[w.heap.size]? = some (BV f mf off so1 sb1)) := blk_on HBX.out hB1
  have HQX : Hid (RowC X1 sb1 b) := HQ2.out.on hB1
  have HALX1 : Hid (Calls Try.prog 16 #[] X1 fun e w' => e = .returned (.bool true) ∧ Below w.heap.size w w') := (HAL.out X1).mono (fun e w' h => ⟨h.1, HBX1.out.trans (h.2.mono HBX1.out.size)⟩)
  by_cases hE : refE f.df mf off o b mtu = 0
  · by_cases hlm : mtu < less
    · have q1 : decide (mtu < less) = true := by simpa using hlm
      rw [hE]
      clear hr1 HVB HQX HQ2 HBX hB1 HB2 hE
      go_wp2_with fail
      refine Calls.mono HALX1.out ?_
      rintro e X8 ⟨rfl, hb8⟩
      have HB8 : Hid (Below w.heap.size w X8) := hb8
      clear hb8
      go_wp2
      go_ret
      exact ⟨rfl, HB8.out⟩
    · have q1 : decide (mtu < less) = false := by simpa using hlm
      have hw := wrong_ok (ref_ok hE)
      have hk := chk_ok hw.1
      obtain ⟨m, rfl⟩ : ∃ m : Nat, mtu = m := ⟨mtu.toNat, by omega⟩
      have hout : outL f.df mf off o b m = fragL mf off o b m := by unfold outL; rw [if_pos hE]
      obtain ⟨HOK, hbod, hNpos⟩ := frag_ok hE
      have hfar := ref_far hE
      have hLl := fragL_len (mf := mf) (off := off) (opts := o) (body := b) (mtu := m) (by omega)
      rw [hE]
      rw [hout] at hr1
      obtain ⟨a1, c1, e1⟩ := hr1.slc
      subst e1
      clear hout hE
      generalize hLL : fragL mf off o b m = L at *
      clear hLL
      have HR : Hid (RowV f w2.heap.size (fun b => w2.heap.size ≤ b) X1 (.slice a1 L.length c1) L) := hr1
      have HFO : Hid _ := HOK
      have HFAR : Hid _ := hfar
      have HBOD : Hid (bodies L = b) := hbod
      have hofr : 0 ≤ off ∧ off ≤ 8191 := ⟨hk.1, hk.2.1⟩
      clear hr1 HOK hfar hbod hw hk hB1 HB2 HQ2 HBX
      obtain ⟨N, hN⟩ : ∃ N, L.length = N := ⟨_, rfl⟩
      have HN : Hid _ := hN
      rw [hN] at hLl hNpos
      rw [hN]
      clear hN
      go_wp2_with fail
      go_loopw [9, 10] (fun bv i wr => ∃ k : Nat, k ≤ N ∧ i = .int .i64 k ∧ Hid (OB X1.heap.size X1 wr bv (bodies (L.take k))) ∧ X1.heap.size ≤ wr.heap.size) (fun _ i _ => N - (intOf i).toNat)
      case atStart => exact ⟨0, Nat.zero_le _, rfl, by show OB _ _ _ _ _; simp only [List.take_zero]; exact OB.nil X1 _, Nat.le_refl _⟩
      case round =>
        obtain ⟨k, hk, rfl, hob, hsz⟩ := hrel
        obtain ⟨ab, cb, hbv⟩ := hob.out.slc
        by_cases hlt : k < N
        · obtain ⟨g, hg⟩ : ∃ g, L[k]? = some g := ⟨L[k]'(by rw [HN.out]; exact hlt), by simp⟩
          obtain ⟨bk, sog, sbg, ag, cg, ea, hbk, esb, hbo, hbb, hat⟩ := row_at HR.out hg
          subst ea
          have hok := HFO.out k g hg
          have hfo := HFAR.out k g hg
          have hBw := hob.out.bel
          have HLV : Hid _ := (hat _ hBw).1
          have HSP : Hid _ := Split_calls f g.mf g.off sog sbg g.opts g.body less wr (hbo.on hBw).row (hbb.on hBw).row (by omega) hml
          have HOB : Hid (OB X1.heap.size X1 wr _ (bodies (L.take k))) := hob.out
          have hpl := hok.pl
          have hki : (k : Int) < (N : Int) := by omega
          have HTK : Hid (bodies (L.take (k + 1)) = bodies (L.take k) ++ g.body) := by show _ = _; rw [take_at' L k hg, bodies_push]
          have hbl1 : (bodies (L.take k)).length + g.body.length ≤ 70000 := by
            have h1 := bodies_take_le L (k + 1)
            rw [take_at' L k hg, bodies_push, List.length_append, HBOD.out] at h1
            omega
          have HOKG : Hid (FgOk m mf off L k g) := hok
          obtain ⟨N1, hN1⟩ : ∃ N1 : Nat, N = N1 + 1 := ⟨N - 1, by omega⟩
          have HN1 : Hid _ := hN1
          have HPL : Hid (8 * (g.off - off) = ((bodies (L.take k)).length : Int)) := hpl
          have HGO : Hid (0 ≤ g.off ∧ g.off ≤ 8191) := hfo
          have HUP : Hid (∀ X, Below wr.heap.size wr X → Below X1.heap.size X1 X) := fun X hX => hBw.trans (hX.mono hsz)
          subst hbv
          clear hat hob hok hfo hbo hbb hpl hBw esb hN1

          go_wp2_with first
            | ((with_reducible show wpList _ _ _ ({ dst := _, op := Op.load 27 (Operand.tmp 39), type := _, pos := _, after := _, guard := _ } :: _) _ _); refine armL (.tmp 39) 27 rfl rfl rfl HLV.out ?_)
          refine Calls.mono HSP.out ?_
          rintro e w5 ⟨mv, rfl, hrm, hb5⟩
          have HB5 : Hid (Below X1.heap.size X1 w5) := HUP.out w5 hb5
          have HB5w : Hid (Below w.heap.size w w5) := HBX1.out.trans (HB5.out.mono HBX1.out.size)
          have hsz5 : X1.heap.size ≤ w5.heap.size := Nat.le_trans hsz hb5.size
          have HOB5 : Hid (OB X1.heap.size X1 w5 (.slice ab (bodies (L.take k)).length cb) (bodies (L.take k))) := HOB.out.below hsz hb5
          have HBO : Hid (∀ c, (Value.slice ab (bodies (L.take k)).length cb).ownBlock = some c → c < wr.heap.size) := fun c hc => HOB.out.lt hc
          by_cases hE2 : refE f.df g.mf g.off g.opts g.body less = 0
          · have hw2 := wrong_ok (ref_ok hE2)
            obtain ⟨m2, hm2⟩ : ∃ m2 : Nat, less = m2 := ⟨less.toNat, by omega⟩
            subst hm2
            have hout2 : outL f.df g.mf g.off g.opts g.body m2 = fragL g.mf g.off g.opts g.body m2 := by unfold outL; rw [if_pos hE2]
            obtain ⟨HOK2, hbod2, hMpos⟩ := frag_ok hE2
            have hfar2 := ref_far hE2
            have hLl2 := fragL_len (mf := g.mf) (off := g.off) (opts := g.opts) (body := g.body) (mtu := m2) (by omega)
            rw [hE2]
            rw [hout2] at hrm
            obtain ⟨a2, c2, e2⟩ := hrm.slc
            subst e2
            clear hout2 hE2
            generalize hMM : fragL g.mf g.off g.opts g.body m2 = M at *
            clear hMM
            have HBS : Hid (Beside f wr.heap.size (.slice ab (bodies (L.take k)).length cb) (.slice a2 M.length c2) M w5) := Beside.of hrm HBO.out
            have HFO2 : Hid _ := HOK2
            have HFAR2 : Hid _ := hfar2
            have HBOD2 : Hid (bodies M = g.body) := hbod2
            obtain ⟨MN, hMN⟩ : ∃ MN, M.length = MN := ⟨_, rfl⟩
            have HMN : Hid _ := hMN
            rw [hMN] at hLl2 hMpos HBS
            rw [hMN]
            clear hrm HOK2 hfar2 hbod2 hMN hb5 HSP HLV HOB HBO HB5 HB5w hw2 HUP
            obtain ⟨wn, hwn⟩ : ∃ n : Nat, n = wr.heap.size := ⟨_, rfl⟩
            rw [← hwn] at HBS
            clear hwn
            go_wp2_with fail
            go_loopw [9, 13] (fun bv i wq => ∃ j : Nat, j ≤ MN ∧ i = .int .i64 j ∧ Hid (OB X1.heap.size X1 wq bv (bodies (L.take k) ++ bodies (M.take j))) ∧ Hid (Beside f wn bv (.slice a2 MN c2) M wq) ∧ X1.heap.size ≤ wq.heap.size) (fun _ i _ => MN - (intOf i).toNat)
            case atStart => exact ⟨0, Nat.zero_le _, rfl, by show OB _ _ _ _ _; rw [List.take_zero]; have : bodies [] = [] := rfl; rw [this, List.append_nil]; exact HOB5.out, HBS.out, hsz5⟩
            case round =>
              obtain ⟨j, hj, rfl, hobj, hbsj, hszj⟩ := hrel
              obtain ⟨abj, cbj, hbvj⟩ := hobj.out.slc
              by_cases hltj : j < MN
              · obtain ⟨h, hh⟩ : ∃ h, M[j]? = some h := ⟨M[j]'(by rw [HMN.out]; exact hltj), by simp⟩
                have hrowj := hbsj.out.row
                rw [← HMN.out] at hrowj
                obtain ⟨bm, soh, sbh, ah, ch, ea2, hbm, esbh, hboh, hbbh, hath⟩ := row_at hrowj hh
                subst ea2
                have hok2 := HFO2.out j h hh
                have hfo2 := HFAR2.out j h hh
                have hBj := hobj.out.bel
                have hTKJ : bodies (M.take (j + 1)) = bodies (M.take j) ++ h.body := by rw [take_at' M j hh, bodies_push]
                have hle : (bodies (M.take j)).length + h.body.length ≤ g.body.length := by
                  have h1 := bodies_take_le M (j + 1)
                  rw [hTKJ, List.length_append, HBOD2.out] at h1
                  exact h1
                have HTKJ : Hid (bodies (L.take k) ++ bodies (M.take (j + 1)) = (bodies (L.take k) ++ bodies (M.take j)) ++ h.body) := by show _ = _; rw [hTKJ, List.append_assoc]
                obtain ⟨d, hd⟩ : ∃ d : Nat, h.off - off = (d : Int) := ⟨(h.off - off).toNat, by have := HPL.out; have := hok2.pl; omega⟩
                have hbl8 : 8 * (d : Int) = ((bodies (L.take k) ++ bodies (M.take j)).length : Int) := by
                  rw [← hd, List.length_append]
                  have h1 := HPL.out
                  have h2 := hok2.pl
                  omega
                have hblen : (bodies (L.take k) ++ bodies (M.take j)).length + h.body.length ≤ 1000000 := by rw [List.length_append]; omega
                have hblen2 : (bodies (L.take k) ++ bodies (M.take j)).length ≤ 70000 := by rw [List.length_append]; omega
                obtain ⟨M1, hM1⟩ : ∃ M1 : Nat, MN = M1 + 1 := ⟨MN - 1, by omega⟩
                have hhm : h.mf = (mf || decide (k < N1) || decide (j < M1)) := by
                  have hN1 := HN1.out
                  by_cases c1 : j < M1
                  · rw [(hok2.mid (by rw [HMN.out]; omega)).1]; simp [c1]
                  · rw [hok2.last (by rw [HMN.out]; omega)]
                    by_cases c2 : k < N1
                    · rw [(HOKG.out.mid (by rw [HN.out]; omega)).1]; simp [c2]
                    · rw [HOKG.out.last (by rw [HN.out]; omega)]; simp [c1, c2]
                generalize hZ : bodies (L.take k) ++ bodies (M.take j) = Z at *
                generalize hbl' : Z.length = bl at *
                have HBLE : Hid _ := hbl'
                have hup : ∀ x : Hi wr, Below X1.heap.size X1 x.W := fun x => hBj.trans (x.below.mono hszj)
                have hgx : ∀ x : Hi wr, Below wr.heap.size wr x.W := fun x => x.below
                have g3 : ∀ x : Hi wr, x.W.cell? ⟨bm, j * 17 + 3, none⟩ = some (.bool h.mf) := fun x => (hath _ x.below).2.1
                have g4 : ∀ x : Hi wr, x.W.cell? ⟨bm, j * 17 + 4, none⟩ = some (.int .i64 h.off) := fun x => (hath _ x.below).2.2.1
                have g16 : ∀ x : Hi wr, x.W.cell? ⟨bm, j * 17 + 16, none⟩ = some (.slice ah h.body.length ch) := fun x => by rw [← esbh]; exact (hath _ x.below).2.2.2
                have v4 : ∀ x : Hi wr, x.W.cell? ⟨w.heap.size, 4, none⟩ = some (.int .i64 off) := fun x => vb4 (blk_on HVB.out (hup x))
                have v3 : ∀ x : Hi wr, x.W.cell? ⟨w.heap.size, 3, none⟩ = some (.bool mf) := fun x => vb3 (blk_on HVB.out (hup x))
                have HOBJ : Hid (OB X1.heap.size X1 wr (.slice abj bl cbj) Z) := by show OB _ _ _ _ _; rw [← hbvj]; exact hobj.out
                have HBSJ : Hid (Beside f wn (.slice abj bl cbj) (.slice (some ⟨bm, 0, none⟩) MN c2) M wr) := by show Beside _ _ _ _ _ _; rw [← hbvj]; exact hbsj.out
                have HBBH : Hid (RowC wr (.slice ah h.body.length ch) h.body) := by show RowC _ _ _; rw [← esbh]; exact hbbh.row
                have w58 : IntKind.i64.wrap (h.off - off) = (d : Int) := by rw [hd]; exact wrapi64 _ (by omega)
                have w59 : IntKind.i64.wrap (8 * (d : Int)) = (bl : Int) := by rw [hbl8]; exact wrapi64 _ (by omega)
                have q62 : ((bl : Int) != (bl : Int)) = false := by simp
                have w68 : IntKind.i64.wrap ((N : Int) - 1) = (N1 : Int) := by have := HN1.out; rw [show (N : Int) - 1 = (N1 : Int) by omega]; exact wrapi64 _ (by omega)
                have w85 : IntKind.i64.wrap ((MN : Int) - 1) = (M1 : Int) := by rw [show (MN : Int) - 1 = (M1 : Int) by omega]; exact wrapi64 _ (by omega)
                have hji : (j : Int) < (MN : Int) := by omega
                generalize hho : h.off = hoff' at *
                generalize hhb : h.body.length = hbl'' at *
                have HHM : Hid _ := hhm
                have HHB : Hid _ := hhb
                have HZ : Hid _ := hZ
                have HM1 : Hid _ := hM1
                have HTKZ : Hid (bodies (L.take k) ++ bodies (M.take (j + 1)) = Z ++ h.body) := HTKJ.out
                subst hbvj
                clear hath hok2 hfo2 hBj hboh hbbh hobj hbsj hrowj hd hbl8 hTKJ hle hho hhm hhb hZ hbl' hM1 hup hgx esbh
                generalize hhmf : h.mf = hmf at *
                clear hhmf
                have hmcase : hmf = (mf || decide (k < N1) || decide (j < M1)) := HHM.out
                clear HHM
                cases mf
                · by_cases c1 : k < N1
                  · obtain rfl : hmf = true := by rw [hmcase]; simp [c1]
                    have c1i : (k : Int) < (N1 : Int) := by omega
                    clear hmcase
                    go_wp2_with fail
                    refine wp_region_hi (by kernel_rfl) (by kernel_rfl) ?_
                    repeat (first | go_big_quiet_skip | (go_big_quiet_want; go_big_quiet_op; first | go_big_quiet_on | go_big_quiet_call (fail)))
                    refine wpQuiet_nil ?_
                    intro _ hw
                    obtain ⟨y, rfl⟩ := hw
                    have d16 := g16 y
                    obtain ⟨bv', wy, hrun, hob', hs', hsep, hloc⟩ := (HOBJ.out.below hszj y.below).app2 (Nat.le_trans hszj y.below.size) ((HBBH.out.on y.below).bytes) (by rw [HBLE.out, HHB.out]; exact hblen) 25
                    have HRUN : Hid _ := hrun
                    have HOBN : Hid (OB X1.heap.size X1 wy bv' (bodies (L.take k) ++ bodies (M.take (j + 1)))) := by show OB _ _ _ _ _; rw [HTKZ.out]; exact hob'
                    have HBSN : Hid (Beside f wn bv' (.slice (some ⟨bm, 0, none⟩) MN c2) M wy) := (HBSJ.out.on y.below).app hsep hloc
                    clear hrun hob' g3 g4 g16 v4 v3 HOBJ HBSJ HBBH w58 w59 w68 w85 q62 hsep hloc
                    go_wp2_with (at_builtin; refine wpList_append_run rfl _ _ _ _ rfl rfl rfl HRUN.out ?_; clear HRUN)
                    exact ⟨⟨j + 1, by omega, by simp, HOBN.out, HBSN.out, hs'⟩, by simp [intOf]; omega⟩
                  · by_cases cj : j < M1
                    · obtain rfl : hmf = true := by rw [hmcase]; simp [cj]
                      have c2i : (j : Int) < (M1 : Int) := by omega
                      clear hmcase
                      go_wp2_with fail
                      refine wp_region_hi (by kernel_rfl) (by kernel_rfl) ?_
                      repeat (first | go_big_quiet_skip | (go_big_quiet_want; go_big_quiet_op; first | go_big_quiet_on | go_big_quiet_call (fail)))
                      refine wpQuiet_nil ?_
                      intro _ hw
                      obtain ⟨y, rfl⟩ := hw
                      have d16 := g16 y
                      obtain ⟨bv', wy, hrun, hob', hs', hsep, hloc⟩ := (HOBJ.out.below hszj y.below).app2 (Nat.le_trans hszj y.below.size) ((HBBH.out.on y.below).bytes) (by rw [HBLE.out, HHB.out]; exact hblen) 25
                      have HRUN : Hid _ := hrun
                      have HOBN : Hid (OB X1.heap.size X1 wy bv' (bodies (L.take k) ++ bodies (M.take (j + 1)))) := by show OB _ _ _ _ _; rw [HTKZ.out]; exact hob'
                      have HBSN : Hid (Beside f wn bv' (.slice (some ⟨bm, 0, none⟩) MN c2) M wy) := (HBSJ.out.on y.below).app hsep hloc
                      clear hrun hob' g3 g4 g16 v4 v3 HOBJ HBSJ HBBH w58 w59 w68 w85 q62 hsep hloc
                      go_wp2_with (at_builtin; refine wpList_append_run rfl _ _ _ _ rfl rfl rfl HRUN.out ?_; clear HRUN)
                      exact ⟨⟨j + 1, by omega, by simp, HOBN.out, HBSN.out, hs'⟩, by simp [intOf]; omega⟩
                    · obtain rfl : hmf = false := by rw [hmcase]; simp [c1, cj]
                      clear hmcase
                      go_wp2_with fail
                      refine wp_region_hi (by kernel_rfl) (by kernel_rfl) ?_
                      repeat (first | go_big_quiet_skip | (go_big_quiet_want; go_big_quiet_op; first | go_big_quiet_on | go_big_quiet_call (fail)))
                      refine wpQuiet_nil ?_
                      intro _ hw
                      obtain ⟨y, rfl⟩ := hw
                      have d16 := g16 y
                      obtain ⟨bv', wy, hrun, hob', hs', hsep, hloc⟩ := (HOBJ.out.below hszj y.below).app2 (Nat.le_trans hszj y.below.size) ((HBBH.out.on y.below).bytes) (by rw [HBLE.out, HHB.out]; exact hblen) 25
                      have HRUN : Hid _ := hrun
                      have HOBN : Hid (OB X1.heap.size X1 wy bv' (bodies (L.take k) ++ bodies (M.take (j + 1)))) := by show OB _ _ _ _ _; rw [HTKZ.out]; exact hob'
                      have HBSN : Hid (Beside f wn bv' (.slice (some ⟨bm, 0, none⟩) MN c2) M wy) := (HBSJ.out.on y.below).app hsep hloc
                      clear hrun hob' g3 g4 g16 v4 v3 HOBJ HBSJ HBBH w58 w59 w68 w85 q62 hsep hloc
                      go_wp2_with (at_builtin; refine wpList_append_run rfl _ _ _ _ rfl rfl rfl HRUN.out ?_; clear HRUN)
                      exact ⟨⟨j + 1, by omega, by simp, HOBN.out, HBSN.out, hs'⟩, by simp [intOf]; omega⟩
                · obtain rfl : hmf = true := by rw [hmcase]; simp
                  clear hmcase
                  go_wp2_with fail
                  refine wp_region_hi (by kernel_rfl) (by kernel_rfl) ?_
                  repeat (first | go_big_quiet_skip | (go_big_quiet_want; go_big_quiet_op; first | go_big_quiet_on | go_big_quiet_call (fail)))
                  refine wpQuiet_nil ?_
                  intro _ hw
                  obtain ⟨y, rfl⟩ := hw
                  have d16 := g16 y
                  obtain ⟨bv', wy, hrun, hob', hs', hsep, hloc⟩ := (HOBJ.out.below hszj y.below).app2 (Nat.le_trans hszj y.below.size) ((HBBH.out.on y.below).bytes) (by rw [HBLE.out, HHB.out]; exact hblen) 25
                  have HRUN : Hid _ := hrun
                  have HOBN : Hid (OB X1.heap.size X1 wy bv' (bodies (L.take k) ++ bodies (M.take (j + 1)))) := by show OB _ _ _ _ _; rw [HTKZ.out]; exact hob'
                  have HBSN : Hid (Beside f wn bv' (.slice (some ⟨bm, 0, none⟩) MN c2) M wy) := (HBSJ.out.on y.below).app hsep hloc
                  clear hrun hob' g3 g4 g16 v4 v3 HOBJ HBSJ HBBH w58 w59 w68 w85 q62 hsep hloc
                  go_wp2_with (at_builtin; refine wpList_append_run rfl _ _ _ _ rfl rfl rfl HRUN.out ?_; clear HRUN)
                  exact ⟨⟨j + 1, by omega, by simp, HOBN.out, HBSN.out, hs'⟩, by simp [intOf]; omega⟩
              · have hjN : j = MN := by omega
                have hob2 := hobj.out
                rw [List.take_of_length_le (l := M) (by rw [HMN.out]; omega), HBOD2.out, ← HTK.out] at hob2
                have HOB2 : Hid (OB X1.heap.size X1 wr _ (bodies (L.take (k + 1)))) := hob2
                have hNj : ¬ j < MN := hltj
                subst hbvj
                clear hobj hbsj hob2 hjN hltj
                generalize (bodies (L.take k) ++ bodies (M.take j)).length = bl at *
                go_wp2_with fail
                exact ⟨⟨k + 1, by omega, by simp, HOB2.out, hszj⟩, by simp [intOf]; omega⟩
          · have q3 : (refE f.df g.mf g.off g.opts g.body less != 0) = true := by simpa using hE2
            obtain ⟨a2, c2, e2⟩ := hrm.slc
            subst e2
            generalize refE f.df g.mf g.off g.opts g.body less = E2 at *
            generalize (outL f.df g.mf g.off g.opts g.body less).length = OL at *
            clear hrm hE2 HOB5 HBO HOB HB5 hb5 HSP HLV
            go_wp2_with fail
            refine Calls.mono (HAL.out _) ?_
            rintro e X8 ⟨rfl, hb8⟩
            have HB8 : Hid (Below w.heap.size w X8) := HB5w.out.trans (hb8.mono HB5w.out.size)
            clear hb8
            go_wp2
            go_ret
            exact ⟨rfl, HB8.out⟩
        · have hbody : bodies (L.take k) = b := by rw [List.take_of_length_le (by rw [HN.out]; omega), HBOD.out]
          have hob1 := hob.out
          rw [hbody] at hob1
          have hBw := hob1.bel
          have hfit : Fit b := HQX.out.fit
          obtain ⟨a3, c3, hsb1⟩ : ∃ a c, sb1 = .slice a b.length c := by obtain ⟨_, _, a, cap, e, _⟩ := HQX.out; exact ⟨_, _, e⟩
          have v16 : wr.cell? ⟨w.heap.size, 16, none⟩ = some (.slice a3 b.length c3) := by rw [vb16 (blk_on HVB.out hBw), hsb1]
          have t1 : (convert 25 9 (.slice ab (bodies (L.take k)).length cb)).run Try.prog wr = .ok (.string (strOfNums b)) wr := by rw [← hbv]; exact (hob1.row hfit (by omega)).bytes.text
          have t2 : (convert 25 9 (.slice a3 b.length c3)).run Try.prog wr = .ok (.string (strOfNums b)) wr := by rw [← hsb1]; exact (HQX.out.on hBw).bytes.text
          have HBW : Hid (Below w.heap.size w wr) := HBX1.out.trans (hBw.mono HBX1.out.size)
          have hNi : ¬ k < N := hlt
          subst hbv
          clear hob hob1 hfit hBw hsb1 hlt hbody
          generalize (bodies (L.take k)).length = bl at *
          generalize strOfNums b = SS at *
          generalize b.length = nb at *
          go_wp2_with fail
          refine Calls.mono (HAL.out _) ?_
          rintro e X8 ⟨rfl, hb8⟩
          have HB8 : Hid (Below w.heap.size w X8) := HBW.out.trans (hb8.mono HBW.out.size)
          clear hb8
          go_wp2
          go_ret
          exact ⟨rfl, HB8.out⟩
  · have q1 : (refE f.df mf off o b mtu != 0) = true := by simpa using hE
    obtain ⟨a1, c1, e1⟩ := hr1.slc
    subst e1
    generalize refE f.df mf off o b mtu = E at *
    generalize (outL f.df mf off o b mtu).length = OL at *
    clear hr1 hE HVB HQX HQ2 HBX hB1 HB2
    go_wp2_with fail
    refine Calls.mono HALX1.out ?_
    rintro e X8 ⟨rfl, hb8⟩
    have HB8 : Hid (Below w.heap.size w X8) := hb8
    clear hb8
    go_wp2
    go_ret
    exact ⟨rfl, HB8.out⟩
end

theorem splitAgain_open {H : Type} {enc : TypeId × Value → H} {W : World} {base : Nat} (v0 v1 v2 : Value) {d0 d1 d2 : DataW H} {p0 p1 p2 : List MemPlace}
    (o0 : Value.okWide Try.prog W .any base 27 v0) (h0 : DataW.Trod enc Try.prog W 0 (fun _ => true) true 27 v0 d0 p0) (z0 : ∀ k ∈ d0.weights Try.prog 27, k ≤ reachBytes)
    (o1 : Value.okWide Try.prog W .any base 3 v1) (h1 : DataW.Trod enc Try.prog W 0 (fun _ => true) true 3 v1 d1 p1) (z1 : ∀ k ∈ d1.weights Try.prog 3, k ≤ reachBytes)
    (o2 : Value.okWide Try.prog W .any base 3 v2) (h2 : DataW.Trod enc Try.prog W 0 (fun _ => true) true 3 v2 d2 p2) (z2 : ∀ k ∈ d2.weights Try.prog 3, k ≤ reachBytes) :
    Calls Try.prog 6 #[v0, v1, v2] W fun e w' => e = .returned (.bool true) ∧ Below W.heap.size W w' := by
  obtain ⟨f, mf, off, so, sb, opts, body, rfl, hf, hr1, hr2, ho⟩ := open_dg h0 z0
  obtain ⟨k, rfl, _, _, wk⟩ := open_int Try.underlying3 o1 h1
  obtain ⟨l, rfl, _, _, wl⟩ := open_int Try.underlying3 o2 h2
  exact splitAgain_walk f mf off so sb opts body k l W hr1 hr2 ho (bounds_i64 wk) (bounds_i64 wl)

end Go.Proofs.Ytackllcfnlhkpaa
