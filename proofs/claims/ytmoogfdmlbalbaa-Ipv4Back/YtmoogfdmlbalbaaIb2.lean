/-
  The walk of the statement Ipv4Back.
-/
import Derived.Test.YtmoogfdmlbalbaaIb1
import Derived.Test.YtmoogfdmlbalbaaIoN
namespace Go.Proofs.Ytmoogfdmlbalbaa
open Go Go.RowKit
set_option linter.unusedVariables false
set_option linter.unusedSimpArgs false

set_option maxHeartbeats 2000000 in
set_option maxRecDepth 100000 in
theorem ipv4Back_walk (c : List Value) (tos id : Int) (df mf : Bool) (off ttl proto s0 s1 s2 s3 d0 d1 d2 d3 : Int) (opts body : List Int) (a : Option Addr) (kap : Nat) (zs : List Int) (vl : Value) (os : Opts) (w : World) (h : Dgram w c tos id df mf off ttl proto s0 s1 s2 s3 d0 d1 d2 d3 opts body) (hr : RowC w (.slice a zs.length kap) zs) (ho : OptsAt w.heap.size w vl os) :
    Calls Try.prog 7 #[.agg c.toArray, .slice a zs.length kap, vl] w fun e w' => e = .returned (.bool true) ∧ Below w.heap.size w w' := by
  have hL := h.lens
  have hb0 := blk_new w (.cells c.toArray 27)
  have hB0 := (Below.refl w.heap.size w).alloc (Nat.le_refl _) (.cells c.toArray 27)
  generalize hW0 : w.alloc (.cells c.toArray 27) = W0 at *
  have hLA : ∀ x : Hi W0, (Instr.loadAt 27 (.pointer (some ⟨w.heap.size, 0, none⟩))).run Try.prog x.W = .ok (.agg c.toArray) x.W := fun x => agg_load Try.isAgg27 Try.sizeOf27 hL.len (CellsAt.of_blk (Hi.blk hb0 x))
  have HLA : Hid _ := hLA
  have HD : Hid _ := h
  have HL : Hid _ := hL
  have HB0 : Hid _ := hB0
  have HW0 : Hid _ := hW0
  have HAW : Hid _ := awake_calls W0
  have HR : Hid _ := hr
  have HO : Hid _ := ho
  have HPA : Hid (∀ W, Below w.heap.size w W → Calls Try.prog 18 #[.slice a zs.length kap] W fun e w' => ∃ c', e = .returned (.tuple #[.agg c'.toArray, .int .i64 (pErr zs false).1, .int .i64 (pErr zs false).2]) ∧ ParD zs false w' c' ∧ Apart W.heap.size c' ∧ Below W.heap.size W w') := fun W hB => Parse_any (hr.on hB)
  have HPK : Hid (∀ W, Below w.heap.size w W → Calls Try.prog 28 #[vl] W fun e w' => PackPost os W e w') := fun W hB => Pack_calls vl os W (ho.later hB)
  have HBX : Hid _ := box17k
  unfold zeroC at HBX
  clear hLA hB0 hb0 hL h hr ho hW0
  rw [← HW0.out] at HAW
  go_enter Try.func7, Try.ntmps7
  go_wp2_with fail
  refine Calls.mono HAW.out ?_
  rintro e1 w1 ⟨rfl, hb1⟩
  rw [HW0.out] at hb1
  have hbw1 := HB0.out.trans (hb1.mono HB0.out.size)
  have HL1 : Hid ((Instr.loadAt 27 (.pointer (some ⟨w.heap.size, 0, none⟩))).run Try.prog w1 = .ok (.agg c.toArray) w1) := HLA.out ⟨w1, hb1⟩
  have HB1 : Hid _ := hb1
  have HBW1 : Hid _ := hbw1
  clear hb1 hbw1 HAW
  rcases Classical.em (chk off opts.length body.length = 0) with hk | hk
  focus
    have HWR : Hid _ := Write_ok c tos id df mf off ttl proto s0 s1 s2 s3 d0 d1 d2 d3 opts body w1 (HD.out.on HBW1.out) hk
    have HPB : Hid _ := parse_back (w := w) HD.out hk
    go_wp2_with ((with_reducible show wpList _ _ _ _ _ _); refine arm_load rfl (.tmp 3) 27 rfl rfl HL1.out ?_)
    refine Calls.mono HWR.out ?_
    rintro e2 w2 ⟨g, rfl, hg, own, hb2⟩
    have hP2 := HPB.out w2 g own
    have HP2 : Hid _ := hP2
    clear own hP2 HPB
    go_wp2_with fail
    refine Calls.mono HP2.out ?_
    rintro e3 w3 ⟨c3, rfl, hD3, hb3⟩
    obtain ⟨w4, hst4, cc3, hb4, hlt4⟩ := HBX.out w3 c3 ⟨hD3.lens.len, hD3.ones⟩
    have hb24 := hb3.trans (hb4.mono hb3.size)
    have hb14 := hb2.trans (hb24.mono hb2.size)
    have hb04 := HB1.out.trans (hb14.mono HB1.out.size)
    have hbw4 := HB0.out.trans (hb04.mono HB0.out.size)
    have HST : Hid _ := hst4
    have HS4 : Hid (Calls Try.prog 22 #[.agg c.toArray, .agg c3.toArray] w4 fun e w' => e = .returned (.bool true) ∧ Below w4.heap.size w4 w') := by
      have := RSame_calls w4 (HD.out.on hbw4) (hD3.on hb4)
      rwa [sameB_self] at this
    have HLV4 : Hid ((Instr.loadAt 27 (.pointer (some ⟨w.heap.size, 0, none⟩))).run Try.prog w4 = .ok (.agg c.toArray) w4) := HLA.out ⟨w4, hb04⟩
    have HLW4 : Hid ((Instr.loadAt 27 (.pointer (some ⟨w3.heap.size, 0, none⟩))).run Try.prog w4 = .ok (.agg c3.toArray) w4) := agg_load Try.isAgg27 Try.sizeOf27 hD3.lens.len (CellsAt.of_blk cc3)
    have HB04 : Hid _ := hb04
    have HBW4 : Hid _ := hbw4
    clear hst4 cc3 hb4 hb24 hb14 hb04 hbw4 hb3 hb2 hg
    go_wp2_with first
      | ((with_reducible show wpList _ _ _ _ _ _); refine arm_store rfl (.tmp 9) _ 27 rfl rfl rfl HST.out ?_)
      | ((with_reducible show wpList _ _ _ _ _ _); refine arm_load rfl (.tmp 3) 27 rfl rfl HLV4.out ?_)
      | ((with_reducible show wpList _ _ _ _ _ _); refine arm_load rfl (.tmp 9) 27 rfl rfl HLW4.out ?_)
    refine Calls.mono HS4.out ?_
    rintro _ wx ⟨rfl, hbx⟩
    have HBX0 : Hid _ := HB04.out.trans (hbx.mono HB04.out.size)
    have HBWX : Hid _ := HBW4.out.trans (hbx.mono HBW4.out.size)
    clear hbx HST HS4 HLV4 HLW4 HP2 HWR hD3 HB04 HBW4
    go_wp2_with fail
  rotate_left
  focus
    have HWR : Hid _ := Write_no c off opts.length body.length w1 HL.out hk
    have hkq : (chk off opts.length body.length == 0) = false := by simp [hk]
    generalize chk off opts.length body.length = kk at *
    go_wp2_with ((with_reducible show wpList _ _ _ _ _ _); refine arm_load rfl (.tmp 3) 27 rfl rfl HL1.out ?_)
    refine Calls.mono HWR.out ?_
    rintro _ wx ⟨rfl, hbx⟩
    have HBX0 : Hid _ := HB1.out.trans (hbx.mono HB1.out.size)
    have HBWX : Hid _ := HBW1.out.trans (hbx.mono HBW1.out.size)
    clear hbx HWR
    go_wp2_with fail
  all_goals
    refine Calls.mono (HPA.out wx HBWX.out) ?_
    rintro _ w6 ⟨c6, rfl, hd6, hA6, hb6⟩
    obtain ⟨w7, hst7, cc6, hb7, hlt7⟩ := HBX.out w6 c6 (ParD.len hd6)
    have HST7 : Hid _ := hst7
    have hb67 := hb6.trans (hb7.mono hb6.size)
    have HBW7 : Hid _ := HBWX.out.trans (hb67.mono HBWX.out.size)
    have HD7 : Hid (ParD zs false w7 c6) := ParD.on hd6 hb7
    have HC7 : Hid _ := cc6
    clear hst7 cc6 hb7 hb67 hb6 hA6 hd6 HL1 HB1 HBW1
    rcases Classical.em (pErr zs false = (0, 0)) with hp | hp
    rotate_left
    focus
      have hp2 := pErr_snd2 hp
      have hq : ((pErr zs false).2 == 0) = false := by simp [hp2]
      generalize pErr zs false = pe at *
      go_wp2_with ((with_reducible show wpList _ _ _ _ _ _); refine arm_store rfl (.tmp 12) _ 27 rfl rfl rfl HST7.out ?_)
      have HBWY : Hid _ := HBW7.out
    rotate_left
    focus
      have hlz := (pErr_zero hp).1
      obtain ⟨ba, oa, kap', eab, hroom, hba, hcc⟩ := HR.out.some (by omega)
      cases eab
      have k6 := (HBW7.out.cell (p := ⟨ba, oa + 6, none⟩) hba).trans (hcc 6 (by omega))
      have hi6 : (6 : Int) < (zs.length : Int) := by omega
      have HFZ : Hid _ := HR.out.fit
      have HCC : Hid _ := hcc
      have HBA : Hid _ := hba
      have HSD : Hid (SaysD zs w7 c6) := by have := HD7.out; unfold ParD at this; rwa [if_pos hp] at this
      have HLEN : Hid _ := HR.out.len
      have hq0 : ((pErr zs false).2 == 0) = true := by rw [hp]; rfl
      have HPZ : Hid _ := hp
      have HWA : Hid (gz zs 6 < 128 → _) := fun h6 => write_again HFZ.out HPZ.out h6 HSD.out
      have HLC : Hid ((Instr.loadAt 27 (.pointer (some ⟨w6.heap.size, 0, none⟩))).run Try.prog w7 = .ok (.agg c6.toArray) w7) := agg_load Try.isAgg27 Try.sizeOf27 (ParD.len HD7.out).1 (CellsAt.of_blk HC7.out)
      clear hcc hba hp
      generalize pErr zs false = pe at *
      rcases Classical.em (gz zs 6 < 128) with h6 | h6
      focus
        have HWB : Hid _ := HWA.out h6
        have q6 : decide (gz zs 6 < 128) = true := by simp [h6]
        generalize gz zs 6 = z6 at *
        clear h6
        go_wp2_with first
          | ((with_reducible show wpList _ _ _ _ _ _); refine arm_store rfl (.tmp 12) _ 27 rfl rfl rfl HST7.out ?_)
          | ((with_reducible show wpList _ _ _ _ _ _); refine arm_load rfl (.tmp 12) 27 rfl rfl HLC.out ?_)
        refine Calls.mono HWB.out ?_
        rintro _ w8 ⟨g8, yl, rfl, own8, hfy, hly, h10, h12, hb8⟩
        have HBWY : Hid (Below w.heap.size w w8) := HBW7.out.trans (hb8.mono HBW7.out.size)
        have y10 := own8.bytes hfy (by have := HLEN.out; omega) 0 10 zs.length (by omega)
        have y12 := own8.bytes hfy (by have := HLEN.out; omega) 12 (zs.length - 12) (zs.length - 12) (by omega)
        rw [List.drop_zero, h10] at y10
        rw [h12, List.take_of_length_le (by simp)] at y12
        have b10 := piece_at (i := 0) (n := 10) (k := kap) (o := oa) HBA.out HFZ.out HLEN.out HCC.out (by omega) (fun _ => rfl)
        have b12 := piece_at (i := 12) (n := zs.length - 12) (k := kap - 12) (o := oa + 12) HBA.out HFZ.out HLEN.out HCC.out (by omega) (fun _ => rfl)
        rw [List.drop_zero] at b10
        rw [List.take_of_length_le (by simp)] at b12
        have u1 := Hi.text y10
        have u2 := Hi.text y12
        have u3 := Hi.text (b10.later HBWY.out)
        have u4 := Hi.text (b12.later HBWY.out)
        have i10 : (10 : Int) ≤ (zs.length : Int) := by omega
        have i12 : (12 : Int) ≤ (zs.length : Int) := by omega
        have j10 : (10 : Int) ≤ (kap : Int) := by omega
        have j12 : (12 : Int) ≤ (kap : Int) := by omega
        have n12 : ¬ zs.length = 12 := by omega
        have n12' : ¬ kap = 12 := by omega
        clear y10 y12 b10 b12 own8 hfy hly h10 h12 hb8
        generalize strOfNums (zs.take 10) = S10 at *
        generalize strOfNums (zs.drop 12) = S12 at *
        go_wp2_with fail
        refine wp_region_hi (by kernel_rfl) (by kernel_rfl) ?_
        repeat (first | go_big_quiet_skip | (go_big_quiet_want; go_big_quiet_op; go_big_quiet_on))
        refine wpQuiet_nil ?_
        intro _ hw
        obtain ⟨y, rfl⟩ := hw
        replace HBWY : Hid (Below w.heap.size w y.W) := HBWY.out.trans (y.below.mono HBWY.out.size)
        clear u1 u2 u3 u4
        go_wp2_with fail
      rotate_left
      focus
        have q6 : decide (gz zs 6 < 128) = false := by simpa using h6
        generalize gz zs 6 = z6 at *
        clear h6
        have HBWY : Hid (Below w.heap.size w w7) := HBW7.out
        go_wp2_with ((with_reducible show wpList _ _ _ _ _ _); refine arm_store rfl (.tmp 12) _ 27 rfl rfl rfl HST7.out ?_)
    all_goals
      refine Calls.mono (HPK.out _ HBWY.out) ?_
      rintro _ w20 ⟨r20, bs, er, rfl, hr20, hb20, hPI⟩
      have HB20 : Hid _ := HBWY.out.trans (hb20.mono HBWY.out.size)
      clear hb20 HBWY HBW7 HST7 HD7 HC7
      rcases hPI with ⟨_, _, _, _, rfl, rfl⟩ | ⟨_, _, rfl, rfl⟩ | ⟨hall, htot, rfl, rfl⟩
      · obtain ⟨_, _, ra, rc, rfl, _⟩ := hr20
        go_wp2
        go_ret
        exact ⟨rfl, HB20.out⟩
      · obtain ⟨_, _, ra, rc, rfl, _⟩ := hr20
        go_wp2
        go_ret
        exact ⟨rfl, HB20.out⟩
      · have hpl : (packR os os.length).length ≤ 40 := by rw [packR_length (Nat.le_refl _)]; unfold up4; omega
        have HPL : Hid _ := opts_pack_len hall
        have HOC : Hid _ := Options_calls r20 _ w20 hr20 (by omega)
        have HOP : Hid (optsF ((packR os os.length).length + 1) (packR os os.length) = (os, none)) := opts_pack hall (by have := HPL.out; omega)
        clear hall htot hpl hr20
        go_wp2_with fail
        refine Calls.mono HOC.out ?_
        rintro _ w30 ⟨v30, os30, at30, er30, rfl, ho30, hb30, hIs⟩
        have hB30 := HB20.out.trans (hb30.mono HB20.out.size)
        rcases hIs with ⟨_, rfl, rfl, rfl⟩ | ⟨m30, hm30, _⟩
        · rw [HOP.out] at ho30
          have HSO : Hid _ := SameOptions_same vl v30 os w30 (HO.out.later hB30) ho30
          have HB30 : Hid _ := hB30
          clear ho30 hb30 hB30
          go_wp2_with fail
          refine Calls.mono HSO.out ?_
          rintro _ w40 ⟨rfl, hb40⟩
          have HB40 : Hid _ := HB30.out.trans (hb40.mono HB30.out.size)
          clear hb40
          go_wp2
          go_ret
          exact ⟨rfl, HB40.out⟩
        · rw [HOP.out] at hm30
          cases hm30

theorem ipv4Back_open {H : Type} {enc : TypeId × Value → H} {W : World} {base : Nat} (v0 : Value) {d0 : DataW H} {p0 : List MemPlace} (v1 : Value) {d1 : DataW H} {p1 : List MemPlace} (v2 : Value) {d2 : DataW H} {p2 : List MemPlace}
    (o0 : Value.okWide Try.prog W .any base 27 v0) (h0 : DataW.Trod enc Try.prog W 0 (fun _ => true) true 27 v0 d0 p0) (z0 : ∀ k ∈ d0.weights Try.prog 27, k ≤ reachBytes)
    (o1 : Value.okWide Try.prog W .any base 25 v1) (h1 : DataW.Trod enc Try.prog W 0 (fun _ => true) true 25 v1 d1 p1) (z1 : ∀ k ∈ d1.weights Try.prog 25, k ≤ reachBytes)
    (o2 : Value.okWide Try.prog W .any base 42 v2) (h2 : DataW.Trod enc Try.prog W 0 (fun _ => true) true 42 v2 d2 p2) (z2 : ∀ k ∈ d2.weights Try.prog 42, k ≤ reachBytes) :
    Calls Try.prog 7 #[v0, v1, v2] W fun e w' => e = .returned (.bool true) ∧ Below W.heap.size W w' := by
  obtain ⟨c, tos, id, df, mf, off, ttl, proto, s0, s1, s2, s3, e0, e1, e2, e3, opts, body, rfl, hD⟩ := open_v4 h0 z0
  obtain ⟨zs, hr⟩ := open_row o1 h1 z1
  obtain ⟨a, cap, e, _⟩ := hr.val
  subst e
  obtain ⟨os, ho⟩ := open_opts o2 h2 z2
  exact ipv4Back_walk c tos id df mf off ttl proto s0 s1 s2 s3 e0 e1 e2 e3 opts body a cap zs v2 os W hD hr ho

end Go.Proofs.Ytmoogfdmlbalbaa
