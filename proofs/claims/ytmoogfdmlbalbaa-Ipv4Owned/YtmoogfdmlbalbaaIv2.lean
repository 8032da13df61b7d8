/-
  The walk of the statement Ipv4Owned.
-/
import Derived.Test.YtmoogfdmlbalbaaIv3
import Derived.Test.YtmoogfdmlbalbaaIr14
namespace Go.Proofs.Ytmoogfdmlbalbaa
open Go Go.RowKit
set_option linter.unusedVariables false
set_option linter.unusedSimpArgs false

set_option maxHeartbeats 2000000 in
set_option maxRecDepth 100000 in
theorem ipv4Owned_walk (c : List Value) (tos id : Int) (df mf : Bool) (off ttl proto s0 s1 s2 s3 d0 d1 d2 d3 : Int) (opts body : List Int) (a : Option Addr) (kap : Nat) (zs : List Int) (w : World) (h : Dgram w c tos id df mf off ttl proto s0 s1 s2 s3 d0 d1 d2 d3 opts body) (hr : RowC w (.slice a zs.length kap) zs) (hR1 : ∀ W, Below w.heap.size w W → RReads 19 #[.slice a zs.length kap] zs false W) :
    Calls Try.prog 10 #[.agg c.toArray, .slice a zs.length kap] w fun e w' => e = .returned (.bool true) ∧ Below w.heap.size w w' := by
  have hL := h.lens
  have hb0 := blk_new w (.cells c.toArray 27)
  have hB0 := (Below.refl w.heap.size w).alloc (Nat.le_refl _) (.cells c.toArray 27)
  generalize hW0 : w.alloc (.cells c.toArray 27) = W0 at *
  have hLA : ∀ x : Hi W0, (Instr.loadAt 27 (.pointer (some ⟨w.heap.size, 0, none⟩))).run Try.prog x.W = .ok (.agg c.toArray) x.W := fun x => agg_load Try.isAgg27 Try.sizeOf27 hL.len (CellsAt.of_blk (Hi.blk hb0 x))
  have hBa := (Below.refl W0.heap.size W0).alloc (Nat.le_refl _) (.cells #[] 5)
  have hB0a := hB0.trans (hBa.mono hB0.size)
  obtain ⟨b1, k1, w1, hrun1, hk1, hb1, hown1⟩ := bytes_copied3 (hr.bytes.later hB0a) (w.heap.size + 1) 25
  have hB1 := hBa.trans (hb1.mono hBa.size)
  have hrow1 : RowC w1 (.slice (some ⟨b1, 0, none⟩) zs.length k1) zs := by
    refine .of_bytes ?_ hk1
    rcases hown1 with ⟨rfl, _⟩ | ⟨hlo, hown⟩
    · exact ⟨hr.fit, hr.len, _, _, rfl, .inl rfl⟩
    · have := hown.bytes hr.fit hr.len 0 zs.length k1 (by simp)
      simpa using this
  have hlo : w.heap.size + 1 ≤ b1 := by
    rcases hown1 with ⟨_, rfl⟩ | ⟨hlo, _⟩
    · exact Nat.le_refl _
    · refine Nat.le_trans ?_ hlo
      rw [← hW0]
      simp
  have HLO : Hid _ := hlo
  have HLT1 : Hid (b1 < w1.heap.size) := by
    rcases hown1 with ⟨_, rfl⟩ | ⟨_, h⟩
    · refine Nat.lt_of_lt_of_le ?_ hb1.size
      rw [← hW0]
      simp
    · exact h.lt
  have hP := Parse_any hrow1
  unfold ReadsAs at hP
  have HW0 : Hid _ := hW0
  have HLA : Hid _ := hLA
  have HD : Hid _ := h
  have HR1 : Hid _ := hR1
  have HP : Hid _ := hP
  have HROW : Hid _ := hr
  have HB1 : Hid _ := hB1
  have HB0 : Hid _ := hB0
  have HOWN1 : Hid _ := hown1
  have HRUN1 : Hid _ := hrun1
  have HBK : Hid _ := hb0
  have HBX : Hid _ := box17k
  unfold zeroC at HBX
  rw [← HW0.out] at HRUN1
  clear hlo hLA hL hb0 hB0 hW0 hBa hB0a hrun1 hb1 hown1 hB1 hrow1 hP h hr hR1 hk1
  go_enter Try.func10, Try.ntmps10
  go_wp2_with (at_builtin; refine wpList_append_run rfl _ _ _ _ rfl rfl rfl HRUN1.out ?_)
  refine Calls.mono HP.out ?_
  rintro _ w2 ⟨c1, rfl, hd1, hA1, hb2⟩
  obtain ⟨w3, hst3, cc1, hb3, hlt3⟩ := HBX.out w2 c1 hd1.len
  have HST3 : Hid _ := hst3
  have hB13 := hb2.trans (hb3.mono hb2.size)
  have hB03 := HB1.out.trans (hB13.mono HB1.out.size)
  have hBw3 := HB0.out.trans (hB03.mono HB0.out.size)
  have HSTART : Hid (zs = [] ∨ ∃ ys : List Int, ys.length = zs.length ∧ OwnG w3 b1 ys ∧ ∀ j, 0 ≤ j → gz ys j = gz zs j) := by
    rcases HOWN1.out with ⟨h, _⟩ | ⟨_, h⟩
    · exact .inl h
    · exact .inr ⟨zs, rfl, h.kept h.lt hB13, fun _ _ => rfl⟩
  have HD1 : Hid (ParD zs false w2 c1) := hd1
  have HA1 : Hid _ := hA1
  have HC1 : Hid _ := cc1
  have HB2 : Hid _ := hb2
  have HB3 : Hid _ := hb3
  have HLT3 : Hid _ := hlt3
  have HB03 : Hid _ := hB03
  have HBw3 : Hid _ := hBw3
  have HPE : Hid _ := HR1.out
  unfold RReads at HPE
  generalize hpe : pErr zs false = pe at *
  have HPE2 : Hid _ := hpe
  have hzl : (zs.length : Int) ≤ 140737488351232 := by have := HROW.out.len; omega
  clear hst3 hd1 hA1 cc1 hb2 hb3 hlt3 hB13 hB03 hBw3 hpe HR1 HP HRUN1
  go_wp2_with ((with_reducible show wpList _ _ _ _ _ _); refine arm_store rfl (.tmp 6) _ 27 rfl rfl rfl HST3.out ?_)
  clear HST3
  go_loopw [30] (fun i wr => ∃ k : Nat, k ≤ zs.length ∧ i = .int .i64 k ∧ (zs = [] ∨ ∃ ys : List Int, ys.length = zs.length ∧ OwnG wr b1 ys ∧ ∀ j, k ≤ j → gz ys j = gz zs j) ∧ Only b1 w3 wr) (fun i _ => zs.length - (intOf i).toNat)
  case atStart => exact ⟨0, Nat.zero_le _, rfl, HSTART.out, Only.refl _ _⟩
  case round =>
    obtain ⟨k, hk, rfl, hy, hO⟩ := hrel
    by_cases hlt : k < zs.length
    · have hne : zs ≠ [] := by intro e; rw [e] at hlt; simp at hlt
      obtain ⟨ys, hyl, hown, hyz⟩ := hy.resolve_left hne
      obtain ⟨ba, oa, kap', e, _, hba, hcc⟩ := HROW.out.some (by omega)
      cases e
      have hbr : Below w.heap.size w wr := HBw3.out.trans (hO.below (Nat.le_of_succ_le HLO.out))
      have hca : wr.cell? ⟨ba, oa + k, none⟩ = some (.int .u8 (gz zs k)) := (hbr.cell (p := ⟨ba, oa + k, none⟩) hba).trans (hcc k hlt)
      have hco : wr.cell? ⟨b1, k, none⟩ = some (.int .u8 (gz zs k)) := by rw [hown.cell k (by omega)]; exact congrArg (fun z => some (Value.int .u8 z)) (hyz k (Nat.le_refl _))
      have hop := hown.open k
      have HOS : Hid _ := hown.set k (by omega)
      have HO : Hid _ := hO
      have hkk : (k : Int) < (zs.length : Int) := by omega
      have hgz := HROW.out.fit.gz k
      generalize gz zs k = z at *
      clear hy hne hcc hO hbr
      go_wp2_with fail
      go_region
      go_wp2
      have ho2 := HOS.out (bits BinOp.xor IntKind.u8 (if IntKind.u8.signed = true then -1 else IntKind.u8.max) z)
      refine ⟨⟨k + 1, by omega, by simp, .inr ⟨_, by simp [hyl], ⟨ho2.typed, ho2.cell⟩, fun j hj => ?_⟩, (HO.out.set _ _).drew⟩, by simp [intOf]; omega⟩
      rw [gz, List.getElem?_set_ne (by omega)]
      exact hyz j (by omega)
    · have hO3 := hO
      have hbr : Below w.heap.size w wr := HBw3.out.trans (hO.below (Nat.le_of_succ_le HLO.out))
      obtain rfl : k = zs.length := by omega
      clear hy hO
      have HBR : Hid _ := hbr
      have HO3 : Hid _ := hO3
      clear hbr hO3
      go_wp2_with fail
      refine Calls.mono (HPE.out wr HBR.out) ?_
      rintro _ w4 ⟨c2, rfl, hd2, _, hb4⟩
      obtain ⟨w5, hst5, cc2, hb5, hlt5⟩ := HBX.out w4 c2 hd2.len
      have HST5 : Hid _ := hst5
      have hB35 : Below wr.heap.size wr w5 := hb4.trans (hb5.mono hb4.size)
      have hx_r : ParD zs false wr c1 := ParD.only (ParD.on HD1.out HB3.out) HA1.out HLT1.out HO3.out
      have hk_r : wr.heap[w2.heap.size]? = some (.cells c1.toArray 27) := (HO3.out.other w2.heap.size (by have h1 := HB2.out.size; have h2 := HLT1.out; omega)).trans HC1.out
      have HX5 : Hid (ParD zs false w5 c1) := hx_r.on hB35
      have HK5 : Hid _ := blk_on hk_r hB35
      have HY5 : Hid (ParD zs false w5 c2) := hd2.on hb5
      have HL1 : Hid _ := (ParD.len HD1.out).1
      have HL2 : Hid _ := hd2.len.1
      have HPS : Hid (∀ W, Below w5.heap.size w5 W → Calls Try.prog 22 #[.agg c1.toArray, .agg c2.toArray] W fun e w' => e = .returned (.bool true) ∧ Below W.heap.size W w') := fun W hB => ParD.same (ParD.on HX5.out hB) (ParD.on HY5.out hB)
      clear hx_r hk_r
      have hW0r : Below W0.heap.size W0 wr := HB03.out.trans (HO3.out.below (by have := HLO.out; rw [← HW0.out]; simpa using this))
      have hW05 := hW0r.trans (hB35.mono hW0r.size)
      have hl5 : (Instr.loadAt 27 (.pointer (some ⟨w.heap.size, 0, none⟩))).run Try.prog w5 = .ok (.agg c.toArray) w5 := HLA.out ⟨w5, hW05⟩
      obtain ⟨w6, hst6, cc6, hb6, hlt6⟩ := HBX.out w5 c ⟨HD.out.lens.len, HD.out.ones⟩
      obtain ⟨so, sb, hc, hso, hsb⟩ := HD.out.cells
      have c15 : c[15]? = some so := by rw [hc.eq]; rfl
      have c16 : c[16]? = some sb := by rw [hc.eq]; rfl
      have hW06 := hW05.trans (hb6.mono hW05.size)
      have hBw6 := HB0.out.trans (hW06.mono HB0.out.size)
      have kV6 := blk_on HBK.out hW06
      have hne : w.heap.size ≠ w5.heap.size := by
        have h1 := hW05.size
        have h2 := (Array.getElem?_eq_some_iff.1 HBK.out).1
        omega
      have HREG : Hid (∀ (Q : Exit → Act → World → Prop) (A : Act) (h1 : 68 ≤ A.tmps.size) (h2 : A.eval (.tmp 2) = .pointer (some ⟨w.heap.size, 0, none⟩)) (h3 : A.eval (.tmp 13) = .pointer (some ⟨w5.heap.size, 0, none⟩)) (hQ : ∀ c (a : Act) d v w, Q (.panic c) (a.put d v) w → Q (.panic c) a w) (hK : _), (Code.region 12 own12.toArray true).wp Try.prog Q A w6) := fun Q A h1 h2 h3 hQ hK => region12 (Q := Q) (a := A) (w := w6) (Vb := w.heap.size) (Xb := w5.heap.size) (so := so) (sb := sb) (opts := opts) (body := body) h1 h2 h3 (Array.getElem?_eq_some_iff.1 kV6).1 hlt6 hne (blk_cell kV6 c15) (blk_cell kV6 c16) (by rw [blk_cell cc6 c15]; rfl) (by rw [blk_cell cc6 c16]; rfl) ⟨_, _, cc6⟩ (hso.later hBw6) (hsb.later hBw6) hQ hK
      have HL5 : Hid _ := hl5
      have HST6 : Hid _ := hst6
      have HCC2 : Hid _ := cc2
      have HCC6 : Hid _ := cc6
      have HB4 : Hid _ := hb4
      have HB5 : Hid _ := hb5
      have HB6 : Hid _ := hb6
      have HLT5 : Hid _ := hlt5
      have HLT6 : Hid _ := hlt6
      have HD2 : Hid _ := hd2
      have HW05 : Hid _ := hW05
      have HW06 : Hid _ := hW06
      have HBW6 : Hid _ := hBw6
      have HC : Hid _ := hc
      have HSO : Hid _ := hso
      have HSB : Hid _ := hsb
      clear hst5 hl5 hst6 cc2 cc6 hb4 hb5 hb6 hlt5 hlt6 hd2 hW05 hW06 hBw6 kV6 hc hso hsb hne c15 c16 hB35 hW0r
      go_wp2_with first
        | ((with_reducible show wpList _ _ _ _ _ _); refine arm_store rfl (.tmp 10) _ 27 rfl rfl rfl HST5.out ?_)
        | ((with_reducible show wpList _ _ _ _ _ _); refine arm_load rfl (.tmp 2) 27 rfl rfl HL5.out ?_)
        | ((with_reducible show wpList _ _ _ _ _ _); refine arm_store rfl (.tmp 13) _ 27 rfl rfl rfl HST6.out ?_)
      refine HREG.out _ _ (by simp [Act.put]) rfl rfl (fun _ _ d _ _ h => by cases d <;> exact h) ?_
      intro v58 v62 bo ko bb kb W7 hB67 hC1 hC2
      simp only [Act.put, List.setIfInBounds_toArray, List.set_cons_zero, List.set_cons_succ]
      have kX := blk_set (blk_set (blk_on HCC6.out hB67) 15 (.slice (some ⟨bo, 0, none⟩) opts.length ko)) 16 (.slice (some ⟨bb, 0, none⟩) body.length kb)
      have hO8 := ((Only.refl w5.heap.size W7).set 15 (.slice (some ⟨bo, 0, none⟩) opts.length ko)).set 16 (.slice (some ⟨bb, 0, none⟩) body.length kb)
      have hBo := bytes_only (hC1.bytes HSO.out.fit HSO.out.len) hO8 (.inr ⟨_, _, _, _, rfl, Nat.lt_of_lt_of_le HLT6.out hC1.lo⟩)
      have hBb := bytes_only (hC2.bytes HSB.out.fit HSB.out.len) hO8 (.inr ⟨_, _, _, _, rfl, Nat.lt_of_lt_of_le HLT6.out hC2.lo⟩)
      have hC8 := hC2.off hO8 HLT6.out
      have hb57 := HB6.out.trans (hB67.mono HB6.out.size)
      have hb58 := hb57.trans (hO8.below (Nat.le_refl _))
      have e8 : (c.set 15 (.slice (some ⟨bo, 0, none⟩) opts.length ko)).set 16 (.slice (some ⟨bb, 0, none⟩) body.length kb) = [.int .u8 tos, .int .u16 id, .bool df, .bool mf, .int .i64 off, .int .u8 ttl, .int .u8 proto] ++ ([s0, s1, s2, s3].map (fun z => Value.int .u8 z) ++ ([d0, d1, d2, d3].map (fun z => Value.int .u8 z) ++ [.slice (some ⟨bo, 0, none⟩) opts.length ko, .slice (some ⟨bb, 0, none⟩) body.length kb])) := by rw [HC.out.eq]; rfl
      generalize hW8 : (W7.setCell ⟨w5.heap.size, 15, none⟩ (.slice (some ⟨bo, 0, none⟩) opts.length ko)).setCell ⟨w5.heap.size, 16, none⟩ (.slice (some ⟨bb, 0, none⟩) body.length kb) = W8 at *
      have x16 : ∀ W, Below W8.heap.size W8 W → W.cell? ⟨w5.heap.size, 16, none⟩ = some (.slice (some ⟨bb, 0, none⟩) body.length kb) := fun W hB => blk_cell (blk_on kX hB) (by rw [e8]; rfl)
      have hX8 : Dgram W8 ((c.set 15 (.slice (some ⟨bo, 0, none⟩) opts.length ko)).set 16 (.slice (some ⟨bb, 0, none⟩) body.length kb)) tos id df mf off ttl proto s0 s1 s2 s3 d0 d1 d2 d3 opts body :=
        ⟨⟨_, _, ⟨e8, rfl, rfl⟩, hBo, hBb⟩, HD.out.hid, HD.out.ft, HD.out.fl, HD.out.fp, HD.out.fs, HD.out.fd, HD.out.bo⟩
      generalize (c.set 15 (.slice (some ⟨bo, 0, none⟩) opts.length ko)).set 16 (.slice (some ⟨bb, 0, none⟩) body.length kb) = c8 at *
      have hW08 := HW05.out.trans (hb58.mono HW05.out.size)
      have hBw8 := HB0.out.trans (hW08.mono HB0.out.size)
      have HLX : Hid (∀ W, Below W8.heap.size W8 W → (Instr.loadAt 27 (.pointer (some ⟨w5.heap.size, 0, none⟩))).run Try.prog W = .ok (.agg c8.toArray) W) := fun W hB => agg_load Try.isAgg27 Try.sizeOf27 hX8.lens.len (CellsAt.of_blk (blk_on kX hB))
      have HLV : Hid (∀ W, Below W8.heap.size W8 W → (Instr.loadAt 27 (.pointer (some ⟨w.heap.size, 0, none⟩))).run Try.prog W = .ok (.agg c.toArray) W) := fun W hB => HLA.out ⟨W, hW08.trans (hB.mono hW08.size)⟩
      have HWR : Hid _ := Write_at c8 tos id df mf off ttl proto s0 s1 s2 s3 d0 d1 d2 d3 opts body W8 hX8
      have HRS : Hid (∀ W, Below W8.heap.size W8 W → Calls Try.prog 22 #[.agg c.toArray, .agg c8.toArray] W fun e w' => e = .returned (.bool true) ∧ Below W.heap.size W w') := fun W hB => by
        have := RSame_calls W (HD.out.on (hBw8.trans (hB.mono hBw8.size))) (hX8.on hB)
        rwa [sameB_self] at this
      have HRW : Hid (∀ W, Below w.heap.size w W → _) := fun W hB => RWrite_any c tos id df mf off ttl proto s0 s1 s2 s3 d0 d1 d2 d3 opts body W (HD.out.on hB)
      generalize wrB tos id df mf off ttl proto s0 s1 s2 s3 d0 d1 d2 d3 opts body = bs at *
      generalize chk off opts.length body.length = kk at *
      have HX16 : Hid _ := x16
      have HC8 : Hid _ := hC8
      have HB58 : Hid _ := hb58
      have HBW8 : Hid _ := hBw8
      have HFB : Hid _ := HSB.out.len
      clear x16 hC8 hb58 hBw8 hW08 hX8 e8 kX hO8 hBo hBb hb57 hW8 hB67 hC1 hC2
      have HLX0 : Hid _ := HLX.out W8 (Below.refl _ _)
      go_wp2_with ((with_reducible show wpList _ _ _ _ _ _); refine arm_load rfl (.tmp 13) 27 rfl rfl HLX0.out ?_)
      refine Calls.mono HWR.out ?_
      rintro _ w9 ⟨vp, rfl, hp9, hloc9, hb9⟩
      have HP9 : Hid _ := hp9
      have HLOC9 : Hid _ := hloc9
      have HB9 : Hid _ := hb9
      have HLX9 : Hid _ := HLX.out w9 hb9
      have HLV9 : Hid _ := HLV.out w9 hb9
      clear hp9 hloc9 hb9 HWR HLX0
      go_wp2_with first
        | ((with_reducible show wpList _ _ _ _ _ _); refine arm_load rfl (.tmp 2) 27 rfl rfl HLV9.out ?_)
        | ((with_reducible show wpList _ _ _ _ _ _); refine arm_load rfl (.tmp 13) 27 rfl rfl HLX9.out ?_)
      refine Calls.mono (HRS.out w9 HB9.out) ?_
      rintro _ w10 ⟨rfl, hb10⟩
      have hb8_10 := HB9.out.trans (hb10.mono HB9.out.size)
      have y16 := HX16.out w10 hb8_10
      have HB10 : Hid _ := hb10
      have HB8T : Hid _ := hb8_10
      clear hb10 hb8_10
      go_wp2_with fail
      have hbl : (body.length : Int) ≤ 140737488351232 := by have := HFB.out; omega
      have HXB : Hid (w5.heap.size < bb) := Nat.lt_of_lt_of_le HLT6.out HC8.out.lo
      have HST2 : Hid (body = [] ∨ ∃ ys : List Int, ys.length = body.length ∧ OwnG w10 bb ys) := by
        rcases HC8.out.own with h | h
        · exact .inl h
        · exact .inr ⟨body, rfl, h.kept h.lt HB8T.out⟩
      clear y16
      go_loopw [80] (fun i wr => ∃ k : Nat, k ≤ body.length ∧ i = .int .i64 k ∧ (body = [] ∨ ∃ ys : List Int, ys.length = body.length ∧ OwnG wr bb ys) ∧ Only bb w10 wr) (fun i _ => body.length - (intOf i).toNat)
      case atStart => exact ⟨0, Nat.zero_le _, rfl, HST2.out, Only.refl _ _⟩
      case round =>
        obtain ⟨k, hk, rfl, hy, hO⟩ := hrel
        have HO : Hid _ := hO
        clear hO
        by_cases hlt : k < body.length
        · have hne : body ≠ [] := by intro e; rw [e] at hlt; simp at hlt
          obtain ⟨ys, hyl, hown⟩ := hy.resolve_left hne
          have hco := hown.cell k (by omega)
          have hop := hown.open k
          have HOS : Hid _ := hown.set k (by omega)
          have hkk : (k : Int) < (body.length : Int) := by omega
          have z16 : wr.cell? ⟨w5.heap.size, 16, none⟩ = some (.slice (some ⟨bb, 0, none⟩) body.length kb) := by
            rw [← HX16.out w10 HB8T.out]
            have := HO.out.other w5.heap.size (Nat.ne_of_lt HXB.out)
            simp [World.cell?, this]
          generalize ys[k]?.getD 0 = z at *
          clear hy hne hown
          go_wp2_with fail
          go_region
          all_goals
            go_wp2
            have ho2 := HOS.out (bits BinOp.xor IntKind.u8 (if IntKind.u8.signed = true then -1 else IntKind.u8.max) z)
            exact ⟨⟨k + 1, by omega, by simp, .inr ⟨_, by simp [hyl], ⟨ho2.typed, ho2.cell⟩⟩, (HO.out.set _ _).drew⟩, by simp [intOf]; omega⟩
        · obtain rfl : k = body.length := by omega
          clear hy
          have hB5r : Below w5.heap.size w5 wr := (HB58.out.trans (HB8T.out.mono HB58.out.size)).trans (HO.out.below (Nat.le_of_lt HXB.out))
          have hW0r := HW05.out.trans (hB5r.mono HW05.out.size)
          have hBwr := HB0.out.trans (hW0r.mono HB0.out.size)
          have HLVr : Hid ((Instr.loadAt 27 (.pointer (some ⟨w.heap.size, 0, none⟩))).run Try.prog wr = .ok (.agg c.toArray) wr) := HLA.out ⟨wr, hW0r⟩
          have hpr := bytes_only (HP9.out.later HB10.out) HO.out (loc_lt HLOC9.out HC8.out.lt)
          have HPR : Hid _ := hpr
          have HRWr : Hid _ := HRW.out wr hBwr
          have HB5R : Hid _ := hB5r
          have HBWR : Hid _ := hBwr
          clear hpr hB5r hW0r hBwr HO
          go_wp2_with ((with_reducible show wpList _ _ _ _ _ _); refine arm_load rfl (.tmp 2) 27 rfl rfl HLVr.out ?_)
          refine Calls.mono HRWr.out ?_
          rintro _ w11 ⟨vq, rfl, hq11, hb11⟩
          have hB5f := HB5R.out.trans (hb11.mono HB5R.out.size)
          have hBwf := HBWR.out.trans (hb11.mono HBWR.out.size)
          have HTP : Hid _ := Hi.text (HPR.out.later hb11)
          have HTQ : Hid _ := Hi.text hq11
          have HS11 : Hid (∀ x : Hi w11, Calls Try.prog 22 #[.agg c1.toArray, .agg c2.toArray] x.W fun e w' => e = .returned (.bool true) ∧ Below x.W.heap.size x.W w') := fun x => HPS.out x.W (hB5f.trans (x.below.mono hB5f.size))
          have H1 : Hid (∀ x : Hi w11, (Instr.loadAt 27 (.pointer (some ⟨w2.heap.size, 0, none⟩))).run Try.prog x.W = .ok (.agg c1.toArray) x.W) := fun x => agg_load Try.isAgg27 Try.sizeOf27 HL1.out (CellsAt.of_blk (Hi.blk (blk_on HK5.out hB5f) x))
          have H2 : Hid (∀ x : Hi w11, (Instr.loadAt 27 (.pointer (some ⟨w4.heap.size, 0, none⟩))).run Try.prog x.W = .ok (.agg c2.toArray) x.W) := fun x => agg_load Try.isAgg27 Try.sizeOf27 HL2.out (CellsAt.of_blk (Hi.blk (blk_on HCC2.out hB5f) x))
          have HFIN : Hid (∀ x : Hi w11, Below w.heap.size w x.W) := fun x => hBwf.trans (x.below.mono hBwf.size)
          clear hB5f hBwf hq11 hb11
          go_wp2_with first
            | ((with_reducible show wpList _ _ _ _ _ _); refine arm_load rfl (.tmp 6) 27 rfl rfl (H1.out (Hi.refl w11)) ?_)
            | ((with_reducible show wpList _ _ _ _ _ _); refine arm_load rfl (.tmp 10) 27 rfl rfl (H2.out (Hi.refl w11)) ?_)
          refine Calls.mono (HS11.out (Hi.refl w11)) ?_
          rintro _ w12 ⟨rfl, hb12⟩
          obtain ⟨x12, rfl⟩ : ∃ x : Hi w11, w12 = x.W := ⟨⟨w12, hb12⟩, rfl⟩
          have tp := HTP.out x12
          have tq := HTQ.out x12
          clear hb12
          generalize strOfNums bs = SS at *
          go_wp2_with fail
          refine Calls.mono (awake_calls _) ?_
          rintro _ w13 ⟨rfl, hb13⟩
          obtain ⟨x13, rfl⟩ : ∃ x : Hi w11, w13 = x.W := ⟨⟨w13, x12.below.trans (hb13.mono x12.below.size)⟩, rfl⟩
          clear hb13
          go_wp2
          go_ret
          exact ⟨rfl, HFIN.out x13⟩

theorem ipv4Owned_open {H : Type} {enc : TypeId × Value → H} {W : World} {base : Nat} (v0 : Value) {d0 : DataW H} {p0 : List MemPlace} (v1 : Value) {d1 : DataW H} {p1 : List MemPlace}
    (o0 : Value.okWide Try.prog W .any base 27 v0) (h0 : DataW.Trod enc Try.prog W 0 (fun _ => true) true 27 v0 d0 p0) (z0 : ∀ k ∈ d0.weights Try.prog 27, k ≤ reachBytes)
    (o1 : Value.okWide Try.prog W .any base 25 v1) (h1 : DataW.Trod enc Try.prog W 0 (fun _ => true) true 25 v1 d1 p1) (z1 : ∀ k ∈ d1.weights Try.prog 25, k ≤ reachBytes):
    Calls Try.prog 10 #[v0, v1] W fun e w' => e = .returned (.bool true) ∧ Below W.heap.size W w' := by
  obtain ⟨c, tos, id, df, mf, off, ttl, proto, s0, s1, s2, s3, e0, e1, e2, e3, opts, body, rfl, hD⟩ := open_v4 h0 z0
  obtain ⟨zs, hr⟩ := open_row o1 h1 z1
  obtain ⟨a, cap, e, _⟩ := hr.val
  subst e
  exact ipv4Owned_walk c tos id df mf off ttl proto s0 s1 s2 s3 e0 e1 e2 e3 opts body a cap zs W hD hr (fun w' hB => RParse_any (hr.on hB))

end Go.Proofs.Ytmoogfdmlbalbaa
