/-
  The document's Split, its loop.
-/
import Derived.Test.YtackllcfnlhkpaaVc2
namespace Go.Proofs.Ytackllcfnlhkpaa
open Go Go.RowKit
set_option linter.unusedVariables false
set_option linter.unusedSimpArgs false

section
variable (f : Fd) (mf : Bool) (off : Int) (so sb : Value) (opts body : List Int) (mtu : Int) (w : World)
set_option maxHeartbeats 4000000 in
set_option maxRecDepth 100000 in
theorem RSplit_loop (h1 : RowC w so opts) (h2 : RowC w sb body) (hoff : -9223372036854775808 ≤ off ∧ off ≤ 9223372036854775807) (hmt : -9223372036854775808 ≤ mtu ∧ mtu ≤ 9223372036854775807)
    (hw : wrongE off opts.length body.length mtu = 0) (hf : fitB opts.length body.length mtu = false) (hd : f.df = false) (hm8 : mf = false ∨ body.length % 8 = 0) (hL1 : (fragL mf off opts body mtu).length ≤ 100000) :
    Calls Try.prog 10 #[VV f mf off so sb, .int .i64 mtu] w fun e w' => RSplitP f w (if farB (fragL mf off opts body mtu) then 5 else 0) (if farB (fragL mf off opts body mtu) then [] else fragL mf off opts body mtu) e w' := by
  have HFT : Hid (∀ W, Below w.heap.size w W → Calls Try.prog 14 #[VV f mf off so sb, .int .i64 mtu] W fun e w' => e = .returned (.tuple #[.bool false, .int .i64 0]) ∧ Below W.heap.size W w') := fun W hW => by
    have := RFits_calls f mf off so sb opts body mtu W (h1.on hW) (h2.on hW) hoff hmt
    rw [hw, hf] at this
    exact this
  have hb0 := blk_new w (BV f mf off so sb)
  have HLD : Hid _ := vb_load hb0
  have HB0 : Hid _ := hb0
  have HBB : Hid (Below w.heap.size w (w.alloc (BV f mf off so sb))) := (Below.refl w.heap.size w).alloc (Nat.le_refl _) (BV f mf off so sb)
  obtain ⟨a2, c2, hsb⟩ : ∃ a c, sb = .slice a body.length c := by obtain ⟨_, _, a, cap, e, _⟩ := h2; exact ⟨_, _, e⟩
  have hsos : ∃ x n m, so = .slice x n m := by obtain ⟨_, _, a, cap, e, _⟩ := h1; exact ⟨_, _, _, e⟩
  have hl2 := h2.len
  have hq8 : mf = false ∨ (((body.length : Nat) : Int) % 8 != 0) = false := hm8.imp id fun h => by
    have : ((body.length : Nat) : Int) % 8 = 0 := by omega
    simp [this]
  obtain ⟨hck, hm1, hm2⟩ := wrong_ok hw
  have hk := chk_ok hck
  obtain ⟨m, rfl⟩ : ∃ m : Nat, mtu = m := ⟨mtu.toNat, by omega⟩
  have HCP : Hid (∀ X, Below w.heap.size w X → Calls Try.prog 18 #[so] X fun e w' => ∃ u, e = .returned u ∧ BS (fun b => X.heap.size ≤ b) w' u (copiedL opts) ∧ Below X.heap.size X w') := fun X hX => RCopied_calls so opts X (h1.on hX) (by omega)
  have hcl := copiedL_length opts hk.2.2.1
  have HLD0 : Hid (fragL mf off opts body m = frs m (copiedL opts) mf body.length off opts body) := by show _ = _; unfold fragL; rw [Int.toNat_natCast]
  generalize copiedL opts = later at *
  generalize fragL mf off opts body m = L at *
  obtain ⟨rE, hrE⟩ : ∃ rE : Int, rE = if farB L then 5 else 0 := ⟨_, rfl⟩
  obtain ⟨LL, hLL⟩ : ∃ LL : List Fg, LL = if farB L then [] else L := ⟨_, rfl⟩
  rw [← hrE, ← hLL]
  have HE : Hid (rE = if farB L then 5 else 0) := hrE
  have HLL : Hid (LL = if farB L then [] else L) := hLL
  have HDF : Hid (∀ W : World, W.heap[w.heap.size]? = some (BV f mf off so sb) → W.cell? ⟨w.heap.size, 2, none⟩ = some (.bool false) ∧ W.cell? ⟨w.heap.size, 3, none⟩ = some (.bool mf) ∧ W.cell? ⟨w.heap.size, 16, none⟩ = some (.slice a2 body.length c2)) := fun W hW => ⟨by rw [vb2 hW, hd], vb3 hW, by rw [vb16 hW, hsb]⟩
  have HR1 : Hid (RowC w so opts) := h1
  have HR2 : Hid (RowC w sb body) := h2
  have h1so : so.oneCell' = true := (BS.of_row h1).one
  have h1sb : sb.oneCell' = true := (BS.of_row h2).one
  have HSB : Hid _ := hsb
  have HHK : Hid _ := hk
  clear hb0 h1 h2 hsb hw hf hd hm8 hrE hLL hck hk
  generalize hbl : body.length = nb at *
  have HBL : Hid _ := hbl
  clear hbl
  go_enter Try.func10, Try.ntmps10

  go_wp2_with first
    | ((with_reducible show wpList _ _ _ ({ dst := _, op := Op.load 27 (Operand.tmp 2), type := _, pos := _, after := _, guard := _ } :: _) _ _); refine armL (.tmp 2) 27 rfl rfl rfl HLD.out ?_)
  refine Calls.mono (HFT.out _ HBB.out) ?_
  rintro e w2 ⟨rfl, hb2⟩
  have HB2 : Hid (Below w.heap.size w w2) := HBB.out.trans (hb2.mono HBB.out.size)
  have hk2 : w2.heap[w.heap.size]? = some (BV f mf off so sb) := blk_on HB0.out hb2
  obtain ⟨d2, d3, d16⟩ := HDF.out w2 hk2
  have HLD2 : Hid _ := vb_load hk2
  obtain ⟨w3, hst3, hbx3, hB3, hs3⟩ := vb_new w2 f mf off h1so h1sb
  unfold zeroV at hst3
  have HST3 : Hid _ := hst3
  have hww : w.heap.size < w2.heap.size := (Array.getElem?_eq_some_iff.1 hk2).1
  have hB03 : Below w.heap.size w w3 := HB2.out.trans (hB3.mono HB2.out.size)
  have hI3 : RsI f mf off so sb w w2.heap.size L 0 off opts body so sb (.slice none 0 0) w3 := by
    have hwl := hww
    refine ⟨hbx3, blk_on hk2 hB3, RowV.nil _ _ _ _, fun c hc => by simp [Value.ownBlock] at hc, ?_, ?_, hB03, hww⟩
    · exact ((BS.of_row HR1.out).on hB03).mono (fun c hc h => ⟨by omega, by simp [Value.ownBlock]⟩)
    · exact ((BS.of_row HR2.out).on hB03).mono (fun c hc h => ⟨by omega, by simp [Value.ownBlock]⟩)
  have HI3 : Hid (RsI f mf off so sb w w2.heap.size L 0 off opts body so sb (.slice none 0 0) w3) := hI3
  clear hb2 hk2 hst3 hbx3 hB3 hs3 hB03 hI3 HB0 HLD HFT HDF HR1 HR2
  have key : mf = true → (((nb : Nat) : Int) % 8 != 0) = false := fun h => by
    rcases hq8 with h' | h'
    · rw [h] at h'; cases h'
    · exact h'
  clear hq8
  rcases mf
  · clear key
    go_wp2_with first
      | ((with_reducible show wpList _ _ _ ({ dst := _, op := Op.load 27 (Operand.tmp 2), type := _, pos := _, after := _, guard := _ } :: _) _ _); refine armL (.tmp 2) 27 rfl rfl rfl HLD2.out ?_)
      | ((with_reducible show wpList _ _ _ ({ dst := _, op := Op.store 27 (Operand.tmp 9) (Operand.tmp 35), type := _, pos := _, after := _, guard := _ } :: _) _ _); refine armS (.tmp 9) (Operand.tmp 35) 27 rfl rfl rfl rfl HST3.out ?_)
    try simp only [Act.put]
    generalize hrbe : w2.heap.size = rb at *
    clear hrbe
    go_loopw [8] (fun l wr => ∃ (k n : Nat) (of : Int) (o b : List Int) (so' sb' : Value), Hid (L.drop k = frs m later false n of o b) ∧ b.length ≤ n ∧ o.length ≤ 40 ∧ 0 ≤ of ∧ of + (b.length : Int) ≤ 100000 ∧ Hid (∀ (j : Nat) (g' : Fg), j < k → L[j]? = some g' → g'.off ≤ of) ∧ Hid (RsI f false off so sb w rb L k of o b so' sb' l wr)) (fun _ wr => bodyLen wr rb)
    case atStart => exact ⟨0, nb, off, opts, body, so, sb, by show _ = _; rw [List.drop_zero, HLD0.out], by rw [HBL.out]; exact Nat.le_refl _, HHK.out.2.2.1, HHK.out.1, by have := HHK.out; have := HBL.out; omega, fun j g' hj => absurd hj (by omega), HI3.out⟩
    case round =>
      obtain ⟨k, n, of, o, b, so', sb', hdr, hbn, hol, hof, hofb, hmon, hI⟩ := hrel
      have hbo := hI.out.bo
      have hbb := hI.out.bb
      have HSZ : Hid _ := rsize_calls f false of so' sb' o b wr hbo.row hbb.row
      have HLDR : Hid _ := vb_load hI.out.box
      have HITB : Hid _ := bodyLen_of hI.out.box
      have HLB : Hid (lenV sb' = b.length) := hbb.row.lenV
      clear hbo hbb
      generalize hno : o.length = no at *
      generalize hnb : b.length = nb' at *
      have HNO : Hid _ := hno
      have HNB : Hid _ := hnb
      clear hno hnb

      go_wp2_with first
        | ((with_reducible show wpList _ _ _ ({ dst := _, op := Op.load 27 (Operand.tmp 9), type := _, pos := _, after := _, guard := _ } :: _) _ _); refine armL (.tmp 9) 27 rfl rfl rfl HLDR.out ?_)
      refine Calls.mono HSZ.out ?_
      rintro e w4 ⟨rfl, hb4⟩
      have hI4 : Hid (RsI f false off so sb w rb L k of o b so' sb' _ w4) := hI.out.on hb4
      clear hb4 HSZ HLDR hI
      by_cases hfit : 20 + no + nb' ≤ m
      · have q1 : decide ((m : Int) < 20 + (no : Int) + (nb' : Int)) = false := by simp; omega
        have q1' : ¬ (m : Int) < 20 + (no : Int) + (nb' : Int) := by omega
        have hdr0 := hdr.out
        rw [frs_fits (by rw [HNO.out, HNB.out]; exact hfit)] at hdr0
        have hfl := far_last hdr0 hmon.out
        obtain ⟨hLk, hLd, hkL⟩ := drop_at hdr0
        have hLe : L = L.take k ++ [⟨of, false, o, b⟩] := by rw [← hdr0, List.take_append_drop]
        have d4 := vb4 hI4.out.box
        have HLD9 : Hid _ := vb_load hI4.out.box
        have HLEK : Hid _ := hLe
        have HLK : Hid _ := hLk
        have HFL : Hid (farB L = decide (8191 < of)) := hfl
        clear hdr0 hLd hkL hLe hLk hfl hdr hmon
        by_cases hfar : 8191 < of
        · have q2 : decide (8191 < of) = true := by simpa using hfar
          have HFIN : Hid (RSplitP f w rE LL (.returned (.tuple #[.slice none 0 0, .int .i64 5])) w4) := ⟨_, by rw [HE.out, HFL.out, q2]; rfl, by rw [HLL.out, HFL.out, q2]; exact RowV.nil _ _ _ _, hI4.out.bel⟩
          clear hI4
          go_wp2
          go_ret2
          exact HFIN.out
        · have q2 : decide (8191 < of) = false := by simpa using hfar
          obtain ⟨l', B, hrun, hIB, hszB⟩ := hI4.out.app HLK.out hL1 (so' := so') (sb' := sb') hI4.out.bo hI4.out.bb 29
          obtain ⟨al, cl, hl'⟩ := hIB.row.slc
          subst hl'
          have HRUN : Hid _ := hrun
          have HFIN : Hid (RSplitP f w rE LL (.returned (.tuple #[.slice al (L.take (k + 1)).length cl, .int .i64 0])) B) := by
            refine ⟨_, by rw [HE.out, HFL.out, q2]; rfl, ?_, hIB.bel⟩
            have e : LL = L.take (k + 1) := by rw [HLL.out, HFL.out, q2, take_at' L k HLK.out]; exact HLEK.out
            rw [e]
            exact (hIB.row.mono (S' := fun _ => True) (fun _ _ _ => trivial)).base (by omega)
          generalize (L.take (k + 1)).length = LN at *
          have hls : ∃ x n m, u8 = .slice x n m := by obtain ⟨a, c, e⟩ := hI4.out.row.slc; exact ⟨_, _, _, e⟩
          obtain ⟨x8, n8, m8, rfl⟩ := hls
          clear hI4 hIB hrun hszB

          go_wp2_with first
            | ((with_reducible show wpList _ _ _ ({ dst := _, op := Op.load 27 (Operand.tmp 9), type := _, pos := _, after := _, guard := _ } :: _) _ _); refine armL (.tmp 9) 27 rfl rfl rfl HLD9.out ?_)
            | ((with_reducible show wpList _ _ _ ({ dst := _, op := Op.buildSlice 29 1 #[(0, Operand.tmp 78)], type := _, pos := _, after := _, guard := _ } :: _) _ _); refine armB (.tmp 78) 29 rfl rfl rfl (bs_run w4 f false of so' sb') ?_)
            | (at_builtin; refine wpList_append_run rfl _ _ _ _ rfl rfl rfl HRUN.out ?_)
          go_ret2
          exact HFIN.out
      · have q1 : (m : Int) < 20 + (no : Int) + (nb' : Int) := by omega
        have HFIT : Hid (¬ 20 + o.length + b.length ≤ m) := by show ¬ _; rw [HNO.out, HNB.out]; exact hfit
        have hol' : o.length ≤ 40 := by rw [HNO.out]; exact hol
        obtain ⟨n', hn', hfr⟩ := frs_step (later := later) (mf := false) (off := of) HFIT.out (by omega) hol' (n := n) (by rw [HNB.out]; exact hbn)
        obtain ⟨sp, hsp⟩ : ∃ sp : Nat, sp = m - 20 - no := ⟨_, rfl⟩
        obtain ⟨nn, hnn⟩ : ∃ nn : Nat, nn = sp / 8 * 8 := ⟨_, rfl⟩
        have hroom : room m o.length = nn := by rw [hnn, hsp, HNO.out]; rfl
        rw [hroom] at hfr hn'
        have hdr0 := hdr.out
        rw [hfr] at hdr0
        obtain ⟨hLk, hLd, hkL⟩ := drop_at hdr0
        have hn8 : 8 ≤ nn := by omega
        have hnb : nn < nb' := by omega
        have hpos : 0 < b.length := by rw [HNB.out]; omega
        have hnle : nn ≤ b.length := by rw [HNB.out]; omega
        obtain ⟨u1, hu1, hbu1⟩ := cut_front hI4.out.bb hpos nn hnle
        obtain ⟨u2, hu2, hbu2⟩ := cut_rest hI4.out.bb hpos nn hnle
        have hu1s := hbu1.slc
        have hu2s := hbu2.slc
        obtain ⟨a1, c1, hso'⟩ : ∃ a c, so' = .slice a no c := by obtain ⟨_, _, a, cap, e, _⟩ := hI4.out.bo.row; rw [HNO.out] at e; exact ⟨_, _, e⟩
        have d15 : w4.cell? ⟨rb, 15, none⟩ = some (.slice a1 no c1) := by rw [vb15 hI4.out.box, hso']
        have HLDR : Hid _ := vb_load hI4.out.box
        have hrbl := (Array.getElem?_eq_some_iff.1 hI4.out.box).1
        -- the box of x
        obtain ⟨w5, hst5, hbx5, hB5, hs5⟩ := vb_new w4 f false of hI4.out.bo.one hI4.out.bb.one
        unfold zeroV at hst5
        have hI5 := hI4.out.on hB5
        obtain ⟨w6, hst6, hbx6, hon6⟩ := put16 hbx5 hu1s
        obtain ⟨w7, hst7, hbx7, hon7⟩ := put3 hbx6 true
        have hB7 : Below w4.heap.size w4 w7 := (hB5.trans (hon6.below (Nat.le_refl _))).trans (hon7.below (Nat.le_refl _))
        have hI7 := hI4.out.on hB7
        have HLX : Hid _ := vb_load hbx7
        have hL5 : Hid _ := ld_row (vb16 hI5.box) hI4.out.bb.slc
        -- the row
        obtain ⟨l', w8, hrun, hI8, hsz8⟩ := hI7.app (g := ⟨of, true, o, b.take nn⟩) hLk hL1 hI7.bo (hI7.bb.cut hpos nn hnle hu1) 29
        have hL8 : Hid _ := ld_row (vb16 hI8.box) hI4.out.bb.slc
        have hb8 := hI8.bb.rst hpos nn hnle hu2
        -- rest
        obtain ⟨w9, hst9, hbx9, hon9⟩ := put16 hI8.box hu2s
        have hI9 := hI8.put hon9 hbx9 hI8.bo hb8
        have d4 := vb4 hI9.box
        obtain ⟨wa, hsta, hbxa, hona⟩ := put4 hI9.box (of + ((nn / 8 : Nat) : Int))
        have hIa := hI9.put hona hbxa hI9.bo hI9.bb
        have hLa : Hid _ := ld_row (vb15 hIa.vbx) hsos
        have hls : ∃ x n m, u8 = .slice x n m := by obtain ⟨a, c, e⟩ := hI4.out.row.slc; exact ⟨_, _, _, e⟩
        have hls' : ∃ x n m, l' = .slice x n m := by obtain ⟨a, c, e⟩ := hI8.row.slc; exact ⟨_, _, _, e⟩
        obtain ⟨x8, n8, m8, rfl⟩ := hls
        obtain ⟨x9, n9, m9, rfl⟩ := hls'
        have HU1 : Hid _ := hu1
        have HU2 : Hid _ := hu2
        have H5 : Hid _ := hst5
        have H6 : Hid _ := hst6
        have H7 : Hid _ := hst7
        have H9 : Hid _ := hst9
        have HA : Hid _ := hsta
        have HRUN : Hid _ := hrun
        have HIA : Hid (RsI f false off so sb w rb L (k + 1) (of + ((nn / 8 : Nat) : Int)) o (b.drop nn) so' u2 (.slice x9 n9 m9) wa) := hIa
        have HLDN : Hid (L.drop (k + 1) = frs m later false n' (of + ((nn / 8 : Nat) : Int)) later (b.drop nn)) := hLd
        have HN' : Hid ((b.drop nn).length ≤ n') := hn'
        have HMON : Hid (∀ (j : Nat) (g' : Fg), j < k + 1 → L[j]? = some g' → g'.off ≤ of + ((nn / 8 : Nat) : Int)) := fun j g' hj hg' => by
          by_cases e : j = k
          · subst e; rw [hLk] at hg'; cases hg'; show of ≤ _; omega
          · have := hmon.out j g' (by omega) hg'; omega
        have HDL : Hid ((b.drop nn).length = nb' - nn) := by show (b.drop nn).length = nb' - nn; rw [List.length_drop, HNB.out]
        have HHN : Hid (nn = sp / 8 * 8) := hnn
        have HSPE : Hid (sp = m - 20 - no) := hsp
        have HBS : Hid (bodyLen wr rb = nb') := by show bodyLen wr rb = nb'; rw [HITB.out, HLB.out]
        have e20 : (m : Int) - 20 - (no : Int) = (sp : Int) := by omega
        have e8 : (sp : Int) / 8 * 8 = (nn : Int) := by omega
        have e9 : (nn : Int) / 8 = ((nn / 8 : Nat) : Int) := by omega
        have hspm : sp ≤ 65535 := by omega
        have hnnm : nn ≤ 65535 := by omega
        obtain ⟨q, hq⟩ : ∃ q : Nat, q = nn / 8 := ⟨_, rfl⟩
        rw [← hq] at e9 HA HIA HLDN HMON
        have hqm : q ≤ 8192 := by omega
        have HQ : Hid _ := hq
        clear hu1 hu2 hst5 hst6 hst7 hst9 hsta hrun hIa hLd hn' hdr0 hfr hroom hnn hsp hq hbu1 hbu2 hbx5 hbx6 hbx7 hbx9 hbxa hB5 hs5 hon6 hon7 hon9 hona hB7 hI5 hI7 hI8 hI9 hb8 hI4 hdr hmon hso' hfit HITB HLB hpos hnle hkL hLk hol' hu1s hu2s
        have e8' : IntKind.i64.wrap ((sp : Int) / 8 * 8) = (nn : Int) := by rw [wrapi64 _ (by omega)]; exact e8

        go_wp2_with first
          | ((with_reducible show wpList _ _ _ ({ dst := _, op := Op.load 27 (Operand.tmp 9), type := _, pos := _, after := _, guard := _ } :: _) _ _); refine armL (.tmp 9) 27 rfl rfl rfl HLDR.out ?_)
          | ((with_reducible show wpList _ _ _ ({ dst := _, op := Op.store 27 (Operand.tmp 11) (Operand.tmp 48), type := _, pos := _, after := _, guard := _ } :: _) _ _); refine armS (.tmp 11) (Operand.tmp 48) 27 rfl rfl rfl rfl H5.out ?_)
          | ((with_reducible show wpList _ _ _ ({ dst := _, op := Op.load 25 (Operand.tmp 49), type := _, pos := _, after := _, guard := _ } :: _) _ _); refine armL (.tmp 49) 25 rfl rfl rfl hL5.out ?_)
          | ((with_reducible show wpList _ _ _ ({ dst := _, op := Op.slice 25 (Operand.tmp 50) none (some (Operand.tmp 51)) none, type := _, pos := _, after := _, guard := _ } :: _) _ _); refine arm_slice rfl 25 (.tmp 50) none (some (Operand.tmp 51)) rfl rfl rfl rfl (HU1.out _) ?_)
          | ((with_reducible show wpList _ _ _ ({ dst := _, op := Op.store 25 (Operand.tmp 53) (Operand.tmp 52), type := _, pos := _, after := _, guard := _ } :: _) _ _); refine armS (.tmp 53) (Operand.tmp 52) 25 rfl rfl rfl rfl H6.out ?_)
          | ((with_reducible show wpList _ _ _ ({ dst := _, op := Op.store 4 (Operand.tmp 54) (Operand.const (Value.bool true)), type := _, pos := _, after := _, guard := _ } :: _) _ _); refine armS (.tmp 54) (Operand.const (Value.bool true)) 4 rfl rfl rfl rfl H7.out ?_)
          | ((with_reducible show wpList _ _ _ ({ dst := _, op := Op.load 27 (Operand.tmp 11), type := _, pos := _, after := _, guard := _ } :: _) _ _); refine armL (.tmp 11) 27 rfl rfl rfl HLX.out ?_)
          | ((with_reducible show wpList _ _ _ ({ dst := _, op := Op.buildSlice 29 1 #[(0, Operand.tmp 56)], type := _, pos := _, after := _, guard := _ } :: _) _ _); refine armB (.tmp 56) 29 rfl rfl rfl (bs_run w7 f true of so' u1) ?_)
          | (at_builtin; refine wpList_append_run rfl _ _ _ _ rfl rfl rfl HRUN.out ?_)
          | ((with_reducible show wpList _ _ _ ({ dst := _, op := Op.load 25 (Operand.tmp 59), type := _, pos := _, after := _, guard := _ } :: _) _ _); refine armL (.tmp 59) 25 rfl rfl rfl hL8.out ?_)
          | ((with_reducible show wpList _ _ _ ({ dst := _, op := Op.slice 25 (Operand.tmp 60) (some (Operand.tmp 61)) none none, type := _, pos := _, after := _, guard := _ } :: _) _ _); refine arm_slice rfl 25 (.tmp 60) (some (Operand.tmp 61)) none rfl rfl rfl rfl (HU2.out _) ?_)
          | ((with_reducible show wpList _ _ _ ({ dst := _, op := Op.store 25 (Operand.tmp 63) (Operand.tmp 62), type := _, pos := _, after := _, guard := _ } :: _) _ _); refine armS (.tmp 63) (Operand.tmp 62) 25 rfl rfl rfl rfl H9.out ?_)
          | ((with_reducible show wpList _ _ _ ({ dst := _, op := Op.store 3 (Operand.tmp 69) (Operand.tmp 68), type := _, pos := _, after := _, guard := _ } :: _) _ _); refine armS (.tmp 69) (Operand.tmp 68) 3 rfl rfl rfl rfl HA.out ?_)
          | ((with_reducible show wpList _ _ _ ({ dst := _, op := Op.load 25 (Operand.tmp 70), type := _, pos := _, after := _, guard := _ } :: _) _ _); refine armL (.tmp 70) 25 rfl rfl rfl hLa.out ?_)
        refine Calls.mono (HCP.out _ HIA.out.bel) ?_
        rintro e wb ⟨u3, rfl, hu3, hbb⟩
        have hIb := HIA.out.on hbb
        have hrba := (Array.getElem?_eq_some_iff.1 HIA.out.box).1
        have hrow3 : BS (fun c => c ≠ rb ∧ (Value.slice x9 n9 m9).ownBlock ≠ some c) wb u3 later := hu3.mono (fun c hc h => ⟨by omega, fun e => by have := (HIA.out.row.lt e).2; omega⟩)
        obtain ⟨wc, hstc, hbxc, honc⟩ := put15 hIb.box hu3.slc
        have hIc := hIb.put honc hbxc hrow3 hIb.bb
        have HBC : Hid (bodyLen wc rb = nb' - nn) := by show bodyLen wc rb = nb' - nn; rw [bodyLen_of hIc.box, hIc.bb.row.lenV, HDL.out]
        have HC : Hid _ := hstc
        have HIC : Hid (RsI f false off so sb w rb L (k + 1) (of + ((q : Nat) : Int)) later (b.drop nn) u3 u2 (.slice x9 n9 m9) wc) := hIc
        clear hIb hIc hstc hbxc honc hu3 hbb hrow3
        go_wp2_with first
          | ((with_reducible show wpList _ _ _ ({ dst := _, op := Op.store 25 (Operand.tmp 73) (Operand.tmp 72), type := _, pos := _, after := _, guard := _ } :: _) _ _); refine armS (.tmp 73) (Operand.tmp 72) 25 rfl rfl rfl rfl HC.out ?_; simp only [Act.put])
        refine ⟨⟨k + 1, n', of + (q : Int), later, b.drop nn, u3, u2, HLDN.out, HN'.out, hcl.1, by omega, ?_, HMON.out, HIC.out⟩, ?_⟩
        · have h1 := HDL.out; have h2 := HQ.out; omega
        · have h1 := HBC.out; have h2 := HBS.out; omega

  · have q8 := key rfl; clear key
    go_wp2_with first
      | ((with_reducible show wpList _ _ _ ({ dst := _, op := Op.load 27 (Operand.tmp 2), type := _, pos := _, after := _, guard := _ } :: _) _ _); refine armL (.tmp 2) 27 rfl rfl rfl HLD2.out ?_)
      | ((with_reducible show wpList _ _ _ ({ dst := _, op := Op.store 27 (Operand.tmp 9) (Operand.tmp 35), type := _, pos := _, after := _, guard := _ } :: _) _ _); refine armS (.tmp 9) (Operand.tmp 35) 27 rfl rfl rfl rfl HST3.out ?_)
    try simp only [Act.put]
    generalize hrbe : w2.heap.size = rb at *
    clear hrbe
    go_loopw [8] (fun l wr => ∃ (k n : Nat) (of : Int) (o b : List Int) (so' sb' : Value), Hid (L.drop k = frs m later true n of o b) ∧ b.length ≤ n ∧ o.length ≤ 40 ∧ 0 ≤ of ∧ of + (b.length : Int) ≤ 100000 ∧ Hid (∀ (j : Nat) (g' : Fg), j < k → L[j]? = some g' → g'.off ≤ of) ∧ Hid (RsI f true off so sb w rb L k of o b so' sb' l wr)) (fun _ wr => bodyLen wr rb)
    case atStart => exact ⟨0, nb, off, opts, body, so, sb, by show _ = _; rw [List.drop_zero, HLD0.out], by rw [HBL.out]; exact Nat.le_refl _, HHK.out.2.2.1, HHK.out.1, by have := HHK.out; have := HBL.out; omega, fun j g' hj => absurd hj (by omega), HI3.out⟩
    case round =>
      obtain ⟨k, n, of, o, b, so', sb', hdr, hbn, hol, hof, hofb, hmon, hI⟩ := hrel
      have hbo := hI.out.bo
      have hbb := hI.out.bb
      have HSZ : Hid _ := rsize_calls f true of so' sb' o b wr hbo.row hbb.row
      have HLDR : Hid _ := vb_load hI.out.box
      have HITB : Hid _ := bodyLen_of hI.out.box
      have HLB : Hid (lenV sb' = b.length) := hbb.row.lenV
      clear hbo hbb
      generalize hno : o.length = no at *
      generalize hnb : b.length = nb' at *
      have HNO : Hid _ := hno
      have HNB : Hid _ := hnb
      clear hno hnb

      go_wp2_with first
        | ((with_reducible show wpList _ _ _ ({ dst := _, op := Op.load 27 (Operand.tmp 9), type := _, pos := _, after := _, guard := _ } :: _) _ _); refine armL (.tmp 9) 27 rfl rfl rfl HLDR.out ?_)
      refine Calls.mono HSZ.out ?_
      rintro e w4 ⟨rfl, hb4⟩
      have hI4 : Hid (RsI f true off so sb w rb L k of o b so' sb' _ w4) := hI.out.on hb4
      clear hb4 HSZ HLDR hI
      by_cases hfit : 20 + no + nb' ≤ m
      · have q1 : decide ((m : Int) < 20 + (no : Int) + (nb' : Int)) = false := by simp; omega
        have q1' : ¬ (m : Int) < 20 + (no : Int) + (nb' : Int) := by omega
        have hdr0 := hdr.out
        rw [frs_fits (by rw [HNO.out, HNB.out]; exact hfit)] at hdr0
        have hfl := far_last hdr0 hmon.out
        obtain ⟨hLk, hLd, hkL⟩ := drop_at hdr0
        have hLe : L = L.take k ++ [⟨of, true, o, b⟩] := by rw [← hdr0, List.take_append_drop]
        have d4 := vb4 hI4.out.box
        have HLD9 : Hid _ := vb_load hI4.out.box
        have HLEK : Hid _ := hLe
        have HLK : Hid _ := hLk
        have HFL : Hid (farB L = decide (8191 < of)) := hfl
        clear hdr0 hLd hkL hLe hLk hfl hdr hmon
        by_cases hfar : 8191 < of
        · have q2 : decide (8191 < of) = true := by simpa using hfar
          have HFIN : Hid (RSplitP f w rE LL (.returned (.tuple #[.slice none 0 0, .int .i64 5])) w4) := ⟨_, by rw [HE.out, HFL.out, q2]; rfl, by rw [HLL.out, HFL.out, q2]; exact RowV.nil _ _ _ _, hI4.out.bel⟩
          clear hI4
          go_wp2
          go_ret2
          exact HFIN.out
        · have q2 : decide (8191 < of) = false := by simpa using hfar
          obtain ⟨l', B, hrun, hIB, hszB⟩ := hI4.out.app HLK.out hL1 (so' := so') (sb' := sb') hI4.out.bo hI4.out.bb 29
          obtain ⟨al, cl, hl'⟩ := hIB.row.slc
          subst hl'
          have HRUN : Hid _ := hrun
          have HFIN : Hid (RSplitP f w rE LL (.returned (.tuple #[.slice al (L.take (k + 1)).length cl, .int .i64 0])) B) := by
            refine ⟨_, by rw [HE.out, HFL.out, q2]; rfl, ?_, hIB.bel⟩
            have e : LL = L.take (k + 1) := by rw [HLL.out, HFL.out, q2, take_at' L k HLK.out]; exact HLEK.out
            rw [e]
            exact (hIB.row.mono (S' := fun _ => True) (fun _ _ _ => trivial)).base (by omega)
          generalize (L.take (k + 1)).length = LN at *
          have hls : ∃ x n m, u8 = .slice x n m := by obtain ⟨a, c, e⟩ := hI4.out.row.slc; exact ⟨_, _, _, e⟩
          obtain ⟨x8, n8, m8, rfl⟩ := hls
          clear hI4 hIB hrun hszB

          go_wp2_with first
            | ((with_reducible show wpList _ _ _ ({ dst := _, op := Op.load 27 (Operand.tmp 9), type := _, pos := _, after := _, guard := _ } :: _) _ _); refine armL (.tmp 9) 27 rfl rfl rfl HLD9.out ?_)
            | ((with_reducible show wpList _ _ _ ({ dst := _, op := Op.buildSlice 29 1 #[(0, Operand.tmp 78)], type := _, pos := _, after := _, guard := _ } :: _) _ _); refine armB (.tmp 78) 29 rfl rfl rfl (bs_run w4 f true of so' sb') ?_)
            | (at_builtin; refine wpList_append_run rfl _ _ _ _ rfl rfl rfl HRUN.out ?_)
          go_ret2
          exact HFIN.out
      · have q1 : (m : Int) < 20 + (no : Int) + (nb' : Int) := by omega
        have HFIT : Hid (¬ 20 + o.length + b.length ≤ m) := by show ¬ _; rw [HNO.out, HNB.out]; exact hfit
        have hol' : o.length ≤ 40 := by rw [HNO.out]; exact hol
        obtain ⟨n', hn', hfr⟩ := frs_step (later := later) (mf := true) (off := of) HFIT.out (by omega) hol' (n := n) (by rw [HNB.out]; exact hbn)
        obtain ⟨sp, hsp⟩ : ∃ sp : Nat, sp = m - 20 - no := ⟨_, rfl⟩
        obtain ⟨nn, hnn⟩ : ∃ nn : Nat, nn = sp / 8 * 8 := ⟨_, rfl⟩
        have hroom : room m o.length = nn := by rw [hnn, hsp, HNO.out]; rfl
        rw [hroom] at hfr hn'
        have hdr0 := hdr.out
        rw [hfr] at hdr0
        obtain ⟨hLk, hLd, hkL⟩ := drop_at hdr0
        have hn8 : 8 ≤ nn := by omega
        have hnb : nn < nb' := by omega
        have hpos : 0 < b.length := by rw [HNB.out]; omega
        have hnle : nn ≤ b.length := by rw [HNB.out]; omega
        obtain ⟨u1, hu1, hbu1⟩ := cut_front hI4.out.bb hpos nn hnle
        obtain ⟨u2, hu2, hbu2⟩ := cut_rest hI4.out.bb hpos nn hnle
        have hu1s := hbu1.slc
        have hu2s := hbu2.slc
        obtain ⟨a1, c1, hso'⟩ : ∃ a c, so' = .slice a no c := by obtain ⟨_, _, a, cap, e, _⟩ := hI4.out.bo.row; rw [HNO.out] at e; exact ⟨_, _, e⟩
        have d15 : w4.cell? ⟨rb, 15, none⟩ = some (.slice a1 no c1) := by rw [vb15 hI4.out.box, hso']
        have HLDR : Hid _ := vb_load hI4.out.box
        have hrbl := (Array.getElem?_eq_some_iff.1 hI4.out.box).1
        -- the box of x
        obtain ⟨w5, hst5, hbx5, hB5, hs5⟩ := vb_new w4 f true of hI4.out.bo.one hI4.out.bb.one
        unfold zeroV at hst5
        have hI5 := hI4.out.on hB5
        obtain ⟨w6, hst6, hbx6, hon6⟩ := put16 hbx5 hu1s
        obtain ⟨w7, hst7, hbx7, hon7⟩ := put3 hbx6 true
        have hB7 : Below w4.heap.size w4 w7 := (hB5.trans (hon6.below (Nat.le_refl _))).trans (hon7.below (Nat.le_refl _))
        have hI7 := hI4.out.on hB7
        have HLX : Hid _ := vb_load hbx7
        have hL5 : Hid _ := ld_row (vb16 hI5.box) hI4.out.bb.slc
        -- the row
        obtain ⟨l', w8, hrun, hI8, hsz8⟩ := hI7.app (g := ⟨of, true, o, b.take nn⟩) hLk hL1 hI7.bo (hI7.bb.cut hpos nn hnle hu1) 29
        have hL8 : Hid _ := ld_row (vb16 hI8.box) hI4.out.bb.slc
        have hb8 := hI8.bb.rst hpos nn hnle hu2
        -- rest
        obtain ⟨w9, hst9, hbx9, hon9⟩ := put16 hI8.box hu2s
        have hI9 := hI8.put hon9 hbx9 hI8.bo hb8
        have d4 := vb4 hI9.box
        obtain ⟨wa, hsta, hbxa, hona⟩ := put4 hI9.box (of + ((nn / 8 : Nat) : Int))
        have hIa := hI9.put hona hbxa hI9.bo hI9.bb
        have hLa : Hid _ := ld_row (vb15 hIa.vbx) hsos
        have hls : ∃ x n m, u8 = .slice x n m := by obtain ⟨a, c, e⟩ := hI4.out.row.slc; exact ⟨_, _, _, e⟩
        have hls' : ∃ x n m, l' = .slice x n m := by obtain ⟨a, c, e⟩ := hI8.row.slc; exact ⟨_, _, _, e⟩
        obtain ⟨x8, n8, m8, rfl⟩ := hls
        obtain ⟨x9, n9, m9, rfl⟩ := hls'
        have HU1 : Hid _ := hu1
        have HU2 : Hid _ := hu2
        have H5 : Hid _ := hst5
        have H6 : Hid _ := hst6
        have H7 : Hid _ := hst7
        have H9 : Hid _ := hst9
        have HA : Hid _ := hsta
        have HRUN : Hid _ := hrun
        have HIA : Hid (RsI f true off so sb w rb L (k + 1) (of + ((nn / 8 : Nat) : Int)) o (b.drop nn) so' u2 (.slice x9 n9 m9) wa) := hIa
        have HLDN : Hid (L.drop (k + 1) = frs m later true n' (of + ((nn / 8 : Nat) : Int)) later (b.drop nn)) := hLd
        have HN' : Hid ((b.drop nn).length ≤ n') := hn'
        have HMON : Hid (∀ (j : Nat) (g' : Fg), j < k + 1 → L[j]? = some g' → g'.off ≤ of + ((nn / 8 : Nat) : Int)) := fun j g' hj hg' => by
          by_cases e : j = k
          · subst e; rw [hLk] at hg'; cases hg'; show of ≤ _; omega
          · have := hmon.out j g' (by omega) hg'; omega
        have HDL : Hid ((b.drop nn).length = nb' - nn) := by show (b.drop nn).length = nb' - nn; rw [List.length_drop, HNB.out]
        have HHN : Hid (nn = sp / 8 * 8) := hnn
        have HSPE : Hid (sp = m - 20 - no) := hsp
        have HBS : Hid (bodyLen wr rb = nb') := by show bodyLen wr rb = nb'; rw [HITB.out, HLB.out]
        have e20 : (m : Int) - 20 - (no : Int) = (sp : Int) := by omega
        have e8 : (sp : Int) / 8 * 8 = (nn : Int) := by omega
        have e9 : (nn : Int) / 8 = ((nn / 8 : Nat) : Int) := by omega
        have hspm : sp ≤ 65535 := by omega
        have hnnm : nn ≤ 65535 := by omega
        obtain ⟨q, hq⟩ : ∃ q : Nat, q = nn / 8 := ⟨_, rfl⟩
        rw [← hq] at e9 HA HIA HLDN HMON
        have hqm : q ≤ 8192 := by omega
        have HQ : Hid _ := hq
        clear hu1 hu2 hst5 hst6 hst7 hst9 hsta hrun hIa hLd hn' hdr0 hfr hroom hnn hsp hq hbu1 hbu2 hbx5 hbx6 hbx7 hbx9 hbxa hB5 hs5 hon6 hon7 hon9 hona hB7 hI5 hI7 hI8 hI9 hb8 hI4 hdr hmon hso' hfit HITB HLB hpos hnle hkL hLk hol' hu1s hu2s
        have e8' : IntKind.i64.wrap ((sp : Int) / 8 * 8) = (nn : Int) := by rw [wrapi64 _ (by omega)]; exact e8

        go_wp2_with first
          | ((with_reducible show wpList _ _ _ ({ dst := _, op := Op.load 27 (Operand.tmp 9), type := _, pos := _, after := _, guard := _ } :: _) _ _); refine armL (.tmp 9) 27 rfl rfl rfl HLDR.out ?_)
          | ((with_reducible show wpList _ _ _ ({ dst := _, op := Op.store 27 (Operand.tmp 11) (Operand.tmp 48), type := _, pos := _, after := _, guard := _ } :: _) _ _); refine armS (.tmp 11) (Operand.tmp 48) 27 rfl rfl rfl rfl H5.out ?_)
          | ((with_reducible show wpList _ _ _ ({ dst := _, op := Op.load 25 (Operand.tmp 49), type := _, pos := _, after := _, guard := _ } :: _) _ _); refine armL (.tmp 49) 25 rfl rfl rfl hL5.out ?_)
          | ((with_reducible show wpList _ _ _ ({ dst := _, op := Op.slice 25 (Operand.tmp 50) none (some (Operand.tmp 51)) none, type := _, pos := _, after := _, guard := _ } :: _) _ _); refine arm_slice rfl 25 (.tmp 50) none (some (Operand.tmp 51)) rfl rfl rfl rfl (HU1.out _) ?_)
          | ((with_reducible show wpList _ _ _ ({ dst := _, op := Op.store 25 (Operand.tmp 53) (Operand.tmp 52), type := _, pos := _, after := _, guard := _ } :: _) _ _); refine armS (.tmp 53) (Operand.tmp 52) 25 rfl rfl rfl rfl H6.out ?_)
          | ((with_reducible show wpList _ _ _ ({ dst := _, op := Op.store 4 (Operand.tmp 54) (Operand.const (Value.bool true)), type := _, pos := _, after := _, guard := _ } :: _) _ _); refine armS (.tmp 54) (Operand.const (Value.bool true)) 4 rfl rfl rfl rfl H7.out ?_)
          | ((with_reducible show wpList _ _ _ ({ dst := _, op := Op.load 27 (Operand.tmp 11), type := _, pos := _, after := _, guard := _ } :: _) _ _); refine armL (.tmp 11) 27 rfl rfl rfl HLX.out ?_)
          | ((with_reducible show wpList _ _ _ ({ dst := _, op := Op.buildSlice 29 1 #[(0, Operand.tmp 56)], type := _, pos := _, after := _, guard := _ } :: _) _ _); refine armB (.tmp 56) 29 rfl rfl rfl (bs_run w7 f true of so' u1) ?_)
          | (at_builtin; refine wpList_append_run rfl _ _ _ _ rfl rfl rfl HRUN.out ?_)
          | ((with_reducible show wpList _ _ _ ({ dst := _, op := Op.load 25 (Operand.tmp 59), type := _, pos := _, after := _, guard := _ } :: _) _ _); refine armL (.tmp 59) 25 rfl rfl rfl hL8.out ?_)
          | ((with_reducible show wpList _ _ _ ({ dst := _, op := Op.slice 25 (Operand.tmp 60) (some (Operand.tmp 61)) none none, type := _, pos := _, after := _, guard := _ } :: _) _ _); refine arm_slice rfl 25 (.tmp 60) (some (Operand.tmp 61)) none rfl rfl rfl rfl (HU2.out _) ?_)
          | ((with_reducible show wpList _ _ _ ({ dst := _, op := Op.store 25 (Operand.tmp 63) (Operand.tmp 62), type := _, pos := _, after := _, guard := _ } :: _) _ _); refine armS (.tmp 63) (Operand.tmp 62) 25 rfl rfl rfl rfl H9.out ?_)
          | ((with_reducible show wpList _ _ _ ({ dst := _, op := Op.store 3 (Operand.tmp 69) (Operand.tmp 68), type := _, pos := _, after := _, guard := _ } :: _) _ _); refine armS (.tmp 69) (Operand.tmp 68) 3 rfl rfl rfl rfl HA.out ?_)
          | ((with_reducible show wpList _ _ _ ({ dst := _, op := Op.load 25 (Operand.tmp 70), type := _, pos := _, after := _, guard := _ } :: _) _ _); refine armL (.tmp 70) 25 rfl rfl rfl hLa.out ?_)
        refine Calls.mono (HCP.out _ HIA.out.bel) ?_
        rintro e wb ⟨u3, rfl, hu3, hbb⟩
        have hIb := HIA.out.on hbb
        have hrba := (Array.getElem?_eq_some_iff.1 HIA.out.box).1
        have hrow3 : BS (fun c => c ≠ rb ∧ (Value.slice x9 n9 m9).ownBlock ≠ some c) wb u3 later := hu3.mono (fun c hc h => ⟨by omega, fun e => by have := (HIA.out.row.lt e).2; omega⟩)
        obtain ⟨wc, hstc, hbxc, honc⟩ := put15 hIb.box hu3.slc
        have hIc := hIb.put honc hbxc hrow3 hIb.bb
        have HBC : Hid (bodyLen wc rb = nb' - nn) := by show bodyLen wc rb = nb' - nn; rw [bodyLen_of hIc.box, hIc.bb.row.lenV, HDL.out]
        have HC : Hid _ := hstc
        have HIC : Hid (RsI f true off so sb w rb L (k + 1) (of + ((q : Nat) : Int)) later (b.drop nn) u3 u2 (.slice x9 n9 m9) wc) := hIc
        clear hIb hIc hstc hbxc honc hu3 hbb hrow3
        go_wp2_with first
          | ((with_reducible show wpList _ _ _ ({ dst := _, op := Op.store 25 (Operand.tmp 73) (Operand.tmp 72), type := _, pos := _, after := _, guard := _ } :: _) _ _); refine armS (.tmp 73) (Operand.tmp 72) 25 rfl rfl rfl rfl HC.out ?_; simp only [Act.put])
        refine ⟨⟨k + 1, n', of + (q : Int), later, b.drop nn, u3, u2, HLDN.out, HN'.out, hcl.1, by omega, ?_, HMON.out, HIC.out⟩, ?_⟩
        · have h1 := HDL.out; have h2 := HQ.out; omega
        · have h1 := HBC.out; have h2 := HBS.out; omega

end

end Go.Proofs.Ytackllcfnlhkpaa
