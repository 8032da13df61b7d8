/-
  datagram of package ipv4: all that stands behind the length of all.
-/
import Derived.Test.YtmoogfdmlbalbaaIr5
namespace Go.Proofs.Ytmoogfdmlbalbaa
open Go Go.RowKit
set_option linter.unusedVariables false
set_option linter.unusedSimpArgs false

/-- Four bytes of a row that came in. -/
theorem four_at {w : World} {b off n k : Nat} {zs : List Int} (hb : b < w.heap.size) (hf : Fit zs) (hc : ∀ j, j < zs.length → w.cell? ⟨b, off + j, none⟩ = some (.int .u8 (gz zs j))) (i : Nat) (hi : i + 4 ≤ zs.length) :
    BytesAt w.heap.size w (.slice (some ⟨b, off + i, none⟩) 4 k) [gz zs i, gz zs (i + 1), gz zs (i + 2), gz zs (i + 3)] := by
  refine ⟨?_, by simp, _, k, rfl, .inr ⟨b, off + i, rfl, hb, fun j hj => ?_⟩⟩
  · intro z hz
    simp at hz
    rcases hz with rfl | rfl | rfl | rfl <;> exact hf.gz _
  · simp only [List.length_cons, List.length_nil] at hj
    rw [Nat.add_assoc, hc (i + j) (by omega)]
    match j, hj with
    | 0, _ => rfl
    | 1, _ => rfl
    | 2, _ => rfl
    | 3, _ => rfl
/-- A piece of a row that came in, its address told but where it is empty. -/
theorem piece_at {w : World} {b off o n k i : Nat} {zs : List Int} (hb : b < w.heap.size) (hf : Fit zs) (hm : zs.length ≤ 140737488351232) (hc : ∀ j, j < zs.length → w.cell? ⟨b, off + j, none⟩ = some (.int .u8 (gz zs j))) (hi : i + n ≤ zs.length) (ho : 0 < n → o = off + i) :
    BytesAt w.heap.size w (.slice (some ⟨b, o, none⟩) n k) ((zs.drop i).take n) := by
  have hl : ((zs.drop i).take n).length = n := by simp; omega
  refine ⟨fun z hz => hf z (List.mem_of_mem_drop (List.mem_of_mem_take hz)), by omega, _, k, by rw [hl], ?_⟩
  by_cases h0 : n = 0
  · left; omega
  · right
    refine ⟨b, o, rfl, hb, fun j hj => ?_⟩
    rw [hl] at hj
    rw [ho (by omega), Nat.add_assoc, hc (i + j) (by omega)]
    simp [gz, List.getElem?_take, hj, List.getElem?_drop]

theorem body_at {w : World} {b off cap hd o20 : Nat} {zs : List Int} (hb : b < w.heap.size) (hf : Fit zs) (hm : zs.length ≤ 140737488351232) (hc : ∀ j, j < zs.length → w.cell? ⟨b, off + j, none⟩ = some (.int .u8 (gz zs j))) (hcap : zs.length ≤ cap) (hh : 20 ≤ hd ∧ hd ≤ zs.length) (ho : 0 < zs.length - 20 → o20 = off + 20) :
    BytesAt w.heap.size w (.slice (some ⟨b, nxt o20 (cap - 16 - 4) (hd - 20), none⟩) (zs.length - 16 - 4 - (hd - 20)) (cap - 16 - 4 - (hd - 20))) (zs.drop hd) := by
  have e : zs.drop hd = (zs.drop hd).take (zs.length - 16 - 4 - (hd - 20)) := (List.take_of_length_le (by simp; omega)).symm
  rw [e]
  refine piece_at hb hf hm hc (by omega) (fun h => ?_)
  rw [nxt_lt (by omega), ho (by omega)]
  omega
theorem loc_lt {m s g : Nat} {v : Value} (h : m = 0 ∨ ∃ b off n k, v = .slice (some ⟨b, off, none⟩) n k ∧ s ≤ b) (hg : g < s) : m = 0 ∨ ∃ b off n k, v = .slice (some ⟨b, off, none⟩) n k ∧ g < b :=
  h.imp id (fun ⟨b, off, n, k, e, hs⟩ => ⟨b, off, n, k, e, Nat.lt_of_lt_of_le hg hs⟩)
theorem apart_of {m B s : Nat} {a : Option Addr} {k : Nat} (h : m = 0 ∨ ∃ b off n k', Value.slice a m k = .slice (some ⟨b, off, none⟩) n k' ∧ s ≤ b) (hB : B ≤ s) : (∃ a' k', some (Value.slice a m k) = some (.slice a' 0 k')) ∨ ∃ b off n k', some (Value.slice a m k) = some (.slice (some ⟨b, off, none⟩) n k') ∧ B ≤ b := by
  rcases h with rfl | ⟨b, off, n, k', e, hs⟩
  · exact .inl ⟨a, k, rfl⟩
  · exact .inr ⟨b, off, n, k', congrArg some e, Nat.le_trans hB hs⟩

set_option maxHeartbeats 4000000 in
set_option maxRecDepth 100000 in
theorem datagram_calls (w0 w : World) (R b off cap hd : Nat) (all : Int) (zs opts body : List Int) (hopts : (zs.drop 20).take (hd - 20) = opts) (hbody : zs.drop hd = body) (hf : Fit zs) (hm : zs.length ≤ 140737488351232) (hcap : zs.length ≤ cap) (hb : b < w0.heap.size)
    (hc : ∀ j, j < zs.length → w0.cell? ⟨b, off + j, none⟩ = some (.int .u8 (gz zs j))) (hh : 20 ≤ hd ∧ hd ≤ zs.length) (hR : ReadW w0 w R b (off + 4) (zs.length - 4) (cap - 4) (gz zs 1) hd all) :
    Calls Try.prog 40 #[.pointer (some ⟨R, 0, none⟩)] w fun e w' => ∃ c', e = .returned (.agg c'.toArray) ∧ Dgram w' c' (gz zs 1) (gz zs 4 * 256 + gz zs 5) (decide (gz zs 6 / 64 % 2 = 1)) (decide (gz zs 6 / 32 % 2 = 1)) (gz zs 6 % 32 * 256 + gz zs 7) (gz zs 8) (gz zs 9) (gz zs 12) (gz zs 13) (gz zs 14) (gz zs 15) (gz zs 16) (gz zs 17) (gz zs 18) (gz zs 19) opts body ∧ Apart w0.heap.size c' ∧ Below w0.heap.size w0 w' := by
  have HOP : Hid _ := hopts
  have HBO : Hid _ := hbody
  clear hopts hbody
  have k1 : ∀ o, (w.alloc o).cell? ⟨R, 1, none⟩ = some (.int .u8 (gz zs 1)) := fun o => blk_cell (blk_alloc hR.blk o) rfl
  obtain ⟨w3, hst, hS⟩ := DgW.start hR
  have g4 := hf.gz 4; have g5 := hf.gz 5; have g6 := hf.gz 6; have g7 := hf.gz 7
  have hid0 : 0 ≤ gz zs 4 * 256 + gz zs 5 ∧ gz zs 4 * 256 + gz zs 5 ≤ 65535 := by omega
  have hoff0 : -9223372036854775808 ≤ gz zs 6 % 32 * 256 + gz zs 7 ∧ gz zs 6 % 32 * 256 + gz zs 7 ≤ 9223372036854775807 := by omega
  have hdf := df_bit _ _ g6 g7
  have hmf := mf_bit _ _ g6 g7
  have hof := off_bits _ _ g6 g7
  have HR : Hid _ := hR
  have HST : Hid _ := hst
  have HS : Hid _ := hS
  have HC : Hid _ := hc
  have HF : Hid _ := hf
  unfold zeroC cV at HST
  clear hR hst hS hc hf
  go_enter Try.func40, Try.ntmps40
  go_wp2_with ((with_reducible show wpList _ _ _ _ _ _); refine arm_store rfl (.tmp 3) _ 27 rfl rfl rfl HST.out ?_)
  clear HST k1
  refine Calls.mono (HS.out.wordI (j := 6) hb (by omega) hcap (by omega) rfl (HC.out 4 (by omega)) (HC.out 5 (by omega)) g4 g5) ?_
  rintro e1 w1 ⟨rfl, hS1⟩
  have c1 := blk_cell hS1.vb (j := 1) rfl
  have f1 := blk_open hS1.vb 1
  have HS1 : Hid _ := hS1.put 1 (.int .u16 (gz zs 4 * 256 + gz zs 5))
  clear HS hS1
  go_wp2_with fail
  refine Calls.mono (HS1.out.wordI (j := 8) hb (by omega) hcap (by omega) rfl (HC.out 6 (by omega)) (HC.out 7 (by omega)) g6 g7) ?_
  rintro e2 w2 ⟨rfl, hS2⟩
  clear c1 f1 HS1
  have c2 := blk_cell hS2.vb (j := 2) rfl
  have f2 := blk_open hS2.vb 2
  have c3 := blk_cell hS2.vb (j := 3) rfl
  have f3 := blk_open hS2.vb 3
  have c4 := blk_cell hS2.vb (j := 4) rfl
  have f4 := blk_open hS2.vb 4
  have HS2 : Hid _ := ((hS2.put 2 (.bool (decide (gz zs 6 / 64 % 2 = 1)))).put 3 (.bool (decide (gz zs 6 / 32 % 2 = 1)))).put 4 (.int .i64 (gz zs 6 % 32 * 256 + gz zs 7))
  clear hS2
  go_wp2_with fail
  refine Calls.mono (HS2.out.octetI (j := 9) hb (by omega) hcap (by omega) rfl (HC.out 8 (by omega))) ?_
  rintro e3 w3 ⟨rfl, hS3⟩
  clear c2 f2 c3 f3 c4 f4 HS2 hdf hmf hof
  have c5 := blk_cell hS3.vb (j := 5) rfl
  have f5 := blk_open hS3.vb 5
  have HS3 : Hid _ := hS3.put 5 (.int .u8 (gz zs 8))
  clear hS3
  go_wp2_with fail
  refine Calls.mono (HS3.out.octetI (j := 10) hb (by omega) hcap (by omega) rfl (HC.out 9 (by omega))) ?_
  rintro e4 w4 ⟨rfl, hS4⟩
  clear c5 f5 HS3
  have c6 := blk_cell hS4.vb (j := 6) rfl
  have f6 := blk_open hS4.vb 6
  have HS4 : Hid _ := hS4.put 6 (.int .u8 (gz zs 9))
  clear hS4
  go_wp2_with fail
  refine Calls.mono (HS4.out.wordI (j := 12) hb (by omega) hcap (by omega) rfl (HC.out 10 (by omega)) (HC.out 11 (by omega)) (Fit.gz (zs := zs) HF.out 10) (Fit.gz (zs := zs) HF.out 11)) ?_
  rintro e5 w5 ⟨rfl, hS5⟩
  clear c6 f6 HS4
  have HS5 : Hid _ := hS5
  clear hS5
  go_wp2_with fail
  have b12 := four_at (n := 4) (k := cap - 12) hb HF.out HC.out 12 (by omega)
  have b16 := four_at (n := 4) (k := cap - 16) hb HF.out HC.out 16 (by omega)
  have HB12 : Hid _ := b12
  have HB16 : Hid _ := b16
  clear b12 b16
  go_region_law (first
    | (refine step_copyR rfl _ _ _ _ rfl rfl rfl (hS6.copy rfl HB12.out 7 4 (by simp) _) ?_; rintro v7 w7 hS7)
    | (refine step_callR rfl 58 _ (by kernel_rfl) (HS5.out.drew.runI (j := 16) (by omega) hcap (by omega) rfl) ?_; rintro v6 w6 ⟨rfl, hS6⟩))
  have HS7 : Hid _ := hS7
  clear hS6 hS7 HS5
  go_wp2_with fail
  go_region_law (first
    | (refine step_copyR rfl _ _ _ _ rfl rfl rfl (hS8.copy rfl HB16.out 11 4 (by simp) _) ?_; rintro v9 w9 hS9)
    | (refine step_callR rfl 58 _ (by kernel_rfl) (HS7.out.drew.run 4 (by omega) (by omega)) ?_; rintro v8 w8 ⟨rfl, hS8⟩))
  have HS9 : Hid _ := hS9
  have ho20 : 0 < zs.length - 20 → nxt (off + 16) (cap - 16) 4 = off + 20 := fun h => by rw [nxt_lt (by omega)]
  have HO20 : Hid _ := ho20
  have hw : IntKind.i64.wrap ((hd : Int) - 20) = ((hd - 20 : Nat) : Int) := by rw [wrapi64 _ (by omega)]; omega
  have r2 := blk_cell hS9.rb (j := 2) rfl
  clear hS8 hS9 HS7 ho20 HB12 HB16
  generalize nxt (off + 16) (cap - 16) 4 = o20 at *
  have bop : BytesAt w0.heap.size w0 (.slice (some ⟨b, o20, none⟩) (hd - 20) (cap - 16 - 4)) ((zs.drop 20).take (hd - 20)) := piece_at hb HF.out hm HC.out (by omega) (fun h => HO20.out (by omega))
  rw [HOP.out] at bop
  have HBOP : Hid _ := bop
  clear bop
  go_wp2_with fail
  go_region_law (first
    | (refine step_callR rfl 43 _ (by kernel_rfl) (Clone_calls _ _ _ (HBOP.out.later hS10.bel)) ?_; rintro v11 w11 ⟨hby, hbl, hloc⟩; have hby' := hby.val; obtain ⟨a11, k11, rfl, _⟩ := hby'; have hS11 := hS10.on hbl; have q15 := blk_cell hS11.vb (j := 15) rfl; have r15 := blk_open hS11.vb 15)
    | (refine step_callR rfl 58 _ (by kernel_rfl) (HS9.out.drew.run (hd - 20) (by omega) (by omega)) ?_; rintro v10 w10 ⟨rfl, hS10⟩))
  have hlt10 := (Array.getElem?_eq_some_iff.1 hS10.vb).1
  have hS12 := hS11.put 15 (.slice a11 opts.length k11)
  have hby12 := bytes_only hby ((Only.refl (w.heap.size + 1) w11).set 15 (.slice a11 opts.length k11)) (loc_lt hloc hlt10)
  have c0 := blk_cell hS12.rb (j := 0) rfl
  have bod := body_at hb HF.out hm HC.out hcap hh HO20.out
  rw [HBO.out] at bod
  have HBOD : Hid _ := Clone_calls _ _ _ (bod.later hS12.bel)
  have HS12 : Hid _ := hS12
  have HY12 : Hid _ := hby12
  have HLOC : Hid _ := hloc
  have HBEL10 : Hid _ := hS10.bel
  clear bod hS12 hby12 hloc hbl hS11 q15 r15 hby hS10 HS9 r2 hw HBOP
  go_wp2_with fail
  refine Calls.mono HBOD.out ?_
  rintro e13 w13 ⟨v13, rfl, hby13, hbl13, hloc13⟩
  have hby' := hby13.val
  obtain ⟨a13, k13, rfl, _⟩ := hby'
  have hlt12 := (Array.getElem?_eq_some_iff.1 HS12.out.vb).1
  have hS13 := HS12.out.on hbl13
  have c16 := blk_cell hS13.vb (j := 16) rfl
  have f16 := blk_open hS13.vb 16
  have hO16 := (Only.refl (w.heap.size + 1) w13).set 16 (.slice a13 body.length k13)
  have hS14 : DgW w0 (w13.setCell ⟨w.heap.size + 1, 16, none⟩ (.slice a13 body.length k13)) R w.heap.size b _ _ _ _ _ _ (cV (gz zs 1) (gz zs 4 * 256 + gz zs 5) (decide (gz zs 6 / 64 % 2 = 1)) (decide (gz zs 6 / 32 % 2 = 1)) (gz zs 6 % 32 * 256 + gz zs 7) (gz zs 8) (gz zs 9) (gz zs 12) (gz zs 13) (gz zs 14) (gz zs 15) (gz zs 16) (gz zs 17) (gz zs 18) (gz zs 19) (.slice a11 opts.length k11) (.slice a13 body.length k13)) := hS13.put 16 _
  have hyo := bytes_only (HY12.out.later hbl13) hO16 (loc_lt HLOC.out hlt10)
  have hyb := bytes_only hby13 hO16 (loc_lt hloc13 hlt12)
  have hld := agg_load (t := 27) Try.isAgg27 Try.sizeOf27 rfl (CellsAt.of_blk hS14.vb)
  obtain ⟨w15, hst15, hlv, hO15⟩ := slot17 hS14.qb rfl (cV (gz zs 1) (gz zs 4 * 256 + gz zs 5) (decide (gz zs 6 / 64 % 2 = 1)) (decide (gz zs 6 / 32 % 2 = 1)) (gz zs 6 % 32 * 256 + gz zs 7) (gz zs 8) (gz zs 9) (gz zs 12) (gz zs 13) (gz zs 14) (gz zs 15) (gz zs 16) (gz zs 17) (gz zs 18) (gz zs 19) (.slice a11 opts.length k11) (.slice a13 body.length k13)) rfl (by simp [cV, Value.oneCell'])
  have hzo := bytes_only hyo hO15 (loc_lt HLOC.out (Nat.lt_of_succ_lt hlt10))
  have hzb := bytes_only hyb hO15 (loc_lt hloc13 (Nat.lt_of_succ_lt hlt12))
  have hB15 : Below w0.heap.size w0 w15 := hS14.bel.trans (hO15.below (Nat.le_trans hS14.up (Nat.le_of_lt hS14.lt)))
  have g1 := Fit.gz (zs := zs) HF.out 1
  have g8 := Fit.gz (zs := zs) HF.out 8
  have g9 := Fit.gz (zs := zs) HF.out 9
  have hD : Dgram w15 (cV (gz zs 1) (gz zs 4 * 256 + gz zs 5) (decide (gz zs 6 / 64 % 2 = 1)) (decide (gz zs 6 / 32 % 2 = 1)) (gz zs 6 % 32 * 256 + gz zs 7) (gz zs 8) (gz zs 9) (gz zs 12) (gz zs 13) (gz zs 14) (gz zs 15) (gz zs 16) (gz zs 17) (gz zs 18) (gz zs 19) (.slice a11 opts.length k11) (.slice a13 body.length k13)) (gz zs 1) (gz zs 4 * 256 + gz zs 5) (decide (gz zs 6 / 64 % 2 = 1)) (decide (gz zs 6 / 32 % 2 = 1)) (gz zs 6 % 32 * 256 + gz zs 7) (gz zs 8) (gz zs 9) (gz zs 12) (gz zs 13) (gz zs 14) (gz zs 15) (gz zs 16) (gz zs 17) (gz zs 18) (gz zs 19) opts body := by
    refine ⟨⟨_, _, ⟨rfl, rfl, rfl⟩, hzo, hzb⟩, hid0, g1, g8, g9, ?_, ?_, hoff0⟩
    · intro z hz
      simp at hz
      rcases hz with rfl | rfl | rfl | rfl <;> exact Fit.gz (zs := zs) HF.out _
    · intro z hz
      simp at hz
      rcases hz with rfl | rfl | rfl | rfl <;> exact Fit.gz (zs := zs) HF.out _
  have hA : Apart w0.heap.size (cV (gz zs 1) (gz zs 4 * 256 + gz zs 5) (decide (gz zs 6 / 64 % 2 = 1)) (decide (gz zs 6 / 32 % 2 = 1)) (gz zs 6 % 32 * 256 + gz zs 7) (gz zs 8) (gz zs 9) (gz zs 12) (gz zs 13) (gz zs 14) (gz zs 15) (gz zs 16) (gz zs 17) (gz zs 18) (gz zs 19) (.slice a11 opts.length k11) (.slice a13 body.length k13)) := by
    intro j hj
    rcases hj with rfl | rfl
    · exact apart_of HLOC.out HBEL10.out.size
    · exact apart_of hloc13 HS12.out.bel.size
  have HLD : Hid _ := hld
  have HST15 : Hid _ := hst15
  have HLV : Hid _ := hlv
  have HD : Hid _ := hD
  have HA : Hid _ := hA
  have HB15 : Hid _ := hB15
  clear hld hst15 hlv hD hA hB15 hzo hzb hyo hyb hS14 hS13 hO16 hO15 hloc13 hby13 HS12 HY12 HLOC HBEL10 HBOD hbl13
  go_wp2_with first
    | ((with_reducible show wpList _ _ _ _ _ _); refine arm_load rfl (.tmp 3) 27 rfl rfl HLD.out ?_)
    | ((with_reducible show wpList _ _ _ _ _ _); refine arm_store rfl (.tmp 2) _ 27 rfl rfl rfl HST15.out ?_)
  refine bodyPost_ret (res1 rfl rfl HLV.out) rfl ?_
  exact ⟨_, rfl, HD.out, HA.out, HB15.out⟩

end Go.Proofs.Ytmoogfdmlbalbaa
