/-
  The document's reader of IPv4 datagrams: where bytes are a datagram, some of its body cut off or not.
-/
import Derived.Test.YtnjkagopmfenkaaGreatFold13
namespace Go.Proofs.YtnjkagopmfenkaaGreat.V4
open Go Go.RowKit
set_option linter.unusedVariables false
set_option linter.unusedSimpArgs false

set_option maxHeartbeats 6000000 in
set_option maxRecDepth 100000 in
theorem read_ok_e (b off cap : Nat) (zs : List Int) (w : World) (hf : Fit zs) (hm : zs.length ≤ 140737488351232) (hcap : zs.length ≤ cap) (hb : b < w.heap.size) (hc : ∀ j, j < zs.length → w.cell? ⟨b, off + j, none⟩ = some (.int .u8 (gz zs j))) (h20 : 20 ≤ zs.length) (hv : gz zs 0 / 16 = 4) (h1 : 20 ≤ gz zs 0 % 16 * 4) (h2 : gz zs 0 % 16 * 4 ≤ (zs.length : Int)) (h3 : gz zs 2 * 256 + gz zs 3 = (zs.length : Int)) :
    Calls Tryz.prog 98 #[.slice (some ⟨b, off, none⟩) zs.length cap, .bool true] w fun e w' => ∃ c', e = .returned (.tuple #[.agg c'.toArray, .int .i64 0, .int .i64 0]) ∧ SaysD zs w' c' ∧ Apart w.heap.size c' ∧ Below w.heap.size w w' := by
  have hhd : ∃ hd : Nat, gz zs 0 % 16 * 4 = (hd : Int) := ⟨(gz zs 0 % 16 * 4).toNat, by omega⟩
  obtain ⟨hd, hhd⟩ := hhd
  have hhd1 : 20 ≤ hd ∧ hd ≤ zs.length := by omega
  have HSM : Hid (∀ w : World, (Instr.sliceAt 25 (.slice (some ⟨b, off, none⟩) zs.length cap) (some (.int .i64 20)) (some (.int .i64 (gz zs 0 % 16 * 4))) none).run Tryz.prog w = .ok (.slice (some ⟨b, nxt off cap 20, none⟩) (hd - 20) (cap - 20)) w) := (fun w => by rw [hhd]; exact slice_mid b off _ cap hd w hhd1.1 hhd1.2 hcap)
  have HSE : Hid (∀ w : World, (Instr.sliceAt 25 (.slice (some ⟨b, off, none⟩) zs.length cap) (some (.int .i64 (gz zs 0 % 16 * 4))) none none).run Tryz.prog w = .ok (.slice (some ⟨b, nxt off cap hd, none⟩) (zs.length - hd) (cap - hd)) w) := (fun w => by rw [hhd]; exact slice_end b off _ cap hd w hhd1.2 hcap)
  have hop : BytesAt w.heap.size w (.slice (some ⟨b, nxt off cap 20, none⟩) (hd - 20) (cap - 20)) ((zs.drop 20).take (hd - 20)) := piece_at hb hf hm hc (by omega) (fun h => nxt_lt (by omega))
  have hbo : BytesAt w.heap.size w (.slice (some ⟨b, nxt off cap hd, none⟩) (zs.length - hd) (cap - hd)) (zs.drop hd) := by
    have e : zs.drop hd = (zs.drop hd).take (zs.length - hd) := (List.take_of_length_le (by simp)).symm
    rw [e]
    exact piece_at hb hf hm hc (by omega) (fun h => nxt_lt (by omega))
  have hid0 : 0 ≤ gz zs 4 * 256 + gz zs 5 ∧ gz zs 4 * 256 + gz zs 5 ≤ 65535 := by have := hf.gz 4; have := hf.gz 5; omega
  have hoff0 : -9223372036854775808 ≤ gz zs 6 % 32 * 256 + gz zs 7 ∧ gz zs 6 % 32 * 256 + gz zs 7 ≤ 9223372036854775807 := by have := hf.gz 6; have := hf.gz 7; omega
  have HID : Hid _ := hid0
  have HOF : Hid _ := hoff0
  unfold SaysD pHead
  rw [show (gz zs 0 % 16 * 4).toNat = hd by omega]
  generalize (zs.drop 20).take (hd - 20) = opts at *
  generalize zs.drop hd = body at *
  have HOP : Hid _ := hop
  have HBO : Hid _ := hbo
  clear hop hbo hid0 hoff0 hhd
  have hS := OneW.start w
  have k0 : (w.alloc (.cells zeroC.toArray 27)).cell? ⟨b, off, none⟩ = some (.int .u8 (gz zs 0)) := (hS.bel.cell (p := ⟨b, off, none⟩) hb).trans (hc 0 (by omega))
  have k2 : (w.alloc (.cells zeroC.toArray 27)).cell? ⟨b, off + 2, none⟩ = some (.int .u8 (gz zs 2)) := (hS.bel.cell (p := ⟨b, off + 2, none⟩) hb).trans (hc 2 (by omega))
  have k3 : (w.alloc (.cells zeroC.toArray 27)).cell? ⟨b, off + 3, none⟩ = some (.int .u8 (gz zs 3)) := (hS.bel.cell (p := ⟨b, off + 3, none⟩) hb).trans (hc 3 (by omega))
  have g0 := hf.gz 0
  have g2 := hf.gz 2
  have g3 := hf.gz 3
  have q0 : decide ((zs.length : Int) < 20) = false := by simp; omega
  have q1 : (gz zs 0 / 16 != 4) = false := by simp [hv]
  have q2 : decide (gz zs 0 % 16 * 4 < 20) = false := by simp; omega
  have q3 : decide ((zs.length : Int) < gz zs 0 % 16 * 4) = false := by simp; omega
  have q4 : decide (gz zs 2 * 256 + gz zs 3 < (zs.length : Int)) = false := by simp; omega
  have q5 : decide ((zs.length : Int) < gz zs 2 * 256 + gz zs 3) = false := by simp; omega
  have q6 : decide (gz zs 2 * 256 + gz zs 3 < gz zs 0 % 16 * 4) = false := by simp; omega
  have hS1 := hS.on ((Below.refl _ _).drew)
  have HS1 : Hid _ := hS1
  have HF : Hid _ := hf
  have HC : Hid _ := hc
  unfold zeroC at *
  clear hS hc hf hS1
  go_enter Tryz.func98, Tryz.ntmps98
  go_wp2
  go_region
  have HS3 : Hid _ := HS1.out
  clear HS1 k0 k2 k3
  generalize (w.alloc (.cells ([.int .u8 0, .int .u16 0, .bool false, .bool false, .int .i64 0, .int .u8 0, .int .u8 0, .int .u8 0, .int .u8 0, .int .u8 0, .int .u8 0, .int .u8 0, .int .u8 0, .int .u8 0, .int .u8 0, .slice none 0 0, .slice none 0 0].toArray) 27)).drew = W at *
  have g4 := Fit.gz (zs := zs) HF.out 4; have g5 := Fit.gz (zs := zs) HF.out 5; have g6 := Fit.gz (zs := zs) HF.out 6; have g7 := Fit.gz (zs := zs) HF.out 7
  have hor := or_word (gz zs 4) (gz zs 5) g4.1 g4.2 g5.1 g5.2
  have hdf := df_ref _ g6
  have hmf := mf_ref _ g6
  have i1 : (1 : Int) < (zs.length : Int) := by omega
  have i4 : (4 : Int) < (zs.length : Int) := by omega
  have i5 : (5 : Int) < (zs.length : Int) := by omega
  have i6 : (6 : Int) < (zs.length : Int) := by omega
  have i7 : (7 : Int) < (zs.length : Int) := by omega
  have i8 : (8 : Int) < (zs.length : Int) := by omega
  have i9 : (9 : Int) < (zs.length : Int) := by omega
  have k1 : ∀ x : Hi W, x.W.cell? ⟨b, off + 1, none⟩ = some (.int .u8 (gz zs 1)) := fun x => ((HS3.out.bel.trans (x.below.mono HS3.out.bel.size)).cell (p := ⟨b, off + 1, none⟩) hb).trans (HC.out 1 (by omega))
  have k4 : ∀ x : Hi W, x.W.cell? ⟨b, off + 4, none⟩ = some (.int .u8 (gz zs 4)) := fun x => ((HS3.out.bel.trans (x.below.mono HS3.out.bel.size)).cell (p := ⟨b, off + 4, none⟩) hb).trans (HC.out 4 (by omega))
  have k5 : ∀ x : Hi W, x.W.cell? ⟨b, off + 5, none⟩ = some (.int .u8 (gz zs 5)) := fun x => ((HS3.out.bel.trans (x.below.mono HS3.out.bel.size)).cell (p := ⟨b, off + 5, none⟩) hb).trans (HC.out 5 (by omega))
  have k6 : ∀ x : Hi W, x.W.cell? ⟨b, off + 6, none⟩ = some (.int .u8 (gz zs 6)) := fun x => ((HS3.out.bel.trans (x.below.mono HS3.out.bel.size)).cell (p := ⟨b, off + 6, none⟩) hb).trans (HC.out 6 (by omega))
  have k7 : ∀ x : Hi W, x.W.cell? ⟨b, off + 7, none⟩ = some (.int .u8 (gz zs 7)) := fun x => ((HS3.out.bel.trans (x.below.mono HS3.out.bel.size)).cell (p := ⟨b, off + 7, none⟩) hb).trans (HC.out 7 (by omega))
  have k8 : ∀ x : Hi W, x.W.cell? ⟨b, off + 8, none⟩ = some (.int .u8 (gz zs 8)) := fun x => ((HS3.out.bel.trans (x.below.mono HS3.out.bel.size)).cell (p := ⟨b, off + 8, none⟩) hb).trans (HC.out 8 (by omega))
  have k9 : ∀ x : Hi W, x.W.cell? ⟨b, off + 9, none⟩ = some (.int .u8 (gz zs 9)) := fun x => ((HS3.out.bel.trans (x.below.mono HS3.out.bel.size)).cell (p := ⟨b, off + 9, none⟩) hb).trans (HC.out 9 (by omega))
  go_wp2_with fail
  clear q0 q1 q2 q3 q4 q5 q6 g0 g2 g3 hv h3
  refine wp_region_box 41 (fun w' => ∃ x : Hi W, w' = x.W) (by kernel_rfl) (by kernel_rfl) (fun _ _ d _ _ h => by cases d <;> exact h) ⟨⟨W.drew, (Below.refl _ W).drew⟩, rfl⟩ (by rfl) (by kernel_rfl) (by kernel_rfl) (by kernel_rfl) (by kernel_rfl) (by kernel_rfl) rfl rfl rfl rfl ?_
  simp only [List.take_succ_cons, List.take_zero]
  repeat (first | go_big_quiet_skip | (go_big_quiet_want; go_big_quiet_op; go_big_quiet_on))
  refine wpQuiet_nil ?_
  obtain ⟨w3, hst3, hk3, hb3, hlt3⟩ := box17k W.drew (cV (gz zs 1) (gz zs 4 * 256 + gz zs 5) (decide (gz zs 6 / 64 % 2 = 1)) (decide (gz zs 6 / 32 % 2 = 1)) (gz zs 6 % 32 * 256 + gz zs 7) (gz zs 8) (gz zs 9) 0 0 0 0 0 0 0 0 (.slice none 0 0) (.slice none 0 0)) ⟨rfl, by simp [cV, Value.oneCell']⟩
  have hT : TwoW w w3 w.heap.size W.drew.heap.size (cV (gz zs 1) (gz zs 4 * 256 + gz zs 5) (decide (gz zs 6 / 64 % 2 = 1)) (decide (gz zs 6 / 32 % 2 = 1)) (gz zs 6 % 32 * 256 + gz zs 7) (gz zs 8) (gz zs 9) 0 0 0 0 0 0 0 0 (.slice none 0 0) (.slice none 0 0)) := ⟨blk_on HS3.out.qb ((Below.refl W.heap.size W).drew.trans hb3), hk3, HS3.out.up, (Array.getElem?_eq_some_iff.1 HS3.out.qb).1, HS3.out.bel.trans (((Below.refl W.heap.size W).drew.trans hb3).mono HS3.out.bel.size)⟩
  refine alloc_wp rfl ⟨⟨⟨W.drew.alloc (.cells zeroC.toArray 27), (Below.refl W.heap.size W).drew.alloc (Nat.le_refl _) _⟩, rfl⟩, ?_⟩
  refine store_wp (.tmp 9) (.tmp 116) 27 rfl rfl rfl hst3 ⟨⟨⟨w3, (Below.refl W.heap.size W).drew.trans hb3⟩, rfl⟩, ?_⟩
  have HT : Hid _ := hT
  clear hT hst3 hk3 hb3 hlt3 hor hdf hmf k1 k4 k5 k6 k7 k8 k9 i1 i4 i5 i6 i7 i8 i9
  simp only [Act.put, List.setIfInBounds_toArray, List.set_cons_zero, List.set_cons_succ]
  generalize W.drew.heap.size = Vb at *
  have HB12 : Hid _ := four_at (n := 4) (k := cap - 12) hb HF.out HC.out 12 (by omega)
  have HB16 : Hid _ := four_at (n := 4) (k := cap - 16) hb HF.out HC.out 16 (by omega)
  have c16 : (16 : Int) ≤ (cap : Int) := by omega
  have c20 : (20 : Int) ≤ (cap : Int) := by omega
  have n12 : ¬ cap = 12 := by omega
  have n16 : ¬ cap = 16 := by omega
  go_wp2_with fail
  go_region_law (refine step_copyR rfl _ _ _ _ rfl rfl rfl (HT.out.drew.copy rfl HB12.out 7 4 (by simp) _) ?_; rintro v7 w7 hT7)
  have HT7 : Hid _ := hT7
  clear hT7 HT
  go_wp2_with fail
  go_region_law (refine step_copyR rfl _ _ _ _ rfl rfl rfl (HT7.out.drew.copy rfl HB16.out 11 4 (by simp) _) ?_; rintro v8 w8 hT8)
  clear HT7 HB12 HB16
  have hB9 := (Below.refl w8.heap.size w8).alloc (Nat.le_refl _) (.cells #[] 5)
  have hT9 := hT8.on hB9
  obtain ⟨a9, k9, w9, hrun9, hby9, hb9, hloc9⟩ := bytes_copied2 (HOP.out.later hT9.bel) w8.heap.size 25
  have hT10 := hT9.on hb9
  have x15 := blk_cell hT10.vb (j := 15) rfl
  have f15 := blk_open hT10.vb 15
  have hV9 : Vb < (w8.alloc (.cells #[] 5)).heap.size := (Array.getElem?_eq_some_iff.1 hT9.vb).1
  have hL9 : opts.length = 0 ∨ ∃ bb off n k, Value.slice a9 opts.length k9 = .slice (some ⟨bb, off, none⟩) n k ∧ Vb < bb := loc_lt (hloc9.imp (fun h => h) (fun ⟨g, o, e, hs⟩ => ⟨g, o, _, _, by rw [e], hs⟩)) hV9
  have hO10 := (Only.refl Vb w9).set 15 (.slice a9 opts.length k9)
  have hby10 := bytes_only hby9 hO10 hL9
  have hT11 := hT10.put 15 (.slice a9 opts.length k9)
  have hB11 := (Below.refl (w9.setCell ⟨Vb, 15, none⟩ (.slice a9 opts.length k9)).heap.size (w9.setCell ⟨Vb, 15, none⟩ (.slice a9 opts.length k9))).alloc (Nat.le_refl _) (.cells #[] 5)
  have hT12 := hT11.on hB11
  have hsz9 : (w9.setCell ⟨Vb, 15, none⟩ (.slice a9 opts.length k9)).heap.size = w9.heap.size := by simp [World.setCell]
  obtain ⟨a13, k13, w13, hrun13, hby13, hb13, hloc13⟩ := bytes_copied2 (HBO.out.later hT12.bel) w9.heap.size 25
  have hT13 := hT12.on hb13
  have x16 := blk_cell hT13.vb (j := 16) rfl
  have f16 := blk_open hT13.vb 16
  have hV13 : Vb < ((w9.setCell ⟨Vb, 15, none⟩ (.slice a9 opts.length k9)).alloc (.cells #[] 5)).heap.size := (Array.getElem?_eq_some_iff.1 hT12.vb).1
  have hL13 : body.length = 0 ∨ ∃ bb off n k, Value.slice a13 body.length k13 = .slice (some ⟨bb, off, none⟩) n k ∧ Vb < bb := loc_lt (hloc13.imp (fun h => h) (fun ⟨g, o, e, hs⟩ => ⟨g, o, _, _, by rw [e], hs⟩)) hV13
  have hO14 := (Only.refl Vb w13).set 16 (.slice a13 body.length k13)
  have hyo := bytes_only ((hby10.later hB11).later hb13) hO14 hL9
  have hyb := bytes_only hby13 hO14 hL13
  have hT14 : TwoW w (w13.setCell ⟨Vb, 16, none⟩ (.slice a13 body.length k13)) w.heap.size Vb (cV (gz zs 1) (gz zs 4 * 256 + gz zs 5) (decide (gz zs 6 / 64 % 2 = 1)) (decide (gz zs 6 / 32 % 2 = 1)) (gz zs 6 % 32 * 256 + gz zs 7) (gz zs 8) (gz zs 9) (gz zs 12) (gz zs 13) (gz zs 14) (gz zs 15) (gz zs 16) (gz zs 17) (gz zs 18) (gz zs 19) (.slice a9 opts.length k9) (.slice a13 body.length k13)) := hT13.put 16 _
  have hld := agg_load (t := 27) Tryz.isAgg27 Tryz.sizeOf27 rfl (CellsAt.of_blk hT14.vb)
  obtain ⟨w15, hst15, hlv, hO15⟩ := slot17 hT14.qb rfl (cV (gz zs 1) (gz zs 4 * 256 + gz zs 5) (decide (gz zs 6 / 64 % 2 = 1)) (decide (gz zs 6 / 32 % 2 = 1)) (gz zs 6 % 32 * 256 + gz zs 7) (gz zs 8) (gz zs 9) (gz zs 12) (gz zs 13) (gz zs 14) (gz zs 15) (gz zs 16) (gz zs 17) (gz zs 18) (gz zs 19) (.slice a9 opts.length k9) (.slice a13 body.length k13)) rfl (by simp [cV, Value.oneCell'])
  have hQ : w.heap.size < Vb := hT14.lt
  have hzo := bytes_only hyo hO15 (hL9.imp (fun h => h) (fun ⟨g, o, n, k, e, hs⟩ => ⟨g, o, n, k, e, Nat.lt_trans hQ hs⟩))
  have hzb := bytes_only hyb hO15 (hL13.imp (fun h => h) (fun ⟨g, o, n, k, e, hs⟩ => ⟨g, o, n, k, e, Nat.lt_trans hQ hs⟩))
  have hB15 : Below w.heap.size w w15 := hT14.bel.trans (hO15.below hT14.up)
  have hD : Dgram w15 (cV (gz zs 1) (gz zs 4 * 256 + gz zs 5) (decide (gz zs 6 / 64 % 2 = 1)) (decide (gz zs 6 / 32 % 2 = 1)) (gz zs 6 % 32 * 256 + gz zs 7) (gz zs 8) (gz zs 9) (gz zs 12) (gz zs 13) (gz zs 14) (gz zs 15) (gz zs 16) (gz zs 17) (gz zs 18) (gz zs 19) (.slice a9 opts.length k9) (.slice a13 body.length k13)) (gz zs 1) (gz zs 4 * 256 + gz zs 5) (decide (gz zs 6 / 64 % 2 = 1)) (decide (gz zs 6 / 32 % 2 = 1)) (gz zs 6 % 32 * 256 + gz zs 7) (gz zs 8) (gz zs 9) (gz zs 12) (gz zs 13) (gz zs 14) (gz zs 15) (gz zs 16) (gz zs 17) (gz zs 18) (gz zs 19) opts body := by
    refine ⟨⟨_, _, ⟨rfl, rfl, rfl⟩, hzo, hzb⟩, HID.out, Fit.gz (zs := zs) HF.out 1, Fit.gz (zs := zs) HF.out 8, Fit.gz (zs := zs) HF.out 9, ?_, ?_, HOF.out⟩
    · intro z hz
      simp at hz
      rcases hz with rfl | rfl | rfl | rfl <;> exact Fit.gz (zs := zs) HF.out _
    · intro z hz
      simp at hz
      rcases hz with rfl | rfl | rfl | rfl <;> exact Fit.gz (zs := zs) HF.out _
  have HAP : Hid (Apart w.heap.size (cV (gz zs 1) (gz zs 4 * 256 + gz zs 5) (decide (gz zs 6 / 64 % 2 = 1)) (decide (gz zs 6 / 32 % 2 = 1)) (gz zs 6 % 32 * 256 + gz zs 7) (gz zs 8) (gz zs 9) (gz zs 12) (gz zs 13) (gz zs 14) (gz zs 15) (gz zs 16) (gz zs 17) (gz zs 18) (gz zs 19) (.slice a9 opts.length k9) (.slice a13 body.length k13))) := by
    intro j hj
    rcases hj with rfl | rfl
    · exact apart_of (s := Vb + 1) hL9 (Nat.le_succ_of_le (Nat.le_of_lt hQ))
    · exact apart_of (s := Vb + 1) hL13 (Nat.le_succ_of_le (Nat.le_of_lt hQ))
  have HR9 : Hid _ := hrun9
  have HR13 : Hid _ := hrun13
  have HLD : Hid _ := hld
  have HST15 : Hid _ := hst15
  have HLV : Hid _ := hlv
  have HD : Hid _ := hD
  have HB15 : Hid _ := hB15
  clear hrun9 hrun13 hld hst15 hlv hD hB15 hzo hzb hyo hyb hO15 hO14 hL13 hV13 hT14 hT13 hT12 hB11 hT11 hby10 hO10 hL9 hV9 hT10 hT9 hB9 hT8 hby9 hb9 hloc9 hby13 hb13 hloc13 hQ
  go_wp2_with first
    | ((with_reducible show wpList _ _ _ _ _ _); refine arm_slice rfl 25 (.tmp 128) (some (.const (.int .i64 20))) (some (.tmp 129)) rfl rfl rfl rfl (HSM.out _) ?_)
    | ((with_reducible show wpList _ _ _ _ _ _); refine arm_slice rfl 25 (.tmp 134) (some (.tmp 135)) none rfl rfl rfl rfl (HSE.out _) ?_)
    | (at_builtin; refine wpList_append_run rfl _ _ _ _ rfl rfl rfl HR9.out ?_; clear HR9)
    | (at_builtin; refine wpList_append_run rfl _ _ _ _ rfl rfl rfl HR13.out ?_; clear HR13)
    | ((with_reducible show wpList _ _ _ _ _ _); refine arm_load rfl (.tmp 9) 27 rfl rfl HLD.out ?_)
    | ((with_reducible show wpList _ _ _ _ _ _); refine arm_store rfl (.tmp 4) _ 27 rfl rfl rfl HST15.out ?_)
  refine bodyPost_ret (res3t rfl rfl HLV.out) rfl ?_
  exact ⟨_, rfl, HD.out, HAP.out, HB15.out⟩

end Go.Proofs.YtnjkagopmfenkaaGreat.V4
