/-
  The document's Get.
-/
import Derived.Test.YtfiiopgdgfbkkaaDoorQf0
namespace Go.Proofs.YtfiiopgdgfbkkaaDoor
set_option linter.unusedVariables false
set_option linter.unusedSimpArgs false
open Go Go.RowKit

set_option maxHeartbeats 3000000 in
set_option maxRecDepth 100000 in
theorem RGet_any (l : List Int) (n : Int) (x : List Int) (w : World) (hf : FitB l) (hl : l.length = 16) (hb : -9223372036854775808 ≤ n ∧ n ≤ 9223372036854775807) (hx : x.length = 16) (hfx : FitB x) :
    Calls Tryd.prog 17 #[P6 l n, A6 x] w fun e w' => PutPost (getE l n x) w e w' := by
  generalize hQ : (fun e w' => PutPost (getE l n x) w e w') = Q
  have HQ : Hid _ := hQ
  clear hQ
  have hck := fun W => RCheckE_any l n W hf hl hb
  have hhs := fun W => RHas6_calls l n x W hf hl hfx hx hb
  obtain ⟨hb0, hb1, hb2, hBw, hz⟩ := boxes3 w (cp6 l n) (u8s x) zero4L 25 23 27
  generalize hW : ((w.alloc (.cells (cp6 l n).toArray 25)).alloc (.cells (u8s x).toArray 23)).alloc (.cells zero4L.toArray 27) = W2 at *
  rw [u8s_b8] at hb1
  have HL : Hid _ := loadP6 hl (CellsAt.pfx hl hb0).1
  have HC : Hid _ := hck
  have HZ : Hid _ := hz
  clear hck hz
  go_enter Tryd.func17, Tryd.ntmps17
  go_wp2_with ((with_reducible show wpList _ _ _ _ _ _); refine armL (.tmp 2) 25 rfl rfl rfl HL.out ?_)
  refine (HC.out W2).mono ?_
  rintro e w3 ⟨rfl, hB3⟩
  have hz := HZ.out
  have k0 := (hB3.block w.heap.size (by omega)).trans hb0
  have k1 := (hB3.block (w.heap.size + 1) (by omega)).trans hb1
  have k2 := (hB3.block (w.heap.size + 2) (by omega)).trans hb2
  have hBw3 := hBw.trans (hB3.mono (by omega))
  have hz3 : w.heap.size + 3 ≤ w3.heap.size := by have := hB3.size; omega
  clear hW HL HC hb0 hb1 hb2 hBw hB3 hz HZ
  by_cases h0 : chkE l n = 0
  · obtain ⟨g1, g2, g3⟩ := chkE_ok h0
    rw [h0]
    rw [g1] at hhs
    simp only [Bool.true_and, if_true] at hhs
    have HHS : Hid _ := hhs
    clear hhs
    have HLP : Hid _ := loadP6 hl (CellsAt.pfx hl k0).1
    have HLX : Hid _ := load6 hx (cells_b8 k1)
    go_wp2_with first
      | ((with_reducible show wpList _ _ _ _ _ _); refine armL (.tmp 2) 25 rfl rfl rfl HLP.out ?_)
      | ((with_reducible show wpList _ _ _ _ _ _); refine armL (.tmp 3) 23 rfl rfl rfl HLX.out ?_)
    refine (HHS.out w3).mono ?_
    rintro e w4 ⟨rfl, hB4⟩
    have m0 := (hB4.block w.heap.size (by omega)).trans k0
    have m1 := (hB4.block (w.heap.size + 1) (by omega)).trans k1
    have m2 := (hB4.block (w.heap.size + 2) (by omega)).trans k2
    have hBw4 := hBw3.trans (hB4.mono (by omega))
    have hz4 : w.heap.size + 3 ≤ w4.heap.size := by have := hB4.size; omega
    clear HHS HLP HLX k0 k1 k2 hBw3 hB4
    cases hh : has6 l n x with
    | false =>
      have hE : getE l n x = AE4 zeroA4 82 := by
        have e : getErr l n x = 82 := by unfold getErr; rw [if_neg (by simpa using h0), if_pos hh]
        unfold getE
        rw [e]
        rfl
      rw [hE] at HQ
      clear hE
      obtain ⟨wE, hst, bE, honE⟩ := box_store Tryd.sizeOf27 m2 rfl zero4L rfl (by simp [Value.oneCell'])
      have hlv := agg_loadVar (t := 27) Tryd.isAgg27 Tryd.sizeOf27 rfl (CellsAt.of_blk bE)
      have HBE : Hid (Below w.heap.size w wE) := hBw4.trans (honE.below (by omega))
      have HSQ : Hid _ := hst
      have HLV : Hid _ := hlv
      clear hst hlv bE honE
      go_wp2_with ((with_reducible show wpList _ _ _ _ _ _); refine armS (.tmp 4) (.tmp 26) 27 rfl rfl rfl rfl HSQ.out ?_)
      refine bodyPost_ret (res2c Tryd.results17 rfl HLV.out) rfl ?_
      rw [← HQ.out]
      exact ⟨rfl, HBE.out⟩
    | true =>
      by_cases h8 : x.getD 8 0 = 0
      · have hE : getE l n x = AE4 (getL x (plc n)) 0 := by
          have e : getErr l n x = 0 := by unfold getErr; rw [if_neg (by simpa using h0), if_neg (by rw [hh]; simp), if_neg (by simpa using h8)]
          unfold getE
          rw [e]
          rfl
        rw [hE] at HQ
        have q8 : (x.getD 8 0 != 0) = false := by simpa using h8
        have c8 := arr_cell hx m1 8 (by decide)
        have c16 := (CellsAt.pfx hl m0).2.2
        obtain ⟨N, hN⟩ : ∃ N : Nat, n = (N : Int) := ⟨n.toNat, by have := lenOk_six g2; omega⟩
        subst hN
        have hPl := plc_all g2
        have hmv := get_moved hPl hfx
        have hn128 : N ≤ 96 := by have := lenOk_six g2; omega
        rw [← hmv] at HQ
        have hx8 : 0 ≤ x.getD 8 0 ∧ x.getD 8 0 < 256 := by rw [h8]; decide
        clear hE h8 hh hmv h0 g1 g2 g3
        generalize x.getD 8 0 = x8 at *
        obtain ⟨w5, hst5, b5, hB5⟩ := box_new Tryd.sizeOf27 w4 zero4L rfl (b8 zeroA4) rfl (b8_one _)
        have HS5 : Hid _ := hst5
        have c165 := (hB5.cell (p := ⟨w.heap.size, 16, none⟩) (by show w.heap.size < w4.heap.size; omega)).trans c16
        have a1 := (hB5.block (w.heap.size + 1) (by omega)).trans m1
        have a2 := (hB5.block (w.heap.size + 2) (by omega)).trans m2
        have hBw5 := hBw4.trans (hB5.mono (by omega))
        have G5 : OwnG w5 w4.heap.size zeroA4 := OwnG.of_blk b5
        clear hst5
        go_wp2_with ((with_reducible show wpList _ _ _ _ _ _); refine armS (.tmp 9) (.tmp 31) 27 rfl rfl rfl rfl HS5.out ?_)
        clear HS5 c16 c8 m0 m1 m2 hBw4
        go_loopw [10] (fun i wr => ∃ k : Nat, k ≤ 32 ∧ i = .int .i64 k ∧ OwnG wr w4.heap.size (mvK zeroA4 x (fun i => i) (plN N) k) ∧ Only w4.heap.size w5 wr) (fun i _ => 32 - (intOf i).toNat)
        case atStart => exact ⟨0, Nat.zero_le _, rfl, G5, Only.refl _ _⟩
        case round =>
          obtain ⟨k, hk, rfl, ho, hon⟩ := hrel
          by_cases hlt : k < 32
          · have na := ((hon.below (B := w4.heap.size) (Nat.le_refl _)).block (w.heap.size + 1) (by omega)).trans a1
            have hga : OwnG wr (w.heap.size + 1) x := OwnG.of_blk na
            have c16r := ((hon.below (B := w4.heap.size) (Nat.le_refl _)).cell (p := ⟨w.heap.size, 16, none⟩) (by show w.heap.size < w4.heap.size; omega)).trans c165
            have hpl128 := hPl.lt k hlt
            have hpc := place_ref (N : Int) (k : Int) wr (by omega) (by omega)
            have hpe : (if (N : Int) ≤ 64 ∧ 64 ≤ (N : Int) + k then (N : Int) + k + 8 else (N : Int) + k) = ((plN N k : Nat) : Int) := by
              unfold plN
              by_cases c : N ≤ 64 ∧ 64 ≤ N + k
              · rw [if_pos (by omega), if_pos c]; omega
              · rw [if_neg (by omega), if_neg c]; omega
            rw [hpe] at hpc
            have HPC : Hid _ := hpc
            have hcc := hga.cell (plN N k / 8) (by omega)
            have hfit := fit_at hfx (plN N k / 8)
            have hbit := lbit_u8 (x[plN N k / 8]?.getD 0) (7 - plN N k % 8) hfit.1 hfit.2
            have hbn : bitN x (plN N k) = bk (x[plN N k / 8]?.getD 0).toNat (7 - plN N k % 8) := rfl
            have hb2 := bitN_lt x (plN N k)
            rw [← hbn] at hbit
            have hm : mvK zeroA4 x (fun i => i) (plN N) (k + 1) = if bitN x (plN N k) = 1 then setL (mvK zeroA4 x (fun i => i) (plN N) k) k 1 else mvK zeroA4 x (fun i => i) (plN N) k := rfl
            have hzf : FitB zeroA4 := by intro z hz; simp at hz; subst hz; decide
            have hmf := mvK_fit (src := x) hzf (fun i => i) (plN N) k
            have hml : (mvK zeroA4 x (fun i => i) (plN N) k).length = 4 := mvK_length zeroA4 x (fun i => i) (plN N) k
            clear hpc hpe na hga hbn
            generalize hy : mvK zeroA4 x (fun i => i) (plN N) (k + 1) = y at *
            have HY : Hid _ := hy
            clear hy
            have hbb : bitN x (plN N k) = 0 ∨ bitN x (plN N k) = 1 := by omega
            rcases hbb with hb0 | hb1
            · rw [hb0, if_neg (by decide)] at hm
              rw [hb0] at hbit
              rw [← hm] at ho
              have HO : Hid _ := ho
              clear ho hm hb0 hb2 hmf hml
              generalize x[plN N k / 8]?.getD 0 = z at *
              generalize plN N k = K at *
              go_wp2_with fail
              refine Calls.mono HPC.out ?_
              rintro e w9 ⟨rfl, rfl⟩
              go_wp2
              refine ⟨⟨k + 1, by omega, by simp, ?_, hon⟩, by simp [intOf]; omega⟩
              rw [HY.out]
              exact ⟨HO.out.typed, HO.out.cell⟩
            · rw [hb1, if_pos rfl] at hm
              rw [hb1] at hbit
              generalize mvK zeroA4 x (fun i => i) (plN N) k = u at *
              have hset : y = u.set (k / 8) ((setN (u[k / 8]?.getD 0).toNat (7 - k % 8) 1 : Nat) : Int) := hm
              have hfx2 := fit_at hmf (k / 8)
              have hcx := ho.cell (k / 8) (by omega)
              have hop := ho.open (k / 8)
              have hos := ho.set (k / 8) (by omega)
              have han := or_one (u[k / 8]?.getD 0) (7 - k % 8) (by omega) hfx2
              have hwr := wrap_u8 (7 - k % 8) (by omega)
              have h256 := pow256 (7 - k % 8) (by omega)
              generalize u[k / 8]?.getD 0 = zx at *
              generalize setN zx.toNat (7 - k % 8) 1 = sx at *
              have HS : Hid _ := hset
              have HO : Hid _ := hos
              have HON : Hid _ := hon
              clear hset hos hm hmf hml ho hb1 hb2 hon
              generalize x[plN N k / 8]?.getD 0 = z at *
              generalize plN N k = K at *
              go_wp2_with fail
              refine Calls.mono HPC.out ?_
              rintro e w9 ⟨rfl, rfl⟩
              go_wp2
              go_region
              go_wp2
              refine ⟨⟨k + 1, by omega, by simp, ?_, (HON.out.set _ _).drew⟩, by simp [intOf]; omega⟩
              rw [HY.out, HS.out]
              have ho2 := HO.out (sx : Int)
              exact ⟨ho2.typed, ho2.cell⟩
          · obtain rfl : k = 32 := by omega
            have hln : (mvK zeroA4 x (fun i => i) (plN N) 32).length = 4 := mvK_length zeroA4 x (fun i => i) (plN N) 32
            have hbR := ((hon.below (B := w4.heap.size) (Nat.le_refl _)).block (w.heap.size + 2) (by omega)).trans a2
            have hBR : Below w.heap.size w wr := hBw5.trans (hon.below (by omega))
            have hL := agg_load (t := 27) Tryd.isAgg27 Tryd.sizeOf27 (vs := u8s (mvK zeroA4 x (fun i => i) (plN N) 32)) (by rw [u8s_length, hln]) ho.cells
            obtain ⟨wE, hst, bE, honE⟩ := box_store Tryd.sizeOf27 hbR rfl (u8s (mvK zeroA4 x (fun i => i) (plN N) 32)) (by rw [u8s_length, hln]) (u8s_one _)
            have hlv := agg_loadVar (t := 27) Tryd.isAgg27 Tryd.sizeOf27 (by rw [u8s_length, hln]) (CellsAt.of_blk bE)
            have HBE : Hid (Below w.heap.size w wE) := hBR.trans (honE.below (by omega))
            have HL : Hid _ := hL
            have HSQ : Hid _ := hst
            have HLV : Hid _ := hlv
            clear hL hst hlv bE honE hbR hBR ho hon
            generalize mvK zeroA4 x (fun i => i) (plN N) 32 = y at *
            go_wp2_with first
              | ((with_reducible show wpList _ _ _ _ _ _); refine armL (.tmp 9) 27 rfl rfl rfl HL.out ?_)
              | ((with_reducible show wpList _ _ _ _ _ _); refine armS (.tmp 4) (.tmp 62) 27 rfl rfl rfl rfl HSQ.out ?_)
            refine bodyPost_ret (res2c Tryd.results17 rfl HLV.out) rfl ?_
            rw [← HQ.out]
            exact ⟨rfl, HBE.out⟩
      · have hE : getE l n x = AE4 zeroA4 81 := by
          have e : getErr l n x = 81 := by unfold getErr; rw [if_neg (by simpa using h0), if_neg (by rw [hh]; simp), if_pos h8]
          unfold getE
          rw [e]
          rfl
        rw [hE] at HQ
        have q8 : (x.getD 8 0 != 0) = true := by simpa using h8
        have c8 := arr_cell hx m1 8 (by decide)
        have hx8 : 0 ≤ x.getD 8 0 ∧ x.getD 8 0 < 256 := by
          have hh : x[8]? = some (x[8]'(by omega)) := by simp [hx]
          rw [List.getD_eq_getElem?_getD, hh]
          exact hfx _ (List.getElem_mem _)
        clear hE h8 hh
        generalize x.getD 8 0 = x8 at *
        obtain ⟨wE, hst, bE, honE⟩ := box_store Tryd.sizeOf27 m2 rfl zero4L rfl (by simp [Value.oneCell'])
        have hlv := agg_loadVar (t := 27) Tryd.isAgg27 Tryd.sizeOf27 rfl (CellsAt.of_blk bE)
        have HBE : Hid (Below w.heap.size w wE) := hBw4.trans (honE.below (by omega))
        have HSQ : Hid _ := hst
        have HLV : Hid _ := hlv
        clear hst hlv bE honE
        go_wp2_with ((with_reducible show wpList _ _ _ _ _ _); refine armS (.tmp 4) (.tmp 30) 27 rfl rfl rfl rfl HSQ.out ?_)
        refine bodyPost_ret (res2c Tryd.results17 rfl HLV.out) rfl ?_
        rw [← HQ.out]
        exact ⟨rfl, HBE.out⟩
  · have hE : getE l n x = AE4 zeroA4 (chkE l n) := by
      have e : getErr l n x = chkE l n := by unfold getErr; rw [if_pos h0]
      unfold getE
      rw [e, if_neg h0]
    rw [hE] at HQ
    have q0 : (chkE l n != 0) = true := by simpa using h0
    have m2 := k2
    have hBw4 := hBw3
    clear hE hhs
    generalize chkE l n = ce at *
    obtain ⟨wE, hst, bE, honE⟩ := box_store Tryd.sizeOf27 m2 rfl zero4L rfl (by simp [Value.oneCell'])
    have hlv := agg_loadVar (t := 27) Tryd.isAgg27 Tryd.sizeOf27 rfl (CellsAt.of_blk bE)
    have HBE : Hid (Below w.heap.size w wE) := hBw4.trans (honE.below (by omega))
    have HSQ : Hid _ := hst
    have HLV : Hid _ := hlv
    clear hst hlv bE honE
    go_wp2_with ((with_reducible show wpList _ _ _ _ _ _); refine armS (.tmp 4) (.tmp 16) 27 rfl rfl rfl rfl HSQ.out ?_)
    refine bodyPost_ret (res2c Tryd.results17 rfl HLV.out) rfl ?_
    rw [← HQ.out]
    exact ⟨rfl, HBE.out⟩

end Go.Proofs.YtfiiopgdgfbkkaaDoor
