/-
  The document's Put.
-/
import Derived.Test.YtfiiopgdgfbkkaaDoorQf0
namespace Go.Proofs.YtfiiopgdgfbkkaaDoor
set_option linter.unusedVariables false
set_option linter.unusedSimpArgs false
open Go Go.RowKit

set_option maxHeartbeats 2000000 in
set_option maxRecDepth 100000 in
theorem RPut_any (l : List Int) (n : Int) (a : List Int) (w : World) (hf : FitB l) (hl : l.length = 16) (hb : -9223372036854775808 ≤ n ∧ n ≤ 9223372036854775807) (ha : a.length = 4) (hfa : FitB a) :
    Calls Tryd.prog 10 #[P6 l n, A4L a] w fun e w' => PutPost (putE l n a) w e w' := by
  generalize hQ : (fun e w' => PutPost (putE l n a) w e w') = Q
  have HQ : Hid _ := hQ
  clear hQ
  obtain ⟨a0, a1, a2, a3, rfl⟩ := list4 ha
  have hck := fun W => RCheckE_any l n W hf hl hb
  obtain ⟨hb0, hb1, hb2, hBw, hz⟩ := boxes3 w (cp6 l n) (b8 [a0, a1, a2, a3]) zero16V 25 27 23
  generalize hW : ((w.alloc (.cells (cp6 l n).toArray 25)).alloc (.cells (b8 [a0, a1, a2, a3]).toArray 27)).alloc (.cells zero16V.toArray 23) = W2 at *
  have HL : Hid _ := loadP6 hl (CellsAt.pfx hl hb0).1
  have HC : Hid _ := hck
  have HZ : Hid _ := hz
  clear hck hz
  go_enter Tryd.func10, Tryd.ntmps10
  go_wp2_with ((with_reducible show wpList _ _ _ _ _ _); refine armL (.tmp 2) 25 rfl rfl rfl HL.out ?_)
  refine (HC.out W2).mono ?_
  rintro e w3 ⟨rfl, hB3⟩
  have hz := HZ.out
  have k0 := (hB3.block w.heap.size (by omega)).trans hb0
  have k1 := (hB3.block (w.heap.size + 1) (by omega)).trans hb1
  have k2 := (hB3.block (w.heap.size + 2) (by omega)).trans hb2
  have hBw3 := hBw.trans (hB3.mono (by omega))
  have hz3 : w.heap.size + 3 ≤ w3.heap.size := by have := hB3.size; omega
  clear hW HL HC hb0 hb1 hb2 hBw hB3 hz HZ
  by_cases h0 : chkE l n = 0
  · obtain ⟨g1, g2, g3⟩ := chkE_ok h0
    have hpE : putE l n [a0, a1, a2, a3] = AE6 (putL l n [a0, a1, a2, a3]) 0 := by unfold putE; rw [if_pos h0, h0]
    rw [hpE] at HQ
    rw [h0]
    obtain ⟨N, hN⟩ : ∃ N : Nat, n = (N : Int) := ⟨n.toNat, by have := lenOk_six g2; omega⟩
    subst hN
    have hmv := put_moved hl hf h0 ha hfa
    have hPl := plc_all g2
    have hn128 : N ≤ 96 := by have := lenOk_six g2; omega
    rw [← hmv] at HQ
    have hfa' := hfa
    clear hpE h0 g1 g3 g2 hmv
    have c16 := (CellsAt.pfx hl k0).2.2
    have HL2 : Hid _ := load6 hl (CellsAt.pfx hl k0).2.1
    obtain ⟨w4, hst, b4, hB4⟩ := box_new Tryd.sizeOf23 w3 zero16V rfl (b8 l) (by rw [b8_length, hl]) (b8_one _)
    have HST : Hid _ := hst
    have m1 := (hB4.block (w.heap.size + 1) (by omega)).trans k1
    have m2 := (hB4.block (w.heap.size + 2) (by omega)).trans k2
    have c164 := (hB4.cell (p := ⟨w.heap.size, 16, none⟩) (by show w.heap.size < w3.heap.size; omega)).trans c16
    have hBw4 := hBw3.trans (hB4.mono (by omega))
    have hlt4 : w3.heap.size < w4.heap.size := (Array.getElem?_eq_some_iff.1 b4).1
    have G4 : OwnG w4 w3.heap.size l := OwnG.of_blk b4
    clear hst k1 k2 k0 hBw3
    go_wp2_with first
      | ((with_reducible show wpList _ _ _ _ _ _); refine armL (.tmp 16) 23 rfl rfl rfl HL2.out ?_)
      | ((with_reducible show wpList _ _ _ _ _ _); refine armS (.tmp 7) (.tmp 17) 23 rfl rfl rfl rfl HST.out ?_)
    generalize hA : [a0, a1, a2, a3] = A at *
    have HAA : Hid _ := hA
    clear HST HL2 hA
    go_loopw [8] (fun i wr => ∃ k : Nat, k ≤ 32 ∧ i = .int .i64 k ∧ OwnG wr w3.heap.size (mvK l A (plN N) (fun i => i) k) ∧ Only w3.heap.size w4 wr) (fun i _ => 32 - (intOf i).toNat)
    case atStart => exact ⟨0, Nat.zero_le _, rfl, G4, Only.refl _ _⟩
    case round =>
      obtain ⟨k, hk, rfl, ho, hon⟩ := hrel
      by_cases hlt : k < 32
      · have na := ((hon.below (B := w3.heap.size) (Nat.le_refl _)).block (w.heap.size + 1) (by omega)).trans m1
        have hga : OwnG wr (w.heap.size + 1) A := OwnG.of_blk na
        have hcc := hga.cell (k / 8) (by omega)
        have c16r := ((hon.below (B := w3.heap.size) (Nat.le_refl _)).cell (p := ⟨w.heap.size, 16, none⟩) (by show w.heap.size < w3.heap.size; omega)).trans c164
        have hfit := fit_at hfa (k / 8)
        have hbit := lbit_u8 (A[k / 8]?.getD 0) (7 - k % 8) hfit.1 hfit.2
        have hbn : bitN A k = bk (A[k / 8]?.getD 0).toNat (7 - k % 8) := rfl
        have hb2 := bitN_lt A k
        rw [← hbn] at hbit
        have hm : mvK l A (plN N) (fun i => i) (k + 1) = if bitN A k = 1 then setL (mvK l A (plN N) (fun i => i) k) (plN N k) 1 else mvK l A (plN N) (fun i => i) k := rfl
        have hmf := mvK_fit (src := A) hf (plN N) (fun i => i) k
        have hml := mvK_length l A (plN N) (fun i => i) k
        rw [hl] at hml
        have hpl128 := hPl.lt k hlt
        have hpc := place_ref (N : Int) (k : Int) wr (by omega) (by omega)
        have hpe : (if (N : Int) ≤ 64 ∧ 64 ≤ (N : Int) + k then (N : Int) + k + 8 else (N : Int) + k) = ((plN N k : Nat) : Int) := by
          unfold plN
          by_cases c : N ≤ 64 ∧ 64 ≤ N + k
          · rw [if_pos (by omega), if_pos c]; omega
          · rw [if_neg (by omega), if_neg c]; omega
        rw [hpe] at hpc
        have HPC : Hid _ := hpc
        clear hpc hpe na hga hbn
        generalize A[k / 8]?.getD 0 = z at *
        have hbb : bitN A k = 0 ∨ bitN A k = 1 := by omega
        rcases hbb with hb0 | hb1
        · rw [hb0, if_neg (by decide)] at hm
          rw [hb0] at hbit
          rw [← hm] at ho
          have HO : Hid _ := ho
          clear ho hm hb0 hb2 HPC hmf hml
          go_wp2
          exact ⟨⟨k + 1, by omega, by simp, ⟨HO.out.typed, HO.out.cell⟩, hon⟩, by simp [intOf]; omega⟩
        · rw [hb1, if_pos rfl] at hm
          rw [hb1] at hbit
          generalize hy : mvK l A (plN N) (fun i => i) (k + 1) = y at *
          have HY : Hid _ := hy
          clear hy
          generalize mvK l A (plN N) (fun i => i) k = x at *
          have hset : y = x.set (plN N k / 8) ((setN (x[plN N k / 8]?.getD 0).toNat (7 - plN N k % 8) 1 : Nat) : Int) := hm
          generalize plN N k = K at *
          have hfx := fit_at hmf (K / 8)
          have hcx := ho.cell (K / 8) (by omega)
          have hop := ho.open (K / 8)
          have hos := ho.set (K / 8) (by omega)
          have han := or_one (x[K / 8]?.getD 0) (7 - K % 8) (by omega) hfx
          have hwr := wrap_u8 (7 - K % 8) (by omega)
          have h256 := pow256 (7 - K % 8) (by omega)
          generalize x[K / 8]?.getD 0 = zx at *
          generalize setN zx.toNat (7 - K % 8) 1 = sx at *
          have HS : Hid _ := hset
          have HO : Hid _ := hos
          have HON : Hid _ := hon
          clear hset hos hm hmf hml ho hb1 hb2 hon
          go_wp2_with fail
          refine Calls.mono HPC.out ?_
          rintro e w9 ⟨rfl, rfl⟩
          go_wp2
          go_region
          go_wp2
          refine ⟨⟨k + 1, by omega, by simp, ?_, (HON.out.set _ _).drew⟩, by simp [intOf]; omega⟩
          rw [HY.out, HS.out]
          have ho2 := HO.out (sx : Int)
          exact ⟨ho2.typed, ho2.cell⟩
      · obtain rfl : k = 32 := by omega
        have hln := mvK_length l A (plN N) (fun i => i) 32
        rw [hl] at hln
        have hbR := ((hon.below (B := w3.heap.size) (Nat.le_refl _)).block (w.heap.size + 2) (by omega)).trans m2
        have hBR : Below w.heap.size w wr := hBw4.trans (hon.below (by omega))
        have hL := load6 hln ho.cells
        obtain ⟨wE, hst, bE, honE⟩ := box_store Tryd.sizeOf23 hbR rfl (b8 (mvK l A (plN N) (fun i => i) 32)) (by rw [b8_length, hln]) (b8_one _)
        have hlv := agg_loadVar (t := 23) Tryd.isAgg23 Tryd.sizeOf23 (by rw [b8_length, hln]) (CellsAt.of_blk bE)
        have HBE : Hid (Below w.heap.size w wE) := hBR.trans (honE.below (by omega))
        have HL : Hid _ := hL
        have HSQ : Hid _ := hst
        have HLV : Hid _ := hlv
        clear hL hst hlv bE honE hbR hBR ho hon
        generalize mvK l A (plN N) (fun i => i) 32 = y at *
        go_wp2_with first
          | ((with_reducible show wpList _ _ _ _ _ _); refine armL (.tmp 7) 23 rfl rfl rfl HL.out ?_)
          | ((with_reducible show wpList _ _ _ _ _ _); refine armS (.tmp 4) (.tmp 48) 23 rfl rfl rfl rfl HSQ.out ?_)
        refine bodyPost_ret (res2c Tryd.results10 rfl HLV.out) rfl ?_
        rw [← HQ.out]
        exact ⟨rfl, HBE.out⟩
  · have hpE : putE l n [a0, a1, a2, a3] = AE6 zeroA6 (chkE l n) := by unfold putE; rw [if_neg h0]
    rw [hpE] at HQ
    have q0 : (chkE l n != 0) = true := by simpa using h0
    obtain ⟨wE, hst, bE, honE⟩ := box_store Tryd.sizeOf23 k2 rfl zero16V rfl zero16V_one
    have hlv := agg_loadVar (t := 23) Tryd.isAgg23 Tryd.sizeOf23 rfl (CellsAt.of_blk bE)
    have HBE : Hid (Below w.heap.size w wE) := hBw3.trans (honE.below (by omega))
    have HSQ : Hid _ := hst
    have HLV : Hid _ := hlv
    clear hst hlv bE honE k0 k1 k2 hBw3 hpE
    generalize chkE l n = ce at *
    go_wp2_with ((with_reducible show wpList _ _ _ _ _ _); refine armS (.tmp 4) (.tmp 14) 23 rfl rfl rfl rfl HSQ.out ?_)
    refine bodyPost_ret (res2c Tryd.results10 rfl HLV.out) rfl ?_
    rw [← HQ.out]
    exact ⟨rfl, HBE.out⟩

end Go.Proofs.YtfiiopgdgfbkkaaDoor
