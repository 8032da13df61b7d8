/-
  Package embed: Get.
-/
import Derived.Test.YtfiiopgdgfbkkaaDoorQc3
import Derived.Test.YtfiiopgdgfbkkaaDoorQb4
namespace Go.Proofs.YtfiiopgdgfbkkaaDoor
set_option linter.unusedVariables false
set_option linter.unusedSimpArgs false
open Go Go.RowKit

def getL (x : List Int) (ps : List Nat) : List Int := ps.map (fun p => x.getD p 0)
/-- The first k of four bytes that are got. -/
def gotK (g : List Int) (k : Nat) : List Int := g.take k ++ List.replicate (4 - k) 0
abbrev zeroA4 : List Int := [0, 0, 0, 0]

def getErr (l : List Int) (n : Int) (x : List Int) : Int := if chkE l n ≠ 0 then chkE l n else if has6 l n x = false then 82 else if x.getD 8 0 ≠ 0 then 81 else 0
def getE (l : List Int) (n : Int) (x : List Int) : Value := AE4 (if getErr l n x = 0 then getL x (plc n) else zeroA4) (getErr l n x)

theorem u8s_b8 (l : List Int) : u8s l = b8 l := rfl
theorem arr_cell {w : World} {b : Nat} {l : List Int} {t : TypeId} (hl : l.length = 16) (h : w.heap[b]? = some (.cells (b8 l).toArray t)) (j : Nat) (hj : j < 16) : w.cell? ⟨b, j, none⟩ = some (.int .u8 (l.getD j 0)) := by
  refine blk_cell h ?_
  have hx : l[j]? = some (l[j]'(by omega)) := by simp [hl, hj]
  rw [b8, List.getElem?_map, hx, List.getD_eq_getElem?_getD, hx]
  rfl

set_option maxHeartbeats 1000000 in
set_option maxRecDepth 100000 in
theorem Get_any (l : List Int) (n : Int) (x : List Int) (w : World) (hf : FitB l) (hl : l.length = 16) (hb : -9223372036854775808 ≤ n ∧ n ≤ 9223372036854775807) (hx : x.length = 16) (hfx : FitB x) :
    Calls Tryd.prog 16 #[P6 l n, A6 x] w fun e w' => PutPost (getE l n x) w e w' := by
  generalize hQ : (fun e w' => PutPost (getE l n x) w e w') = Q
  have HQ : Hid _ := hQ
  clear hQ
  have hck := fun W => Check_any l n W hf hl hb
  have hhs := fun W => Has6_calls l n x W hf hl hfx hx hb
  obtain ⟨hb0, hb1, hb2, hBw, hz⟩ := boxes3 w (cp6 l n) (u8s x) zero4L 25 23 27
  generalize hW : ((w.alloc (.cells (cp6 l n).toArray 25)).alloc (.cells (u8s x).toArray 23)).alloc (.cells zero4L.toArray 27) = W2 at *
  rw [u8s_b8] at hb1
  have HL : Hid _ := loadP6 hl (CellsAt.pfx hl hb0).1
  have HC : Hid _ := hck
  have HZ : Hid _ := hz
  clear hck hz
  go_enter Tryd.func16, Tryd.ntmps16
  go_wp2_with ((with_reducible show wpList _ _ _ _ _ _); refine armL (.tmp 2) 25 rfl rfl rfl HL.out ?_)
  refine (HC.out W2).mono ?_
  rintro e w3 ⟨rfl, hB3⟩
  have hz := HZ.out
  have k0 := (hB3.block w.heap.size (by omega)).trans hb0
  have k1 := (hB3.block (w.heap.size + 1) (by omega)).trans hb1
  have k2 := (hB3.block (w.heap.size + 2) (by omega)).trans hb2
  have hBw3 := hBw.trans (hB3.mono (by omega))
  have hz3 : w.heap.size + 3 ≤ w3.heap.size := by have := hB3.size; omega
  clear hW HL HC hb0 hb1 hb2 hBw hB3 hz HZ
  by_cases h0 : chkE l n = 0
  · obtain ⟨g1, g2, g3⟩ := chkE_ok h0
    rw [h0]
    rw [g1] at hhs
    simp only [Bool.true_and, if_true] at hhs
    have HHS : Hid _ := hhs
    clear hhs
    have HLP : Hid _ := loadP6 hl (CellsAt.pfx hl k0).1
    have HLX : Hid _ := load6 hx (cells_b8 k1)
    go_wp2_with first
      | ((with_reducible show wpList _ _ _ _ _ _); refine armL (.tmp 2) 25 rfl rfl rfl HLP.out ?_)
      | ((with_reducible show wpList _ _ _ _ _ _); refine armL (.tmp 3) 23 rfl rfl rfl HLX.out ?_)
    refine (HHS.out w3).mono ?_
    rintro e w4 ⟨rfl, hB4⟩
    have m0 := (hB4.block w.heap.size (by omega)).trans k0
    have m1 := (hB4.block (w.heap.size + 1) (by omega)).trans k1
    have m2 := (hB4.block (w.heap.size + 2) (by omega)).trans k2
    have hBw4 := hBw3.trans (hB4.mono (by omega))
    have hz4 : w.heap.size + 3 ≤ w4.heap.size := by have := hB4.size; omega
    clear HHS HLP HLX k0 k1 k2 hBw3 hB4
    cases hh : has6 l n x with
    | false =>
      have hE : getE l n x = AE4 zeroA4 82 := by
        have e : getErr l n x = 82 := by unfold getErr; rw [if_neg (by simpa using h0), if_pos hh]
        unfold getE
        rw [e]
        rfl
      rw [hE] at HQ
      clear hE
      obtain ⟨wE, hst, bE, honE⟩ := box_store Tryd.sizeOf27 m2 rfl zero4L rfl (by simp [Value.oneCell'])
      have hlv := agg_loadVar (t := 27) Tryd.isAgg27 Tryd.sizeOf27 rfl (CellsAt.of_blk bE)
      have HBE : Hid (Below w.heap.size w wE) := hBw4.trans (honE.below (by omega))
      have HSQ : Hid _ := hst
      have HLV : Hid _ := hlv
      clear hst hlv bE honE
      go_wp2_with ((with_reducible show wpList _ _ _ _ _ _); refine armS (.tmp 4) (.tmp 26) 27 rfl rfl rfl rfl HSQ.out ?_)
      refine bodyPost_ret (res2c Tryd.results16 rfl HLV.out) rfl ?_
      rw [← HQ.out]
      exact ⟨rfl, HBE.out⟩
    | true =>
      by_cases h8 : x.getD 8 0 = 0
      · have hE : getE l n x = AE4 (getL x (plc n)) 0 := by
          have e : getErr l n x = 0 := by unfold getErr; rw [if_neg (by simpa using h0), if_neg (by rw [hh]; simp), if_neg (by simpa using h8)]
          unfold getE
          rw [e]
          rfl
        rw [hE] at HQ
        have q8 : (x.getD 8 0 != 0) = false := by simpa using h8
        have c8 := arr_cell hx m1 8 (by decide)
        have c16 := (CellsAt.pfx hl m0).2.2
        have hpl := fun W => places_any n W g2
        have HPL : Hid _ := hpl
        obtain ⟨p0, p1, p2, p3, hpp, e0, e1, e2, e3⟩ := plc_lt n
        rw [hpp] at HPL HQ
        have hx8 : 0 ≤ x.getD 8 0 ∧ x.getD 8 0 < 256 := by rw [h8]; decide
        clear hE hpl hpp h8 hh
        generalize x.getD 8 0 = x8 at *
        have hbA := blk_new w4 (.cells zero4L.toArray 27)
        have hBA := (Below.refl w4.heap.size w4).alloc (Nat.le_refl _) (.cells zero4L.toArray 27)
        have c16A : (w4.alloc (.cells zero4L.toArray 27)).cell? ⟨w.heap.size, 16, none⟩ = some (.int .i64 n) := (hBA.cell (p := ⟨w.heap.size, 16, none⟩) (by show w.heap.size < w4.heap.size; omega)).trans c16
        have a1 := (hBA.block (w.heap.size + 1) (by omega)).trans m1
        have a2 := (hBA.block (w.heap.size + 2) (by omega)).trans m2
        have hBwA := hBw4.trans (hBA.mono (by omega))
        generalize hWA : w4.alloc (.cells zero4L.toArray 27) = WA at *
        go_wp2_with fail
        have hpl2 : ∀ W, Calls Tryd.prog 28 #[.int .i64 n] W fun e w' => e = .returned (.agg #[.int .i64 (p0 : Nat), .int .i64 (p1 : Nat), .int .i64 (p2 : Nat), .int .i64 (p3 : Nat)]) ∧ Below W.heap.size W w' := HPL.out
        refine (hpl2 WA).mono ?_
        rintro e w5 ⟨rfl, hB5⟩
        have hltA : w4.heap.size < WA.heap.size := (Array.getElem?_eq_some_iff.1 hbA).1
        have b5 := (hB5.block w4.heap.size hltA).trans hbA
        have n1 := (hB5.block (w.heap.size + 1) (by omega)).trans a1
        have n2 := (hB5.block (w.heap.size + 2) (by omega)).trans a2
        have hBw5 := hBwA.trans (hB5.mono (by omega))
        clear hpl2 HPL c16 c16A c8 m0 m1 m2 a1 a2 hBw4 hBwA hB5 hbA hBA hWA
        go_wp2
        go_loopw [34] (fun i wr => ∃ k : Nat, k ≤ 4 ∧ i = .int .i64 k ∧ wr.heap[w4.heap.size]? = some (.cells (b8 (gotK (getL x [p0, p1, p2, p3]) k)).toArray 27) ∧ Only w4.heap.size w5 wr) (fun i _ => 4 - (intOf i).toNat)
        case atStart => exact ⟨0, Nat.zero_le _, rfl, b5, Only.refl _ _⟩
        case round =>
          obtain ⟨k, hk, rfl, hbk, hon⟩ := hrel
          by_cases hlt : k < 4
          · have hkk : k = 0 ∨ k = 1 ∨ k = 2 ∨ k = 3 := by omega
            have ff := blk_open hbk
            have na := ((hon.below (B := w4.heap.size) (Nat.le_refl _)).block (w.heap.size + 1) (by omega)).trans n1
            rcases hkk with rfl | rfl | rfl | rfl
            · have r1 := arr_cell hx na p0 e0
              have r2 := blk_cell hbk (j := 0) rfl
              obtain ⟨z, hzz⟩ : ∃ z, z = x.getD p0 0 := ⟨_, rfl⟩
              rw [← hzz] at r1
              have HZZ : Hid _ := hzz
              have HS : Hid _ := blk_set hbk 0 (.int .u8 z)
              have HO : Hid _ := hon.set 0 (.int .u8 z)
              have q : ((p0 : Nat) : Int) < 16 := by omega
              clear hbk hon na hk hlt n1 n2 hzz
              go_wp2_with ((with_reducible show wpList _ _ _ _ _ _); refine armV (Op.index 51 (.tmp 33) (.tmp 34)) rfl rfl (v := .int .i64 (p0 : Nat)) (by kernel_rfl) ?_)
              refine ⟨⟨1, by decide, by simp, ?_, HO.out⟩, by simp [intOf]⟩
              have hzz := HZZ.out
              subst hzz
              exact HS.out
            · have r1 := arr_cell hx na p1 e1
              have r2 := blk_cell hbk (j := 1) rfl
              obtain ⟨z, hzz⟩ : ∃ z, z = x.getD p1 0 := ⟨_, rfl⟩
              rw [← hzz] at r1
              have HZZ : Hid _ := hzz
              have HS : Hid _ := blk_set hbk 1 (.int .u8 z)
              have HO : Hid _ := hon.set 1 (.int .u8 z)
              have q : ((p1 : Nat) : Int) < 16 := by omega
              clear hbk hon na hk hlt n1 n2 hzz
              go_wp2_with ((with_reducible show wpList _ _ _ _ _ _); refine armV (Op.index 51 (.tmp 33) (.tmp 34)) rfl rfl (v := .int .i64 (p1 : Nat)) (by kernel_rfl) ?_)
              refine ⟨⟨2, by decide, by simp, ?_, HO.out⟩, by simp [intOf]⟩
              have hzz := HZZ.out
              subst hzz
              exact HS.out
            · have r1 := arr_cell hx na p2 e2
              have r2 := blk_cell hbk (j := 2) rfl
              obtain ⟨z, hzz⟩ : ∃ z, z = x.getD p2 0 := ⟨_, rfl⟩
              rw [← hzz] at r1
              have HZZ : Hid _ := hzz
              have HS : Hid _ := blk_set hbk 2 (.int .u8 z)
              have HO : Hid _ := hon.set 2 (.int .u8 z)
              have q : ((p2 : Nat) : Int) < 16 := by omega
              clear hbk hon na hk hlt n1 n2 hzz
              go_wp2_with ((with_reducible show wpList _ _ _ _ _ _); refine armV (Op.index 51 (.tmp 33) (.tmp 34)) rfl rfl (v := .int .i64 (p2 : Nat)) (by kernel_rfl) ?_)
              refine ⟨⟨3, by decide, by simp, ?_, HO.out⟩, by simp [intOf]⟩
              have hzz := HZZ.out
              subst hzz
              exact HS.out
            · have r1 := arr_cell hx na p3 e3
              have r2 := blk_cell hbk (j := 3) rfl
              obtain ⟨z, hzz⟩ : ∃ z, z = x.getD p3 0 := ⟨_, rfl⟩
              rw [← hzz] at r1
              have HZZ : Hid _ := hzz
              have HS : Hid _ := blk_set hbk 3 (.int .u8 z)
              have HO : Hid _ := hon.set 3 (.int .u8 z)
              have q : ((p3 : Nat) : Int) < 16 := by omega
              clear hbk hon na hk hlt n1 n2 hzz
              go_wp2_with ((with_reducible show wpList _ _ _ _ _ _); refine armV (Op.index 51 (.tmp 33) (.tmp 34)) rfl rfl (v := .int .i64 (p3 : Nat)) (by kernel_rfl) ?_)
              refine ⟨⟨4, by decide, by simp, ?_, HO.out⟩, by simp [intOf]⟩
              have hzz := HZZ.out
              subst hzz
              exact HS.out
          · obtain rfl : k = 4 := by omega
            have e4 : gotK (getL x [p0, p1, p2, p3]) 4 = getL x [p0, p1, p2, p3] := rfl
            rw [e4] at hbk
            have hbR := ((hon.below (B := w4.heap.size) (Nat.le_refl _)).block (w.heap.size + 2) (by omega)).trans n2
            have hBR : Below w.heap.size w wr := hBw5.trans (hon.below (by omega))
            have hL := agg_load (t := 27) Tryd.isAgg27 Tryd.sizeOf27 rfl (CellsAt.of_blk hbk)
            obtain ⟨wE, hst, bE, honE⟩ := box_store Tryd.sizeOf27 hbR rfl (b8 (getL x [p0, p1, p2, p3])) rfl (b8_one _)
            have hlv := agg_loadVar (t := 27) Tryd.isAgg27 Tryd.sizeOf27 rfl (CellsAt.of_blk bE)
            have HBE : Hid (Below w.heap.size w wE) := hBR.trans (honE.below (by omega))
            have HL : Hid _ := hL
            have HSQ : Hid _ := hst
            have HLV : Hid _ := hlv
            clear hL hst hlv bE honE hbR hBR hbk hon e4
            go_wp2_with first
              | ((with_reducible show wpList _ _ _ _ _ _); refine armL (.tmp 9) 27 rfl rfl rfl HL.out ?_)
              | ((with_reducible show wpList _ _ _ _ _ _); refine armS (.tmp 4) (.tmp 44) 27 rfl rfl rfl rfl HSQ.out ?_)
            refine bodyPost_ret (res2c Tryd.results16 rfl HLV.out) rfl ?_
            rw [← HQ.out]
            exact ⟨rfl, HBE.out⟩
      · have hE : getE l n x = AE4 zeroA4 81 := by
          have e : getErr l n x = 81 := by unfold getErr; rw [if_neg (by simpa using h0), if_neg (by rw [hh]; simp), if_pos h8]
          unfold getE
          rw [e]
          rfl
        rw [hE] at HQ
        have q8 : (x.getD 8 0 != 0) = true := by simpa using h8
        have c8 := arr_cell hx m1 8 (by decide)
        have hx8 : 0 ≤ x.getD 8 0 ∧ x.getD 8 0 < 256 := by
          have hh : x[8]? = some (x[8]'(by omega)) := by simp [hx]
          rw [List.getD_eq_getElem?_getD, hh]
          exact hfx _ (List.getElem_mem _)
        clear hE h8 hh
        generalize x.getD 8 0 = x8 at *
        obtain ⟨wE, hst, bE, honE⟩ := box_store Tryd.sizeOf27 m2 rfl zero4L rfl (by simp [Value.oneCell'])
        have hlv := agg_loadVar (t := 27) Tryd.isAgg27 Tryd.sizeOf27 rfl (CellsAt.of_blk bE)
        have HBE : Hid (Below w.heap.size w wE) := hBw4.trans (honE.below (by omega))
        have HSQ : Hid _ := hst
        have HLV : Hid _ := hlv
        clear hst hlv bE honE
        go_wp2_with ((with_reducible show wpList _ _ _ _ _ _); refine armS (.tmp 4) (.tmp 30) 27 rfl rfl rfl rfl HSQ.out ?_)
        refine bodyPost_ret (res2c Tryd.results16 rfl HLV.out) rfl ?_
        rw [← HQ.out]
        exact ⟨rfl, HBE.out⟩
  · have hE : getE l n x = AE4 zeroA4 (chkE l n) := by
      have e : getErr l n x = chkE l n := by unfold getErr; rw [if_pos h0]
      unfold getE
      rw [e, if_neg h0]
    rw [hE] at HQ
    have q0 : (chkE l n != 0) = true := by simpa using h0
    have m2 := k2
    have hBw4 := hBw3
    clear hE hhs
    generalize chkE l n = ce at *
    obtain ⟨wE, hst, bE, honE⟩ := box_store Tryd.sizeOf27 m2 rfl zero4L rfl (by simp [Value.oneCell'])
    have hlv := agg_loadVar (t := 27) Tryd.isAgg27 Tryd.sizeOf27 rfl (CellsAt.of_blk bE)
    have HBE : Hid (Below w.heap.size w wE) := hBw4.trans (honE.below (by omega))
    have HSQ : Hid _ := hst
    have HLV : Hid _ := hlv
    clear hst hlv bE honE
    go_wp2_with ((with_reducible show wpList _ _ _ _ _ _); refine armS (.tmp 4) (.tmp 16) 27 rfl rfl rfl rfl HSQ.out ?_)
    refine bodyPost_ret (res2c Tryd.results16 rfl HLV.out) rfl ?_
    rw [← HQ.out]
    exact ⟨rfl, HBE.out⟩

end Go.Proofs.YtfiiopgdgfbkkaaDoor
