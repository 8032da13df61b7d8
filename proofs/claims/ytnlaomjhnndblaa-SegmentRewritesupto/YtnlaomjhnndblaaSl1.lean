/-
  readTCP of package segment.
-/
import Derived.Test.YtnlaomjhnndblaaSk3
namespace Go.Proofs.Ytnlaomjhnndblaa
open Go Go.RowKit Go.Shelf
set_option linter.unusedVariables false
set_option linter.unusedSimpArgs false

def lg (zs : List Int) (k : Nat) : Int := wd2 zs k * 65536 + wd2 zs (k + 2)
def hdL (zs : List Int) : Int := gz zs 12 / 16 * 4
def flg (zs : List Int) : Int := gz zs 13 % 64
theorem lg_drop (zs : List Int) (n k : Nat) : lg (zs.drop n) k = lg zs (n + k) := by simp only [lg, wd2_drop, Nat.add_assoc]
theorem lg_range {zs : List Int} (h : Fit zs) (k : Nat) : 0 ≤ lg zs k ∧ lg zs k ≤ 4294967295 := by
  have h1 := wd2_range h k
  have h2 := wd2_range h (k + 2)
  unfold lg
  omega
theorem hdL_eq {zs : List Int} (h : Fit zs) : wd2 zs 12 / 4096 * 4 = hdL zs := by
  have h1 := h.gz 12
  have h2 := h.gz 13
  unfold hdL wd2
  simp only [Nat.reduceAdd]
  omega
theorem hdL_range {zs : List Int} (h : Fit zs) : 0 ≤ hdL zs ∧ hdL zs ≤ 60 := by
  have h1 := h.gz 12
  unfold hdL
  omega
theorem flg_eq {zs : List Int} (h : Fit zs) : wd2 zs 12 % 64 = flg zs := by
  have h1 := h.gz 12
  have h2 := h.gz 13
  unfold flg wd2
  simp only [Nat.reduceAdd]
  omega
theorem flg_range {zs : List Int} (h : Fit zs) : 0 ≤ flg zs ∧ flg zs ≤ 63 := by unfold flg; omega
theorem and63 (x : Int) (h : 0 ≤ x ∧ x ≤ 65535) : bits .and .u16 x 63 = x % 64 := by
  obtain ⟨n, rfl⟩ := Int.eq_ofNat_of_zero_le h.1
  have e := u16_and_nat n 63 (by omega) (by omega)
  rw [show ((63 : Nat) : Int) = 63 from rfl] at e
  rw [e, show (63 : Nat) = 2 ^ 6 - 1 from rfl, Nat.and_two_pow_sub_one_eq_mod]
  omega
theorem RdW.long' {w W : World} {R : Nat} {ty : TypeId} {ys : List Int} {b off cap : Nat} {cs : List Value} (h : RdW w W R ty ys b off cap cs) (hn : 4 ≤ ys.length) :
    Calls Try.prog 87 #[.pointer (some ⟨R, 0, none⟩)] W fun e w' => ∃ o k, e = .returned (.int .u32 (lg ys 0)) ∧ RdW w w' R ty (ys.drop 4) b o k cs :=
  h.long hn

set_option maxHeartbeats 1000000 in
set_option maxRecDepth 100000 in
theorem readTCP_short (v : Value) (zs : List Int) (w : World) (h : RowC w v zs) (hn : zs.length < 20) :
    Calls Try.prog 78 #[v] w fun e w' => Gave 11 60 e ∧ Below w.heap.size w w' := by
  obtain ⟨hf, hl, a, cap, rfl, hc, hz⟩ := h
  have q : decide ((zs.length : Int) < 20) = true := by simp; omega
  clear hz
  go_enter Try.func78, Try.ntmps78
  go_wp2
  refine bodyPost_ret (res2t rfl rfl (agg_loadVar (vs := .slice a zs.length cap :: [.int .u16 0, .int .u16 0, .int .u32 0, .int .u32 0, .int .u8 0, .int .u16 0, .int .u16 0, .slice none 0 0, .slice none 0 0, .int .i64 0]) Try.isAgg123 Try.sizeOf123 rfl (CellsAt.of_blk (blk_alloc (blk_new w _) _)))) rfl ⟨⟨_, ?_, ?_, rfl⟩, ((Below.refl _ w).alloc (Nat.le_refl _) _).alloc (by simp) _⟩
  · rfl
  · simp [Value.oneCell']

set_option maxHeartbeats 4000000 in
set_option maxRecDepth 100000 in
theorem readTCP_more (v : Value) (zs : List Int) (w : World) (h : RowC w v zs) (hn : 20 ≤ zs.length) :
    Calls Try.prog 78 #[v] w fun e w' => Below w.heap.size w w' ∧ ((¬ (20 ≤ hdL zs ∧ hdL zs ≤ zs.length) → Gave 11 61 e) ∧ (20 ≤ hdL zs ∧ hdL zs ≤ zs.length → ∃ b o k, e = .returned (.tuple #[.agg #[.slice (some ⟨b, o, none⟩) (zs.drop 20).length k, .int .u16 (wd2 zs 0), .int .u16 (wd2 zs 2), .int .u32 (lg zs 4), .int .u32 (lg zs 8), .int .u8 (flg zs), .int .u16 (wd2 zs 14), .int .u16 (wd2 zs 18), .slice none 0 0, .slice none 0 0, .int .i64 (hdL zs)], .int .i64 0]) ∧ RowS w (.slice (some ⟨b, o, none⟩) (zs.drop 20).length k) (zs.drop 20) b o k)) := by
  obtain ⟨b, off, cap, hS⟩ := h.rowS (by omega)
  have hv := hS.val
  subst hv
  clear h
  obtain ⟨Wz, hWz⟩ : ∃ Wz, (w.alloc (.cells [.slice none 0 0, .int .u16 0, .int .u16 0, .int .u32 0, .int .u32 0, .int .u8 0, .int .u16 0, .int .u16 0, .slice none 0 0, .slice none 0 0, .int .i64 0].toArray 123)).alloc (.cells [.slice none 0 0, .int .u16 0, .int .u16 0, .int .u32 0, .int .u32 0, .int .u8 0, .int .u16 0, .int .u16 0, .slice none 0 0, .slice none 0 0, .int .i64 0].toArray 123) = Wz := ⟨_, rfl⟩
  have hs1 : (w.alloc (.cells [.slice none 0 0, .int .u16 0, .int .u16 0, .int .u32 0, .int .u32 0, .int .u8 0, .int .u16 0, .int .u16 0, .slice none 0 0, .slice none 0 0, .int .i64 0].toArray 123)).heap.size = w.heap.size + 1 := by simp
  have bz1 := blk_new (w.alloc (.cells [.slice none 0 0, .int .u16 0, .int .u16 0, .int .u32 0, .int .u32 0, .int .u8 0, .int .u16 0, .int .u16 0, .slice none 0 0, .slice none 0 0, .int .i64 0].toArray 123)) (.cells [.slice none 0 0, .int .u16 0, .int .u16 0, .int .u32 0, .int .u32 0, .int .u8 0, .int .u16 0, .int .u16 0, .slice none 0 0, .slice none 0 0, .int .i64 0].toArray 123)
  rw [hWz] at bz1
  rw [hs1] at bz1
  obtain ⟨W1, hst, b1, hon⟩ := box_store Try.sizeOf123 bz1 rfl (.slice (some ⟨b, off, none⟩) zs.length cap :: [.int .u16 0, .int .u16 0, .int .u32 0, .int .u32 0, .int .u8 0, .int .u16 0, .int .u16 0, .slice none 0 0, .slice none 0 0, .int .i64 0]) rfl (by simp [Value.oneCell'])
  obtain ⟨Wa, hWa⟩ : ∃ Wa, w.alloc (.cells [.slice none 0 0, .int .u16 0, .int .u16 0, .int .u32 0, .int .u32 0, .int .u8 0, .int .u16 0, .int .u16 0, .slice none 0 0, .slice none 0 0, .int .i64 0].toArray 123) = Wa := ⟨_, rfl⟩
  have ba := blk_new w (.cells [.slice none 0 0, .int .u16 0, .int .u16 0, .int .u32 0, .int .u32 0, .int .u8 0, .int .u16 0, .int .u16 0, .slice none 0 0, .slice none 0 0, .int .i64 0].toArray 123)
  have hBa := (Below.refl w.heap.size w).alloc (Nat.le_refl _) (.cells [.slice none 0 0, .int .u16 0, .int .u16 0, .int .u32 0, .int .u32 0, .int .u8 0, .int .u16 0, .int .u16 0, .slice none 0 0, .slice none 0 0, .int .i64 0].toArray 123)
  rw [hWa] at ba hBa hs1
  have hBl : Below Wa.heap.size Wa W1 := (by rw [← hWz, hWa]; exact (Below.refl _ _).alloc (Nat.le_refl _) _ : Below Wa.heap.size Wa Wz).trans (hon.below (by omega))
  have HST : Hid _ := hst
  have hSa : RowS Wa (.slice (some ⟨b, off, none⟩) zs.length cap) zs b off cap := ⟨rfl, hS.room, Nat.lt_of_lt_of_le hS.lt hBa.size, fun j hj => (hBa.cell (p := ⟨b, off + j, none⟩) hS.lt).trans (hS.cell j hj), hS.fit, hS.len⟩
  have h0 : RdW Wa W1 (w.heap.size + 1) 123 zs b off cap [.int .u16 0, .int .u16 0, .int .u32 0, .int .u32 0, .int .u8 0, .int .u16 0, .int .u16 0, .slice none 0 0, .slice none 0 0, .int .i64 0] := ⟨b1, by omega, hBl, hSa⟩
  have q : decide ((zs.length : Int) < 20) = false := by simp; omega
  have HW0 : Hid _ := h0.word' (by omega)
  have HF : Hid (Fit zs) := hS.fit
  have BA : Hid _ := ba
  have HBA : Hid _ := hBa
  have hlt : w.heap.size < Wa.heap.size := by omega
  clear b1 hs1 hBl h0 bz1 hst hon ba hBa hWa hSa
  go_enter Try.func78, Try.ntmps78
  go_wp2_with ((with_reducible show wpList _ _ _ _ _ _); refine arm_store rfl (.tmp 4) (.tmp 8) 123 rfl rfl rfl HST.out ?_)
  refine Calls.mono HW0.out ?_
  rintro _ w1 ⟨o1, k1, rfl, h1⟩
  clear HW0 HST hWz
  replace h1 : RdW Wa w1 (w.heap.size + 1) 123 (zs.drop 2) b o1 k1 [.int .u16 0, .int .u16 0, .int .u32 0, .int .u32 0, .int .u8 0, .int .u16 0, .int .u16 0, .slice none 0 0, .slice none 0 0, .int .i64 0] := h1
  have c1 := blk_cell h1.blk (j := 1) rfl
  have f1 := blk_open h1.blk 1
  have g1 := h1.sets 0 1 (.int .u16 (wd2 zs 0)) rfl
  have HW1 : Hid _ := g1.word' (by simp; omega)
  rw [wd2_drop, List.drop_drop] at HW1
  clear h1 g1
  go_wp2_with fail
  refine Calls.mono HW1.out ?_
  rintro _ w2 ⟨o2, k2, rfl, h2⟩
  clear HW1 c1 f1
  replace h2 : RdW Wa w2 (w.heap.size + 1) 123 (zs.drop 4) b o2 k2 [.int .u16 (wd2 zs 0), .int .u16 0, .int .u32 0, .int .u32 0, .int .u8 0, .int .u16 0, .int .u16 0, .slice none 0 0, .slice none 0 0, .int .i64 0] := h2
  have c2 := blk_cell h2.blk (j := 2) rfl
  have f2 := blk_open h2.blk 2
  have g2 := h2.sets 1 2 (.int .u16 (wd2 zs 2)) rfl
  have HW2 : Hid _ := g2.long' (by simp; omega)
  rw [lg_drop, List.drop_drop] at HW2
  clear h2 g2
  go_wp2_with fail
  refine Calls.mono HW2.out ?_
  rintro _ w3 ⟨o3, k3, rfl, h3⟩
  clear HW2 c2 f2
  replace h3 : RdW Wa w3 (w.heap.size + 1) 123 (zs.drop 8) b o3 k3 [.int .u16 (wd2 zs 0), .int .u16 (wd2 zs 2), .int .u32 0, .int .u32 0, .int .u8 0, .int .u16 0, .int .u16 0, .slice none 0 0, .slice none 0 0, .int .i64 0] := h3
  have c3 := blk_cell h3.blk (j := 3) rfl
  have f3 := blk_open h3.blk 3
  have g3 := h3.sets 2 3 (.int .u32 (lg zs 4)) rfl
  have HW3 : Hid _ := g3.long' (by simp; omega)
  rw [lg_drop, List.drop_drop] at HW3
  clear h3 g3
  go_wp2_with fail
  refine Calls.mono HW3.out ?_
  rintro _ w4 ⟨o4, k4, rfl, h4⟩
  clear HW3 c3 f3
  replace h4 : RdW Wa w4 (w.heap.size + 1) 123 (zs.drop 12) b o4 k4 [.int .u16 (wd2 zs 0), .int .u16 (wd2 zs 2), .int .u32 (lg zs 4), .int .u32 0, .int .u8 0, .int .u16 0, .int .u16 0, .slice none 0 0, .slice none 0 0, .int .i64 0] := h4
  have c4 := blk_cell h4.blk (j := 4) rfl
  have f4 := blk_open h4.blk 4
  have g4 := h4.sets 3 4 (.int .u32 (lg zs 8)) rfl
  have HW4 : Hid _ := g4.word' (by simp; omega)
  rw [wd2_drop, List.drop_drop] at HW4
  clear h4 g4
  go_wp2_with fail
  refine Calls.mono HW4.out ?_
  rintro _ w5 ⟨o5, k5, rfl, h5⟩
  clear HW4 c4 f4
  replace h5 : RdW Wa w5 (w.heap.size + 1) 123 (zs.drop 14) b o5 k5 [.int .u16 (wd2 zs 0), .int .u16 (wd2 zs 2), .int .u32 (lg zs 4), .int .u32 (lg zs 8), .int .u8 0, .int .u16 0, .int .u16 0, .slice none 0 0, .slice none 0 0, .int .i64 0] := h5
  have r12 := wd2_range HF.out 12
  have e63 := and63 (wd2 zs 12) r12
  have eH := hdL_eq HF.out
  have eF := flg_eq HF.out
  have rH := hdL_range HF.out
  have rF := flg_range HF.out
  rw [eF] at e63
  have c5 := blk_cell h5.blk (j := 5) rfl
  have f5 := blk_open h5.blk 5
  have h6 := h5.sets 4 5 (.int .u8 (flg zs)) rfl
  have c6 := blk_cell h6.blk (j := 10) rfl
  have f6 := blk_open h6.blk 10
  have h7 := h6.sets 9 10 (.int .i64 (hdL zs)) rfl
  have c7 := blk_cell h7.blk (j := 10) rfl
  replace h7 : RdW Wa _ (w.heap.size + 1) 123 (zs.drop 14) b o5 k5 [.int .u16 (wd2 zs 0), .int .u16 (wd2 zs 2), .int .u32 (lg zs 4), .int .u32 (lg zs 8), .int .u8 (flg zs), .int .u16 0, .int .u16 0, .slice none 0 0, .slice none 0 0, .int .i64 (hdL zs)] := h7
  clear h5 h6
  by_cases hL : 20 ≤ hdL zs ∧ hdL zs ≤ zs.length
  · have HLL : Hid _ := hL
    have q1 : decide (hdL zs < 20) = false := by simp; omega
    have q2 : decide (hdL zs > (zs.length : Int)) = false := by simp; omega
    have HW7 : Hid _ := h7.word' (by simp; omega)
    rw [wd2_drop, List.drop_drop] at HW7
    clear h7 hL
    go_wp2_with fail
    refine Calls.mono HW7.out ?_
    rintro _ w8 ⟨o8, k8, rfl, h8⟩
    clear HW7 c5 f5 c6 f6 c7 e63 eH eF
    replace h8 : RdW Wa w8 (w.heap.size + 1) 123 (zs.drop 16) b o8 k8 [.int .u16 (wd2 zs 0), .int .u16 (wd2 zs 2), .int .u32 (lg zs 4), .int .u32 (lg zs 8), .int .u8 (flg zs), .int .u16 0, .int .u16 0, .slice none 0 0, .slice none 0 0, .int .i64 (hdL zs)] := h8
    have c8 := blk_cell h8.blk (j := 6) rfl
    have f8 := blk_open h8.blk 6
    have g8 := h8.sets 5 6 (.int .u16 (wd2 zs 14)) rfl
    have HW8 : Hid _ := g8.word' (by simp; omega)
    rw [wd2_drop, List.drop_drop] at HW8
    clear h8 g8
    go_wp2_with fail
    refine Calls.mono HW8.out ?_
    rintro _ w9 ⟨o9, k9, rfl, h9⟩
    clear HW8 c8 f8
    have HW9 : Hid _ := h9.word' (by simp; omega)
    rw [wd2_drop, List.drop_drop] at HW9
    clear h9
    go_wp2_with fail
    refine Calls.mono HW9.out ?_
    rintro _ w10 ⟨o10, k10, rfl, h10⟩
    clear HW9
    replace h10 : RdW Wa w10 (w.heap.size + 1) 123 (zs.drop 20) b o10 k10 [.int .u16 (wd2 zs 0), .int .u16 (wd2 zs 2), .int .u32 (lg zs 4), .int .u32 (lg zs 8), .int .u8 (flg zs), .int .u16 (wd2 zs 14), .int .u16 0, .slice none 0 0, .slice none 0 0, .int .i64 (hdL zs)] := h10
    have c10 := blk_cell h10.blk (j := 7) rfl
    have f10 := blk_open h10.blk 7
    have h11 : RdW Wa _ (w.heap.size + 1) 123 (zs.drop 20) b o10 k10 [.int .u16 (wd2 zs 0), .int .u16 (wd2 zs 2), .int .u32 (lg zs 4), .int .u32 (lg zs 8), .int .u8 (flg zs), .int .u16 (wd2 zs 14), .int .u16 (wd2 zs 18), .slice none 0 0, .slice none 0 0, .int .i64 (hdL zs)] := h10.sets 6 7 (.int .u16 (wd2 zs 18)) rfl
    have b9 := (h11.bel.block _ hlt).trans BA.out
    have HL : Hid _ := agg_load (t := 123) Try.isAgg123 Try.sizeOf123 rfl (CellsAt.of_blk h11.blk)
    obtain ⟨wE, hst, bE, hon⟩ := box_store Try.sizeOf123 b9 rfl [.slice (some ⟨b, o10, none⟩) (zs.drop 20).length k10, .int .u16 (wd2 zs 0), .int .u16 (wd2 zs 2), .int .u32 (lg zs 4), .int .u32 (lg zs 8), .int .u8 (flg zs), .int .u16 (wd2 zs 14), .int .u16 (wd2 zs 18), .slice none 0 0, .slice none 0 0, .int .i64 (hdL zs)] rfl (by simp [Value.oneCell'])
    have HST : Hid _ := hst
    have HBE : Hid (Below w.heap.size w wE) := (HBA.out.trans (h11.bel.mono HBA.out.size)).trans (hon.below (Nat.le_refl _))
    have HR : Hid (RowS w (.slice (some ⟨b, o10, none⟩) (zs.drop 20).length k10) (zs.drop 20) b o10 k10) := by
      have hr := h11.row
      refine ⟨rfl, hr.room, hS.lt, fun j hj => ?_, hr.fit, hr.len⟩
      exact (HBA.out.cell (p := ⟨b, o10 + j, none⟩) hS.lt).symm.trans (hr.cell j hj)
    have BE : Hid _ := bE
    clear hst bE hon h10 h11 b9
    go_wp2_with first
      | ((with_reducible show wpList _ _ _ _ _ _); refine arm_load rfl (.tmp 4) 123 rfl rfl HL.out ?_)
      | ((with_reducible show wpList _ _ _ _ _ _); refine arm_store rfl (.tmp 2) (.tmp 62) 123 rfl rfl rfl HST.out ?_)
    exact bodyPost_ret (res2t rfl rfl (agg_loadVar Try.isAgg123 Try.sizeOf123 rfl (CellsAt.of_blk BE.out))) rfl ⟨HBE.out, fun hne => absurd HLL.out hne, fun _ => ⟨b, o10, k10, rfl, HR.out⟩⟩
  · have HLL : Hid _ := hL
    by_cases h20 : hdL zs < 20
    · have q1 : decide (hdL zs < 20) = true := by simp; omega
      clear hL
      have b9 := (h7.bel.block _ hlt).trans BA.out
      have HL : Hid _ := agg_load (t := 123) Try.isAgg123 Try.sizeOf123 rfl (CellsAt.of_blk h7.blk)
      obtain ⟨wE, hst, bE, hon⟩ := box_store Try.sizeOf123 b9 rfl [.slice (some ⟨b, o5, none⟩) (zs.drop 14).length k5, .int .u16 (wd2 zs 0), .int .u16 (wd2 zs 2), .int .u32 (lg zs 4), .int .u32 (lg zs 8), .int .u8 (flg zs), .int .u16 0, .int .u16 0, .slice none 0 0, .slice none 0 0, .int .i64 (hdL zs)] rfl (by simp [Value.oneCell'])
      have HST : Hid _ := hst
      have HBE : Hid (Below w.heap.size w wE) := (HBA.out.trans (h7.bel.mono HBA.out.size)).trans (hon.below (Nat.le_refl _))
      have BE : Hid _ := bE
      clear hst bE hon h7 b9
      go_wp2_with first
        | ((with_reducible show wpList _ _ _ _ _ _); refine arm_load rfl (.tmp 4) 123 rfl rfl HL.out ?_)
        | ((with_reducible show wpList _ _ _ _ _ _); refine arm_store rfl (.tmp 2) (.tmp 51) 123 rfl rfl rfl HST.out ?_)
      exact bodyPost_ret (res2t rfl rfl (agg_loadVar Try.isAgg123 Try.sizeOf123 rfl (CellsAt.of_blk BE.out))) rfl ⟨HBE.out, fun _ => ⟨_, rfl, by simp [Value.oneCell'], rfl⟩, fun he => absurd he HLL.out⟩
    · have q1 : decide (hdL zs < 20) = false := by simp; omega
      have q2 : decide (hdL zs > (zs.length : Int)) = true := by simp; omega
      clear hL
      have b9 := (h7.bel.block _ hlt).trans BA.out
      have HL : Hid _ := agg_load (t := 123) Try.isAgg123 Try.sizeOf123 rfl (CellsAt.of_blk h7.blk)
      obtain ⟨wE, hst, bE, hon⟩ := box_store Try.sizeOf123 b9 rfl [.slice (some ⟨b, o5, none⟩) (zs.drop 14).length k5, .int .u16 (wd2 zs 0), .int .u16 (wd2 zs 2), .int .u32 (lg zs 4), .int .u32 (lg zs 8), .int .u8 (flg zs), .int .u16 0, .int .u16 0, .slice none 0 0, .slice none 0 0, .int .i64 (hdL zs)] rfl (by simp [Value.oneCell'])
      have HST : Hid _ := hst
      have HBE : Hid (Below w.heap.size w wE) := (HBA.out.trans (h7.bel.mono HBA.out.size)).trans (hon.below (Nat.le_refl _))
      have BE : Hid _ := bE
      clear hst bE hon h7 b9
      go_wp2_with first
        | ((with_reducible show wpList _ _ _ _ _ _); refine arm_load rfl (.tmp 4) 123 rfl rfl HL.out ?_)
        | ((with_reducible show wpList _ _ _ _ _ _); refine arm_store rfl (.tmp 2) (.tmp 51) 123 rfl rfl rfl HST.out ?_)
      exact bodyPost_ret (res2t rfl rfl (agg_loadVar Try.isAgg123 Try.sizeOf123 rfl (CellsAt.of_blk BE.out))) rfl ⟨HBE.out, fun _ => ⟨_, rfl, by simp [Value.oneCell'], rfl⟩, fun he => absurd he HLL.out⟩

end Go.Proofs.Ytnlaomjhnndblaa
