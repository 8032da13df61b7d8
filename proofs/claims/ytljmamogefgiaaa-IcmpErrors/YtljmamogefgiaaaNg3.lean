/-
  Error4 and Error6 of package icmp.
-/
import Derived.Test.YtljmamogefgiaaaNg2
namespace Go.Proofs.Ytljmamogefgiaaa
open Go Go.RowKit Go.Shelf
set_option linter.unusedVariables false
set_option linter.unusedSimpArgs false

def ErrI (er : Int) (m : Msg) (w : World) (e : Ending) (w' : World) : Prop := ∃ c, e = .returned (.tuple #[.agg c.toArray, .int .i64 er]) ∧ MsgC w' c m ∧ Below w.heap.size w w'

set_option maxHeartbeats 2000000 in
set_option maxRecDepth 100000 in
theorem Error4_big (code rest : Int) (fc : 0 ≤ code ∧ code ≤ 255) (fr : 0 ≤ rest ∧ rest ≤ 4294967295) (v : Value) (zs : List Int) (w : World) (h : RowC w v zs) :
    Calls Try.prog 29 #[.int .i64 4, .int .u8 code, .int .u32 rest, v] w fun e w' => ErrI 0 ⟨3, 4, rest, zs.take 548⟩ w e w' := by
  have b0 := blk_new w (.cells [.int .u8 0, .int .u8 0, .int .u32 0, .slice none 0 0].toArray 26)
  have hB0 := (Below.refl w.heap.size w).alloc (Nat.le_refl _) (.cells [.int .u8 0, .int .u8 0, .int .u32 0, .slice none 0 0].toArray 26)
  obtain ⟨W0, hW0⟩ : ∃ W0, w.alloc (.cells [.int .u8 0, .int .u8 0, .int .u32 0, .slice none 0 0].toArray 26) = W0 := ⟨_, rfl⟩
  rw [hW0] at b0 hB0
  have hlt0 : w.heap.size < W0.heap.size := (Array.getElem?_eq_some_iff.1 b0).1
  obtain ⟨W1, hst1, b1, hb1⟩ := box_new Try.sizeOf26 W0 [.int .u8 0, .int .u8 0, .int .u32 0, .slice none 0 0] rfl [.int .u8 0, .int .u8 code, .int .u32 rest, .slice none 0 0] rfl (by simp [Value.oneCell'])
  have HST1 : Hid _ := hst1
  have o1 : Only W0.heap.size W1 W1 := Only.refl _ _
  have k1 := blk_cell (j := 1) b1 rfl
  have f1 := blk_open b1 1
  have c1 := blk_set b1 1 (.int .u8 4)
  have oo1 := o1.set 1 (.int .u8 4)
  have k2 := blk_cell (j := 0) c1 rfl
  have f2 := blk_open c1 0
  have c2 := blk_set c1 0 (.int .u8 3)
  have oo2 := oo1.set 0 (.int .u8 3)
  obtain ⟨W2, hW2⟩ : ∃ W2, ((W1.setCell ⟨W0.heap.size, 1, none⟩ (.int .u8 4)).setCell ⟨W0.heap.size, 0, none⟩ (.int .u8 3)) = W2 := ⟨_, rfl⟩
  rw [hW2] at c2 oo2
  have b2 : W2.heap[W0.heap.size]? = some (.cells [.int .u8 3, .int .u8 4, .int .u32 rest, .slice none 0 0].toArray 26) := c2
  have hx2 : Below W0.heap.size W0 W2 := hb1.trans (oo2.below (Nat.le_refl _))
  have hw2 := hB0.trans (hx2.mono hB0.size)
  have hm2 : MsgC W2 [.int .u8 3, .int .u8 4, .int .u32 rest, .slice none 0 0] ⟨3, 4, rest, []⟩ := ⟨⟨_, rfl, BytesAt.none W2⟩, (by dsimp only; decide), (by dsimp only; decide), fr⟩
  have HLD : Hid (∀ W, Below W2.heap.size W2 W → (Instr.loadAt 26 (.pointer (some ⟨W0.heap.size, 0, none⟩))).run Try.prog W = .ok (.agg [.int .u8 3, .int .u8 4, .int .u32 rest, .slice none 0 0].toArray) W) := fun W hW => agg_load Try.isAgg26 Try.sizeOf26 rfl (CellsAt.of_blk (blk_on b2 hW))
  have HAB : Hid (∀ W, Below W2.heap.size W2 W → Calls Try.prog 44 #[.agg [.int .u8 3, .int .u8 4, .int .u32 rest, .slice none 0 0].toArray, v, .int .i64 548] W fun e w' => ∃ c, e = .returned (.agg c.toArray) ∧ MsgN W w' c ⟨3, 4, rest, zs.take 548⟩ ∧ Below W.heap.size W w') := fun W hW => about_calls 3 4 rest (by decide) (by decide) fr v zs 548 (by decide) W (h.on (hw2.trans (hW.mono hw2.size)))
  have hk4 : k4 3 4 = 4 := by simp [k4]
  have HK : Hid (Calls Try.prog 21 #[.agg [.int .u8 3, .int .u8 4, .int .u32 rest, .slice none 0 0].toArray] W2 fun e w' => e = .returned (.int .i64 4) ∧ Below W2.heap.size W2 w') := by
    have k := Kind4_calls W2 hm2
    dsimp only at k
    rw [hk4] at k
    exact k
  have B0 : Hid _ := b0
  have HB0 : Hid _ := hB0
  have HX2 : Hid _ := hx2
  obtain ⟨av, cv, rfl, _⟩ := h.val
  have hy0 : Below W2.heap.size W2 W2 := Below.refl _ _
  have HLT : Hid _ := hlt0
  clear hst1 b1 hb1 h hm2 b2 hw2 hx2 b0 hB0 hlt0 o1 oo1 oo2 c1 c2
  generalize zs.take 548 = ys at *
  go_enter Try.func29, Try.ntmps29
  go_wp2_with first
    | ((with_reducible show wpList _ _ _ _ _ _); refine arm_store rfl (.tmp 10) (.tmp 13) 26 rfl rfl rfl HST1.out ?_)
    | ((with_reducible show wpList _ _ _ _ _ _); refine arm_load rfl (.tmp 10) 26 rfl rfl (HLD.out _ hy0) ?_)
  refine Calls.mono HK.out ?_
  rintro _ w3 ⟨rfl, hy3⟩
  go_wp2_with first
    | ((with_reducible show wpList _ _ _ _ _ _); refine arm_load rfl (.tmp 10) 26 rfl rfl (HLD.out _ hy3) ?_)
  refine Calls.mono (HAB.out _ hy3) ?_
  rintro _ w4 ⟨c, rfl, hc, hb4⟩
  have hx3 := HX2.out.trans (hy3.mono HX2.out.size)
  have hx4 := hx3.trans (hb4.mono hx3.size)
  obtain ⟨w5, hst5, b5, hon5⟩ := box_store Try.sizeOf26 (blk_on B0.out hx4) rfl c hc.1.len hc.1.one
  have hlt := HLT.out
  have hsz := hx3.size
  have HC : Hid (MsgC w5 c _) := (hc.only (by omega) hon5).1
  have HST5 : Hid _ := hst5
  have B5 : Hid _ := b5
  have HCL : Hid _ := hc.1.len
  have HE : Hid (Below w.heap.size w w5) := (HB0.out.trans (hx4.mono HB0.out.size)).trans (hon5.below (Nat.le_refl _))
  clear hst5 b5 hon5 hc hb4 hx3 hx4 hlt hsz HAB HLD HX2
  go_wp2_with ((with_reducible show wpList _ _ _ _ _ _); refine arm_store rfl (.tmp 8) (.tmp 35) 26 rfl rfl rfl HST5.out ?_)
  exact bodyPost_ret (res2t rfl rfl (agg_loadVar Try.isAgg26 Try.sizeOf26 HCL.out (CellsAt.of_blk B5.out))) rfl ⟨c, rfl, HC.out, HE.out⟩
set_option maxHeartbeats 2000000 in
set_option maxRecDepth 100000 in
theorem Error4_un (code rest : Int) (fc : 0 ≤ code ∧ code ≤ 255) (fr : 0 ≤ rest ∧ rest ≤ 4294967295) (hcode : code ≠ 4) (v : Value) (zs : List Int) (w : World) (h : RowC w v zs) :
    Calls Try.prog 29 #[.int .i64 3, .int .u8 code, .int .u32 rest, v] w fun e w' => ErrI 0 ⟨3, code, rest, zs.take 548⟩ w e w' := by
  have b0 := blk_new w (.cells [.int .u8 0, .int .u8 0, .int .u32 0, .slice none 0 0].toArray 26)
  have hB0 := (Below.refl w.heap.size w).alloc (Nat.le_refl _) (.cells [.int .u8 0, .int .u8 0, .int .u32 0, .slice none 0 0].toArray 26)
  obtain ⟨W0, hW0⟩ : ∃ W0, w.alloc (.cells [.int .u8 0, .int .u8 0, .int .u32 0, .slice none 0 0].toArray 26) = W0 := ⟨_, rfl⟩
  rw [hW0] at b0 hB0
  have hlt0 : w.heap.size < W0.heap.size := (Array.getElem?_eq_some_iff.1 b0).1
  obtain ⟨W1, hst1, b1, hb1⟩ := box_new Try.sizeOf26 W0 [.int .u8 0, .int .u8 0, .int .u32 0, .slice none 0 0] rfl [.int .u8 0, .int .u8 code, .int .u32 rest, .slice none 0 0] rfl (by simp [Value.oneCell'])
  have HST1 : Hid _ := hst1
  have o1 : Only W0.heap.size W1 W1 := Only.refl _ _
  have k1 := blk_cell (j := 0) b1 rfl
  have f1 := blk_open b1 0
  have c1 := blk_set b1 0 (.int .u8 3)
  have oo1 := o1.set 0 (.int .u8 3)
  obtain ⟨W2, hW2⟩ : ∃ W2, (W1.setCell ⟨W0.heap.size, 0, none⟩ (.int .u8 3)) = W2 := ⟨_, rfl⟩
  rw [hW2] at c1 oo1
  have b2 : W2.heap[W0.heap.size]? = some (.cells [.int .u8 3, .int .u8 code, .int .u32 rest, .slice none 0 0].toArray 26) := c1
  have hx2 : Below W0.heap.size W0 W2 := hb1.trans (oo1.below (Nat.le_refl _))
  have hw2 := hB0.trans (hx2.mono hB0.size)
  have hm2 : MsgC W2 [.int .u8 3, .int .u8 code, .int .u32 rest, .slice none 0 0] ⟨3, code, rest, []⟩ := ⟨⟨_, rfl, BytesAt.none W2⟩, (by dsimp only; decide), fc, fr⟩
  have HLD : Hid (∀ W, Below W2.heap.size W2 W → (Instr.loadAt 26 (.pointer (some ⟨W0.heap.size, 0, none⟩))).run Try.prog W = .ok (.agg [.int .u8 3, .int .u8 code, .int .u32 rest, .slice none 0 0].toArray) W) := fun W hW => agg_load Try.isAgg26 Try.sizeOf26 rfl (CellsAt.of_blk (blk_on b2 hW))
  have HAB : Hid (∀ W, Below W2.heap.size W2 W → Calls Try.prog 44 #[.agg [.int .u8 3, .int .u8 code, .int .u32 rest, .slice none 0 0].toArray, v, .int .i64 548] W fun e w' => ∃ c, e = .returned (.agg c.toArray) ∧ MsgN W w' c ⟨3, code, rest, zs.take 548⟩ ∧ Below W.heap.size W w') := fun W hW => about_calls 3 code rest (by decide) fc fr v zs 548 (by decide) W (h.on (hw2.trans (hW.mono hw2.size)))
  have hk4 : k4 3 code = 3 := by simp [k4, hcode]
  have HK : Hid (Calls Try.prog 21 #[.agg [.int .u8 3, .int .u8 code, .int .u32 rest, .slice none 0 0].toArray] W2 fun e w' => e = .returned (.int .i64 3) ∧ Below W2.heap.size W2 w') := by
    have k := Kind4_calls W2 hm2
    dsimp only at k
    rw [hk4] at k
    exact k
  have B0 : Hid _ := b0
  have HB0 : Hid _ := hB0
  have HX2 : Hid _ := hx2
  obtain ⟨av, cv, rfl, _⟩ := h.val
  have hy0 : Below W2.heap.size W2 W2 := Below.refl _ _
  have HLT : Hid _ := hlt0
  clear hst1 b1 hb1 h hm2 b2 hw2 hx2 b0 hB0 hlt0 o1 oo1 c1
  generalize zs.take 548 = ys at *
  go_enter Try.func29, Try.ntmps29
  go_wp2_with first
    | ((with_reducible show wpList _ _ _ _ _ _); refine arm_store rfl (.tmp 10) (.tmp 13) 26 rfl rfl rfl HST1.out ?_)
    | ((with_reducible show wpList _ _ _ _ _ _); refine arm_load rfl (.tmp 10) 26 rfl rfl (HLD.out _ hy0) ?_)
  refine Calls.mono HK.out ?_
  rintro _ w3 ⟨rfl, hy3⟩
  go_wp2_with first
    | ((with_reducible show wpList _ _ _ _ _ _); refine arm_load rfl (.tmp 10) 26 rfl rfl (HLD.out _ hy3) ?_)
  refine Calls.mono (HAB.out _ hy3) ?_
  rintro _ w4 ⟨c, rfl, hc, hb4⟩
  have hx3 := HX2.out.trans (hy3.mono HX2.out.size)
  have hx4 := hx3.trans (hb4.mono hx3.size)
  obtain ⟨w5, hst5, b5, hon5⟩ := box_store Try.sizeOf26 (blk_on B0.out hx4) rfl c hc.1.len hc.1.one
  have hlt := HLT.out
  have hsz := hx3.size
  have HC : Hid (MsgC w5 c _) := (hc.only (by omega) hon5).1
  have HST5 : Hid _ := hst5
  have B5 : Hid _ := b5
  have HCL : Hid _ := hc.1.len
  have HE : Hid (Below w.heap.size w w5) := (HB0.out.trans (hx4.mono HB0.out.size)).trans (hon5.below (Nat.le_refl _))
  clear hst5 b5 hon5 hc hb4 hx3 hx4 hlt hsz HAB HLD HX2
  go_wp2_with ((with_reducible show wpList _ _ _ _ _ _); refine arm_store rfl (.tmp 8) (.tmp 35) 26 rfl rfl rfl HST5.out ?_)
  exact bodyPost_ret (res2t rfl rfl (agg_loadVar Try.isAgg26 Try.sizeOf26 HCL.out (CellsAt.of_blk B5.out))) rfl ⟨c, rfl, HC.out, HE.out⟩
set_option maxHeartbeats 2000000 in
set_option maxRecDepth 100000 in
theorem Error4_time (code rest : Int) (fc : 0 ≤ code ∧ code ≤ 255) (fr : 0 ≤ rest ∧ rest ≤ 4294967295) (v : Value) (zs : List Int) (w : World) (h : RowC w v zs) :
    Calls Try.prog 29 #[.int .i64 5, .int .u8 code, .int .u32 rest, v] w fun e w' => ErrI 0 ⟨11, code, rest, zs.take 548⟩ w e w' := by
  have b0 := blk_new w (.cells [.int .u8 0, .int .u8 0, .int .u32 0, .slice none 0 0].toArray 26)
  have hB0 := (Below.refl w.heap.size w).alloc (Nat.le_refl _) (.cells [.int .u8 0, .int .u8 0, .int .u32 0, .slice none 0 0].toArray 26)
  obtain ⟨W0, hW0⟩ : ∃ W0, w.alloc (.cells [.int .u8 0, .int .u8 0, .int .u32 0, .slice none 0 0].toArray 26) = W0 := ⟨_, rfl⟩
  rw [hW0] at b0 hB0
  have hlt0 : w.heap.size < W0.heap.size := (Array.getElem?_eq_some_iff.1 b0).1
  obtain ⟨W1, hst1, b1, hb1⟩ := box_new Try.sizeOf26 W0 [.int .u8 0, .int .u8 0, .int .u32 0, .slice none 0 0] rfl [.int .u8 0, .int .u8 code, .int .u32 rest, .slice none 0 0] rfl (by simp [Value.oneCell'])
  have HST1 : Hid _ := hst1
  have o1 : Only W0.heap.size W1 W1 := Only.refl _ _
  have k1 := blk_cell (j := 0) b1 rfl
  have f1 := blk_open b1 0
  have c1 := blk_set b1 0 (.int .u8 11)
  have oo1 := o1.set 0 (.int .u8 11)
  obtain ⟨W2, hW2⟩ : ∃ W2, (W1.setCell ⟨W0.heap.size, 0, none⟩ (.int .u8 11)) = W2 := ⟨_, rfl⟩
  rw [hW2] at c1 oo1
  have b2 : W2.heap[W0.heap.size]? = some (.cells [.int .u8 11, .int .u8 code, .int .u32 rest, .slice none 0 0].toArray 26) := c1
  have hx2 : Below W0.heap.size W0 W2 := hb1.trans (oo1.below (Nat.le_refl _))
  have hw2 := hB0.trans (hx2.mono hB0.size)
  have hm2 : MsgC W2 [.int .u8 11, .int .u8 code, .int .u32 rest, .slice none 0 0] ⟨11, code, rest, []⟩ := ⟨⟨_, rfl, BytesAt.none W2⟩, (by dsimp only; decide), fc, fr⟩
  have HLD : Hid (∀ W, Below W2.heap.size W2 W → (Instr.loadAt 26 (.pointer (some ⟨W0.heap.size, 0, none⟩))).run Try.prog W = .ok (.agg [.int .u8 11, .int .u8 code, .int .u32 rest, .slice none 0 0].toArray) W) := fun W hW => agg_load Try.isAgg26 Try.sizeOf26 rfl (CellsAt.of_blk (blk_on b2 hW))
  have HAB : Hid (∀ W, Below W2.heap.size W2 W → Calls Try.prog 44 #[.agg [.int .u8 11, .int .u8 code, .int .u32 rest, .slice none 0 0].toArray, v, .int .i64 548] W fun e w' => ∃ c, e = .returned (.agg c.toArray) ∧ MsgN W w' c ⟨11, code, rest, zs.take 548⟩ ∧ Below W.heap.size W w') := fun W hW => about_calls 11 code rest (by decide) fc fr v zs 548 (by decide) W (h.on (hw2.trans (hW.mono hw2.size)))
  have hk4 : k4 11 code = 5 := by simp [k4]
  have HK : Hid (Calls Try.prog 21 #[.agg [.int .u8 11, .int .u8 code, .int .u32 rest, .slice none 0 0].toArray] W2 fun e w' => e = .returned (.int .i64 5) ∧ Below W2.heap.size W2 w') := by
    have k := Kind4_calls W2 hm2
    dsimp only at k
    rw [hk4] at k
    exact k
  have B0 : Hid _ := b0
  have HB0 : Hid _ := hB0
  have HX2 : Hid _ := hx2
  obtain ⟨av, cv, rfl, _⟩ := h.val
  have hy0 : Below W2.heap.size W2 W2 := Below.refl _ _
  have HLT : Hid _ := hlt0
  clear hst1 b1 hb1 h hm2 b2 hw2 hx2 b0 hB0 hlt0 o1 oo1 c1
  generalize zs.take 548 = ys at *
  go_enter Try.func29, Try.ntmps29
  go_wp2_with first
    | ((with_reducible show wpList _ _ _ _ _ _); refine arm_store rfl (.tmp 10) (.tmp 13) 26 rfl rfl rfl HST1.out ?_)
    | ((with_reducible show wpList _ _ _ _ _ _); refine arm_load rfl (.tmp 10) 26 rfl rfl (HLD.out _ hy0) ?_)
  refine Calls.mono HK.out ?_
  rintro _ w3 ⟨rfl, hy3⟩
  go_wp2_with first
    | ((with_reducible show wpList _ _ _ _ _ _); refine arm_load rfl (.tmp 10) 26 rfl rfl (HLD.out _ hy3) ?_)
  refine Calls.mono (HAB.out _ hy3) ?_
  rintro _ w4 ⟨c, rfl, hc, hb4⟩
  have hx3 := HX2.out.trans (hy3.mono HX2.out.size)
  have hx4 := hx3.trans (hb4.mono hx3.size)
  obtain ⟨w5, hst5, b5, hon5⟩ := box_store Try.sizeOf26 (blk_on B0.out hx4) rfl c hc.1.len hc.1.one
  have hlt := HLT.out
  have hsz := hx3.size
  have HC : Hid (MsgC w5 c _) := (hc.only (by omega) hon5).1
  have HST5 : Hid _ := hst5
  have B5 : Hid _ := b5
  have HCL : Hid _ := hc.1.len
  have HE : Hid (Below w.heap.size w w5) := (HB0.out.trans (hx4.mono HB0.out.size)).trans (hon5.below (Nat.le_refl _))
  clear hst5 b5 hon5 hc hb4 hx3 hx4 hlt hsz HAB HLD HX2
  go_wp2_with ((with_reducible show wpList _ _ _ _ _ _); refine arm_store rfl (.tmp 8) (.tmp 35) 26 rfl rfl rfl HST5.out ?_)
  exact bodyPost_ret (res2t rfl rfl (agg_loadVar Try.isAgg26 Try.sizeOf26 HCL.out (CellsAt.of_blk B5.out))) rfl ⟨c, rfl, HC.out, HE.out⟩
set_option maxHeartbeats 2000000 in
set_option maxRecDepth 100000 in
theorem Error4_param (code rest : Int) (fc : 0 ≤ code ∧ code ≤ 255) (fr : 0 ≤ rest ∧ rest ≤ 4294967295) (v : Value) (zs : List Int) (w : World) (h : RowC w v zs) :
    Calls Try.prog 29 #[.int .i64 6, .int .u8 code, .int .u32 rest, v] w fun e w' => ErrI 0 ⟨12, code, rest, zs.take 548⟩ w e w' := by
  have b0 := blk_new w (.cells [.int .u8 0, .int .u8 0, .int .u32 0, .slice none 0 0].toArray 26)
  have hB0 := (Below.refl w.heap.size w).alloc (Nat.le_refl _) (.cells [.int .u8 0, .int .u8 0, .int .u32 0, .slice none 0 0].toArray 26)
  obtain ⟨W0, hW0⟩ : ∃ W0, w.alloc (.cells [.int .u8 0, .int .u8 0, .int .u32 0, .slice none 0 0].toArray 26) = W0 := ⟨_, rfl⟩
  rw [hW0] at b0 hB0
  have hlt0 : w.heap.size < W0.heap.size := (Array.getElem?_eq_some_iff.1 b0).1
  obtain ⟨W1, hst1, b1, hb1⟩ := box_new Try.sizeOf26 W0 [.int .u8 0, .int .u8 0, .int .u32 0, .slice none 0 0] rfl [.int .u8 0, .int .u8 code, .int .u32 rest, .slice none 0 0] rfl (by simp [Value.oneCell'])
  have HST1 : Hid _ := hst1
  have o1 : Only W0.heap.size W1 W1 := Only.refl _ _
  have k1 := blk_cell (j := 0) b1 rfl
  have f1 := blk_open b1 0
  have c1 := blk_set b1 0 (.int .u8 12)
  have oo1 := o1.set 0 (.int .u8 12)
  obtain ⟨W2, hW2⟩ : ∃ W2, (W1.setCell ⟨W0.heap.size, 0, none⟩ (.int .u8 12)) = W2 := ⟨_, rfl⟩
  rw [hW2] at c1 oo1
  have b2 : W2.heap[W0.heap.size]? = some (.cells [.int .u8 12, .int .u8 code, .int .u32 rest, .slice none 0 0].toArray 26) := c1
  have hx2 : Below W0.heap.size W0 W2 := hb1.trans (oo1.below (Nat.le_refl _))
  have hw2 := hB0.trans (hx2.mono hB0.size)
  have hm2 : MsgC W2 [.int .u8 12, .int .u8 code, .int .u32 rest, .slice none 0 0] ⟨12, code, rest, []⟩ := ⟨⟨_, rfl, BytesAt.none W2⟩, (by dsimp only; decide), fc, fr⟩
  have HLD : Hid (∀ W, Below W2.heap.size W2 W → (Instr.loadAt 26 (.pointer (some ⟨W0.heap.size, 0, none⟩))).run Try.prog W = .ok (.agg [.int .u8 12, .int .u8 code, .int .u32 rest, .slice none 0 0].toArray) W) := fun W hW => agg_load Try.isAgg26 Try.sizeOf26 rfl (CellsAt.of_blk (blk_on b2 hW))
  have HAB : Hid (∀ W, Below W2.heap.size W2 W → Calls Try.prog 44 #[.agg [.int .u8 12, .int .u8 code, .int .u32 rest, .slice none 0 0].toArray, v, .int .i64 548] W fun e w' => ∃ c, e = .returned (.agg c.toArray) ∧ MsgN W w' c ⟨12, code, rest, zs.take 548⟩ ∧ Below W.heap.size W w') := fun W hW => about_calls 12 code rest (by decide) fc fr v zs 548 (by decide) W (h.on (hw2.trans (hW.mono hw2.size)))
  have hk4 : k4 12 code = 6 := by simp [k4]
  have HK : Hid (Calls Try.prog 21 #[.agg [.int .u8 12, .int .u8 code, .int .u32 rest, .slice none 0 0].toArray] W2 fun e w' => e = .returned (.int .i64 6) ∧ Below W2.heap.size W2 w') := by
    have k := Kind4_calls W2 hm2
    dsimp only at k
    rw [hk4] at k
    exact k
  have B0 : Hid _ := b0
  have HB0 : Hid _ := hB0
  have HX2 : Hid _ := hx2
  obtain ⟨av, cv, rfl, _⟩ := h.val
  have hy0 : Below W2.heap.size W2 W2 := Below.refl _ _
  have HLT : Hid _ := hlt0
  clear hst1 b1 hb1 h hm2 b2 hw2 hx2 b0 hB0 hlt0 o1 oo1 c1
  generalize zs.take 548 = ys at *
  go_enter Try.func29, Try.ntmps29
  go_wp2_with first
    | ((with_reducible show wpList _ _ _ _ _ _); refine arm_store rfl (.tmp 10) (.tmp 13) 26 rfl rfl rfl HST1.out ?_)
    | ((with_reducible show wpList _ _ _ _ _ _); refine arm_load rfl (.tmp 10) 26 rfl rfl (HLD.out _ hy0) ?_)
  refine Calls.mono HK.out ?_
  rintro _ w3 ⟨rfl, hy3⟩
  go_wp2_with first
    | ((with_reducible show wpList _ _ _ _ _ _); refine arm_load rfl (.tmp 10) 26 rfl rfl (HLD.out _ hy3) ?_)
  refine Calls.mono (HAB.out _ hy3) ?_
  rintro _ w4 ⟨c, rfl, hc, hb4⟩
  have hx3 := HX2.out.trans (hy3.mono HX2.out.size)
  have hx4 := hx3.trans (hb4.mono hx3.size)
  obtain ⟨w5, hst5, b5, hon5⟩ := box_store Try.sizeOf26 (blk_on B0.out hx4) rfl c hc.1.len hc.1.one
  have hlt := HLT.out
  have hsz := hx3.size
  have HC : Hid (MsgC w5 c _) := (hc.only (by omega) hon5).1
  have HST5 : Hid _ := hst5
  have B5 : Hid _ := b5
  have HCL : Hid _ := hc.1.len
  have HE : Hid (Below w.heap.size w w5) := (HB0.out.trans (hx4.mono HB0.out.size)).trans (hon5.below (Nat.le_refl _))
  clear hst5 b5 hon5 hc hb4 hx3 hx4 hlt hsz HAB HLD HX2
  go_wp2_with ((with_reducible show wpList _ _ _ _ _ _); refine arm_store rfl (.tmp 8) (.tmp 35) 26 rfl rfl rfl HST5.out ?_)
  exact bodyPost_ret (res2t rfl rfl (agg_loadVar Try.isAgg26 Try.sizeOf26 HCL.out (CellsAt.of_blk B5.out))) rfl ⟨c, rfl, HC.out, HE.out⟩
set_option maxHeartbeats 2000000 in
set_option maxRecDepth 100000 in
theorem Error4_no (kind code rest : Int) (fc : 0 ≤ code ∧ code ≤ 255) (fr : 0 ≤ rest ∧ rest ≤ 4294967295) (hkind : kind ≠ 3 ∧ kind ≠ 4 ∧ kind ≠ 5 ∧ kind ≠ 6) (v : Value) (zs : List Int) (w : World) (h : RowC w v zs) :
    Calls Try.prog 29 #[.int .i64 kind, .int .u8 code, .int .u32 rest, v] w fun e w' => ErrI 72 ⟨0, 0, 0, []⟩ w e w' := by
  have b0 := blk_new w (.cells [.int .u8 0, .int .u8 0, .int .u32 0, .slice none 0 0].toArray 26)
  have hB0 := (Below.refl w.heap.size w).alloc (Nat.le_refl _) (.cells [.int .u8 0, .int .u8 0, .int .u32 0, .slice none 0 0].toArray 26)
  obtain ⟨W0, hW0⟩ : ∃ W0, w.alloc (.cells [.int .u8 0, .int .u8 0, .int .u32 0, .slice none 0 0].toArray 26) = W0 := ⟨_, rfl⟩
  rw [hW0] at b0 hB0
  have hlt0 : w.heap.size < W0.heap.size := (Array.getElem?_eq_some_iff.1 b0).1
  obtain ⟨W1, hst1, b1, hb1⟩ := box_new Try.sizeOf26 W0 [.int .u8 0, .int .u8 0, .int .u32 0, .slice none 0 0] rfl [.int .u8 0, .int .u8 code, .int .u32 rest, .slice none 0 0] rfl (by simp [Value.oneCell'])
  have HST1 : Hid _ := hst1
  obtain ⟨av, cv, rfl, _⟩ := h.val
  have B0 : Hid _ := b0
  have HB0 : Hid _ := hB0
  have HLT : Hid _ := hlt0
  obtain ⟨n3, n4, n5, n6⟩ := hkind
  have q3 : (kind == 3) = false := by simpa using n3
  have q4 : (kind == 4) = false := by simpa using n4
  have q5 : (kind == 5) = false := by simpa using n5
  have q6 : (kind == 6) = false := by simpa using n6
  obtain ⟨w5, hst5, b5, hon5⟩ := box_store Try.sizeOf26 (blk_on b0 hb1) rfl [.int .u8 0, .int .u8 0, .int .u32 0, .slice none 0 0] rfl (by simp [Value.oneCell'])
  have HST5 : Hid _ := hst5
  have B5 : Hid _ := b5
  have HE : Hid (Below w.heap.size w w5) := (hB0.trans (hb1.mono hB0.size)).trans (hon5.below (Nat.le_refl _))
  clear hst1 b1 hb1 h b0 hB0 hlt0 hst5 b5 hon5 n3 n4 n5 n6
  go_enter Try.func29, Try.ntmps29
  go_wp2_with first
    | ((with_reducible show wpList _ _ _ _ _ _); refine arm_store rfl (.tmp 10) (.tmp 13) 26 rfl rfl rfl HST1.out ?_)
    | ((with_reducible show wpList _ _ _ _ _ _); refine arm_store rfl (.tmp 8) (.tmp 27) 26 rfl rfl rfl HST5.out ?_)
  exact bodyPost_ret (res2t rfl rfl (agg_loadVar Try.isAgg26 Try.sizeOf26 rfl (CellsAt.of_blk B5.out))) rfl ⟨_, rfl, MsgC.zero w5, HE.out⟩
set_option maxHeartbeats 2000000 in
set_option maxRecDepth 100000 in
theorem Error4_un4 (code rest : Int) (fc : 0 ≤ code ∧ code ≤ 255) (fr : 0 ≤ rest ∧ rest ≤ 4294967295) (hcode : code = 4) (v : Value) (zs : List Int) (w : World) (h : RowC w v zs) :
    Calls Try.prog 29 #[.int .i64 3, .int .u8 code, .int .u32 rest, v] w fun e w' => ErrI 72 ⟨0, 0, 0, []⟩ w e w' := by
  have b0 := blk_new w (.cells [.int .u8 0, .int .u8 0, .int .u32 0, .slice none 0 0].toArray 26)
  have hB0 := (Below.refl w.heap.size w).alloc (Nat.le_refl _) (.cells [.int .u8 0, .int .u8 0, .int .u32 0, .slice none 0 0].toArray 26)
  obtain ⟨W0, hW0⟩ : ∃ W0, w.alloc (.cells [.int .u8 0, .int .u8 0, .int .u32 0, .slice none 0 0].toArray 26) = W0 := ⟨_, rfl⟩
  rw [hW0] at b0 hB0
  have hlt0 : w.heap.size < W0.heap.size := (Array.getElem?_eq_some_iff.1 b0).1
  obtain ⟨W1, hst1, b1, hb1⟩ := box_new Try.sizeOf26 W0 [.int .u8 0, .int .u8 0, .int .u32 0, .slice none 0 0] rfl [.int .u8 0, .int .u8 code, .int .u32 rest, .slice none 0 0] rfl (by simp [Value.oneCell'])
  have HST1 : Hid _ := hst1
  obtain ⟨av, cv, rfl, _⟩ := h.val
  have B0 : Hid _ := b0
  have HB0 : Hid _ := hB0
  have HLT : Hid _ := hlt0
  subst hcode
  have k1 := blk_cell (j := 0) b1 rfl
  have f1 := blk_open b1 0
  have c1 := blk_set b1 0 (.int .u8 3)
  have oo1 := (Only.refl W0.heap.size W1).set 0 (.int .u8 3)
  obtain ⟨W2, hW2⟩ : ∃ W2, W1.setCell ⟨W0.heap.size, 0, none⟩ (.int .u8 3) = W2 := ⟨_, rfl⟩
  rw [hW2] at c1 oo1
  have b2 : W2.heap[W0.heap.size]? = some (.cells [.int .u8 3, .int .u8 4, .int .u32 rest, .slice none 0 0].toArray 26) := c1
  have hx2 : Below W0.heap.size W0 W2 := hb1.trans (oo1.below (Nat.le_refl _))
  have hm2 : MsgC W2 [.int .u8 3, .int .u8 4, .int .u32 rest, .slice none 0 0] ⟨3, 4, rest, []⟩ := ⟨⟨_, rfl, BytesAt.none W2⟩, by dsimp only; decide, by dsimp only; decide, fr⟩
  have HLD : Hid _ := agg_load (t := 26) Try.isAgg26 Try.sizeOf26 rfl (CellsAt.of_blk b2)
  have HK : Hid (Calls Try.prog 21 #[.agg [.int .u8 3, .int .u8 4, .int .u32 rest, .slice none 0 0].toArray] W2 fun e w' => e = .returned (.int .i64 4) ∧ Below W2.heap.size W2 w') := Kind4_calls W2 hm2
  have HX2 : Hid _ := hx2
  clear hst1 b1 hb1 h hm2 b2 hx2 b0 hB0 hlt0 oo1 c1
  go_enter Try.func29, Try.ntmps29
  go_wp2_with first
    | ((with_reducible show wpList _ _ _ _ _ _); refine arm_store rfl (.tmp 10) (.tmp 13) 26 rfl rfl rfl HST1.out ?_)
    | ((with_reducible show wpList _ _ _ _ _ _); refine arm_load rfl (.tmp 10) 26 rfl rfl HLD.out ?_)
  refine Calls.mono HK.out ?_
  rintro _ w3 ⟨rfl, hy3⟩
  have hx3 := HX2.out.trans (hy3.mono HX2.out.size)
  obtain ⟨w5, hst5, b5, hon5⟩ := box_store Try.sizeOf26 (blk_on B0.out hx3) rfl [.int .u8 0, .int .u8 0, .int .u32 0, .slice none 0 0] rfl (by simp [Value.oneCell'])
  have HST5 : Hid _ := hst5
  have B5 : Hid _ := b5
  have HE : Hid (Below w.heap.size w w5) := (HB0.out.trans (hx3.mono HB0.out.size)).trans (hon5.below (Nat.le_refl _))
  clear hst5 b5 hon5 hx3 hy3 HLD HX2
  go_wp2_with first
    | ((with_reducible show wpList _ _ _ _ _ _); refine arm_store rfl (.tmp 10) (.tmp 13) 26 rfl rfl rfl HST1.out ?_)
    | ((with_reducible show wpList _ _ _ _ _ _); refine arm_store rfl (.tmp 8) (.tmp 32) 26 rfl rfl rfl HST5.out ?_)
  exact bodyPost_ret (res2t rfl rfl (agg_loadVar Try.isAgg26 Try.sizeOf26 rfl (CellsAt.of_blk B5.out))) rfl ⟨_, rfl, MsgC.zero w5, HE.out⟩
set_option maxHeartbeats 2000000 in
set_option maxRecDepth 100000 in
theorem Error6_un (code rest : Int) (fc : 0 ≤ code ∧ code ≤ 255) (fr : 0 ≤ rest ∧ rest ≤ 4294967295) (v : Value) (zs : List Int) (w : World) (h : RowC w v zs) :
    Calls Try.prog 31 #[.int .i64 3, .int .u8 code, .int .u32 rest, v] w fun e w' => ErrI 0 ⟨1, code, rest, zs.take 1232⟩ w e w' := by
  have b0 := blk_new w (.cells [.int .u8 0, .int .u8 0, .int .u32 0, .slice none 0 0].toArray 26)
  have hB0 := (Below.refl w.heap.size w).alloc (Nat.le_refl _) (.cells [.int .u8 0, .int .u8 0, .int .u32 0, .slice none 0 0].toArray 26)
  obtain ⟨W0, hW0⟩ : ∃ W0, w.alloc (.cells [.int .u8 0, .int .u8 0, .int .u32 0, .slice none 0 0].toArray 26) = W0 := ⟨_, rfl⟩
  rw [hW0] at b0 hB0
  have hlt0 : w.heap.size < W0.heap.size := (Array.getElem?_eq_some_iff.1 b0).1
  obtain ⟨W1, hst1, b1, hb1⟩ := box_new Try.sizeOf26 W0 [.int .u8 0, .int .u8 0, .int .u32 0, .slice none 0 0] rfl [.int .u8 0, .int .u8 code, .int .u32 rest, .slice none 0 0] rfl (by simp [Value.oneCell'])
  have HST1 : Hid _ := hst1
  have o1 : Only W0.heap.size W1 W1 := Only.refl _ _
  have k1 := blk_cell (j := 0) b1 rfl
  have f1 := blk_open b1 0
  have c1 := blk_set b1 0 (.int .u8 1)
  have oo1 := o1.set 0 (.int .u8 1)
  obtain ⟨W2, hW2⟩ : ∃ W2, (W1.setCell ⟨W0.heap.size, 0, none⟩ (.int .u8 1)) = W2 := ⟨_, rfl⟩
  rw [hW2] at c1 oo1
  have b2 : W2.heap[W0.heap.size]? = some (.cells [.int .u8 1, .int .u8 code, .int .u32 rest, .slice none 0 0].toArray 26) := c1
  have hx2 : Below W0.heap.size W0 W2 := hb1.trans (oo1.below (Nat.le_refl _))
  have hw2 := hB0.trans (hx2.mono hB0.size)
  have hm2 : MsgC W2 [.int .u8 1, .int .u8 code, .int .u32 rest, .slice none 0 0] ⟨1, code, rest, []⟩ := ⟨⟨_, rfl, BytesAt.none W2⟩, (by dsimp only; decide), fc, fr⟩
  have HLD : Hid (∀ W, Below W2.heap.size W2 W → (Instr.loadAt 26 (.pointer (some ⟨W0.heap.size, 0, none⟩))).run Try.prog W = .ok (.agg [.int .u8 1, .int .u8 code, .int .u32 rest, .slice none 0 0].toArray) W) := fun W hW => agg_load Try.isAgg26 Try.sizeOf26 rfl (CellsAt.of_blk (blk_on b2 hW))
  have HAB : Hid (∀ W, Below W2.heap.size W2 W → Calls Try.prog 44 #[.agg [.int .u8 1, .int .u8 code, .int .u32 rest, .slice none 0 0].toArray, v, .int .i64 1232] W fun e w' => ∃ c, e = .returned (.agg c.toArray) ∧ MsgN W w' c ⟨1, code, rest, zs.take 1232⟩ ∧ Below W.heap.size W w') := fun W hW => about_calls 1 code rest (by decide) fc fr v zs 1232 (by decide) W (h.on (hw2.trans (hW.mono hw2.size)))
  have B0 : Hid _ := b0
  have HB0 : Hid _ := hB0
  have HX2 : Hid _ := hx2
  obtain ⟨av, cv, rfl, _⟩ := h.val
  have hy0 : Below W2.heap.size W2 W2 := Below.refl _ _
  have HLT : Hid _ := hlt0
  clear hst1 b1 hb1 h hm2 b2 hw2 hx2 b0 hB0 hlt0 o1 oo1 c1
  generalize zs.take 1232 = ys at *
  go_enter Try.func31, Try.ntmps31
  go_wp2_with first
    | ((with_reducible show wpList _ _ _ _ _ _); refine arm_store rfl (.tmp 10) (.tmp 13) 26 rfl rfl rfl HST1.out ?_)
    | ((with_reducible show wpList _ _ _ _ _ _); refine arm_load rfl (.tmp 10) 26 rfl rfl (HLD.out _ hy0) ?_)
  refine Calls.mono (HAB.out _ hy0) ?_
  rintro _ w4 ⟨c, rfl, hc, hb4⟩
  have hx3 := HX2.out.trans (hy0.mono HX2.out.size)
  have hx4 := hx3.trans (hb4.mono hx3.size)
  obtain ⟨w5, hst5, b5, hon5⟩ := box_store Try.sizeOf26 (blk_on B0.out hx4) rfl c hc.1.len hc.1.one
  have hlt := HLT.out
  have hsz := hx3.size
  have HC : Hid (MsgC w5 c _) := (hc.only (by omega) hon5).1
  have HST5 : Hid _ := hst5
  have B5 : Hid _ := b5
  have HCL : Hid _ := hc.1.len
  have HE : Hid (Below w.heap.size w w5) := (HB0.out.trans (hx4.mono HB0.out.size)).trans (hon5.below (Nat.le_refl _))
  clear hst5 b5 hon5 hc hb4 hx3 hx4 hlt hsz HAB HLD HX2
  go_wp2_with ((with_reducible show wpList _ _ _ _ _ _); refine arm_store rfl (.tmp 8) (.tmp 30) 26 rfl rfl rfl HST5.out ?_)
  exact bodyPost_ret (res2t rfl rfl (agg_loadVar Try.isAgg26 Try.sizeOf26 HCL.out (CellsAt.of_blk B5.out))) rfl ⟨c, rfl, HC.out, HE.out⟩
set_option maxHeartbeats 2000000 in
set_option maxRecDepth 100000 in
theorem Error6_big (code rest : Int) (fc : 0 ≤ code ∧ code ≤ 255) (fr : 0 ≤ rest ∧ rest ≤ 4294967295) (v : Value) (zs : List Int) (w : World) (h : RowC w v zs) :
    Calls Try.prog 31 #[.int .i64 4, .int .u8 code, .int .u32 rest, v] w fun e w' => ErrI 0 ⟨2, code, rest, zs.take 1232⟩ w e w' := by
  have b0 := blk_new w (.cells [.int .u8 0, .int .u8 0, .int .u32 0, .slice none 0 0].toArray 26)
  have hB0 := (Below.refl w.heap.size w).alloc (Nat.le_refl _) (.cells [.int .u8 0, .int .u8 0, .int .u32 0, .slice none 0 0].toArray 26)
  obtain ⟨W0, hW0⟩ : ∃ W0, w.alloc (.cells [.int .u8 0, .int .u8 0, .int .u32 0, .slice none 0 0].toArray 26) = W0 := ⟨_, rfl⟩
  rw [hW0] at b0 hB0
  have hlt0 : w.heap.size < W0.heap.size := (Array.getElem?_eq_some_iff.1 b0).1
  obtain ⟨W1, hst1, b1, hb1⟩ := box_new Try.sizeOf26 W0 [.int .u8 0, .int .u8 0, .int .u32 0, .slice none 0 0] rfl [.int .u8 0, .int .u8 code, .int .u32 rest, .slice none 0 0] rfl (by simp [Value.oneCell'])
  have HST1 : Hid _ := hst1
  have o1 : Only W0.heap.size W1 W1 := Only.refl _ _
  have k1 := blk_cell (j := 0) b1 rfl
  have f1 := blk_open b1 0
  have c1 := blk_set b1 0 (.int .u8 2)
  have oo1 := o1.set 0 (.int .u8 2)
  obtain ⟨W2, hW2⟩ : ∃ W2, (W1.setCell ⟨W0.heap.size, 0, none⟩ (.int .u8 2)) = W2 := ⟨_, rfl⟩
  rw [hW2] at c1 oo1
  have b2 : W2.heap[W0.heap.size]? = some (.cells [.int .u8 2, .int .u8 code, .int .u32 rest, .slice none 0 0].toArray 26) := c1
  have hx2 : Below W0.heap.size W0 W2 := hb1.trans (oo1.below (Nat.le_refl _))
  have hw2 := hB0.trans (hx2.mono hB0.size)
  have hm2 : MsgC W2 [.int .u8 2, .int .u8 code, .int .u32 rest, .slice none 0 0] ⟨2, code, rest, []⟩ := ⟨⟨_, rfl, BytesAt.none W2⟩, (by dsimp only; decide), fc, fr⟩
  have HLD : Hid (∀ W, Below W2.heap.size W2 W → (Instr.loadAt 26 (.pointer (some ⟨W0.heap.size, 0, none⟩))).run Try.prog W = .ok (.agg [.int .u8 2, .int .u8 code, .int .u32 rest, .slice none 0 0].toArray) W) := fun W hW => agg_load Try.isAgg26 Try.sizeOf26 rfl (CellsAt.of_blk (blk_on b2 hW))
  have HAB : Hid (∀ W, Below W2.heap.size W2 W → Calls Try.prog 44 #[.agg [.int .u8 2, .int .u8 code, .int .u32 rest, .slice none 0 0].toArray, v, .int .i64 1232] W fun e w' => ∃ c, e = .returned (.agg c.toArray) ∧ MsgN W w' c ⟨2, code, rest, zs.take 1232⟩ ∧ Below W.heap.size W w') := fun W hW => about_calls 2 code rest (by decide) fc fr v zs 1232 (by decide) W (h.on (hw2.trans (hW.mono hw2.size)))
  have B0 : Hid _ := b0
  have HB0 : Hid _ := hB0
  have HX2 : Hid _ := hx2
  obtain ⟨av, cv, rfl, _⟩ := h.val
  have hy0 : Below W2.heap.size W2 W2 := Below.refl _ _
  have HLT : Hid _ := hlt0
  clear hst1 b1 hb1 h hm2 b2 hw2 hx2 b0 hB0 hlt0 o1 oo1 c1
  generalize zs.take 1232 = ys at *
  go_enter Try.func31, Try.ntmps31
  go_wp2_with first
    | ((with_reducible show wpList _ _ _ _ _ _); refine arm_store rfl (.tmp 10) (.tmp 13) 26 rfl rfl rfl HST1.out ?_)
    | ((with_reducible show wpList _ _ _ _ _ _); refine arm_load rfl (.tmp 10) 26 rfl rfl (HLD.out _ hy0) ?_)
  refine Calls.mono (HAB.out _ hy0) ?_
  rintro _ w4 ⟨c, rfl, hc, hb4⟩
  have hx3 := HX2.out.trans (hy0.mono HX2.out.size)
  have hx4 := hx3.trans (hb4.mono hx3.size)
  obtain ⟨w5, hst5, b5, hon5⟩ := box_store Try.sizeOf26 (blk_on B0.out hx4) rfl c hc.1.len hc.1.one
  have hlt := HLT.out
  have hsz := hx3.size
  have HC : Hid (MsgC w5 c _) := (hc.only (by omega) hon5).1
  have HST5 : Hid _ := hst5
  have B5 : Hid _ := b5
  have HCL : Hid _ := hc.1.len
  have HE : Hid (Below w.heap.size w w5) := (HB0.out.trans (hx4.mono HB0.out.size)).trans (hon5.below (Nat.le_refl _))
  clear hst5 b5 hon5 hc hb4 hx3 hx4 hlt hsz HAB HLD HX2
  go_wp2_with ((with_reducible show wpList _ _ _ _ _ _); refine arm_store rfl (.tmp 8) (.tmp 30) 26 rfl rfl rfl HST5.out ?_)
  exact bodyPost_ret (res2t rfl rfl (agg_loadVar Try.isAgg26 Try.sizeOf26 HCL.out (CellsAt.of_blk B5.out))) rfl ⟨c, rfl, HC.out, HE.out⟩
set_option maxHeartbeats 2000000 in
set_option maxRecDepth 100000 in
theorem Error6_time (code rest : Int) (fc : 0 ≤ code ∧ code ≤ 255) (fr : 0 ≤ rest ∧ rest ≤ 4294967295) (v : Value) (zs : List Int) (w : World) (h : RowC w v zs) :
    Calls Try.prog 31 #[.int .i64 5, .int .u8 code, .int .u32 rest, v] w fun e w' => ErrI 0 ⟨3, code, rest, zs.take 1232⟩ w e w' := by
  have b0 := blk_new w (.cells [.int .u8 0, .int .u8 0, .int .u32 0, .slice none 0 0].toArray 26)
  have hB0 := (Below.refl w.heap.size w).alloc (Nat.le_refl _) (.cells [.int .u8 0, .int .u8 0, .int .u32 0, .slice none 0 0].toArray 26)
  obtain ⟨W0, hW0⟩ : ∃ W0, w.alloc (.cells [.int .u8 0, .int .u8 0, .int .u32 0, .slice none 0 0].toArray 26) = W0 := ⟨_, rfl⟩
  rw [hW0] at b0 hB0
  have hlt0 : w.heap.size < W0.heap.size := (Array.getElem?_eq_some_iff.1 b0).1
  obtain ⟨W1, hst1, b1, hb1⟩ := box_new Try.sizeOf26 W0 [.int .u8 0, .int .u8 0, .int .u32 0, .slice none 0 0] rfl [.int .u8 0, .int .u8 code, .int .u32 rest, .slice none 0 0] rfl (by simp [Value.oneCell'])
  have HST1 : Hid _ := hst1
  have o1 : Only W0.heap.size W1 W1 := Only.refl _ _
  have k1 := blk_cell (j := 0) b1 rfl
  have f1 := blk_open b1 0
  have c1 := blk_set b1 0 (.int .u8 3)
  have oo1 := o1.set 0 (.int .u8 3)
  obtain ⟨W2, hW2⟩ : ∃ W2, (W1.setCell ⟨W0.heap.size, 0, none⟩ (.int .u8 3)) = W2 := ⟨_, rfl⟩
  rw [hW2] at c1 oo1
  have b2 : W2.heap[W0.heap.size]? = some (.cells [.int .u8 3, .int .u8 code, .int .u32 rest, .slice none 0 0].toArray 26) := c1
  have hx2 : Below W0.heap.size W0 W2 := hb1.trans (oo1.below (Nat.le_refl _))
  have hw2 := hB0.trans (hx2.mono hB0.size)
  have hm2 : MsgC W2 [.int .u8 3, .int .u8 code, .int .u32 rest, .slice none 0 0] ⟨3, code, rest, []⟩ := ⟨⟨_, rfl, BytesAt.none W2⟩, (by dsimp only; decide), fc, fr⟩
  have HLD : Hid (∀ W, Below W2.heap.size W2 W → (Instr.loadAt 26 (.pointer (some ⟨W0.heap.size, 0, none⟩))).run Try.prog W = .ok (.agg [.int .u8 3, .int .u8 code, .int .u32 rest, .slice none 0 0].toArray) W) := fun W hW => agg_load Try.isAgg26 Try.sizeOf26 rfl (CellsAt.of_blk (blk_on b2 hW))
  have HAB : Hid (∀ W, Below W2.heap.size W2 W → Calls Try.prog 44 #[.agg [.int .u8 3, .int .u8 code, .int .u32 rest, .slice none 0 0].toArray, v, .int .i64 1232] W fun e w' => ∃ c, e = .returned (.agg c.toArray) ∧ MsgN W w' c ⟨3, code, rest, zs.take 1232⟩ ∧ Below W.heap.size W w') := fun W hW => about_calls 3 code rest (by decide) fc fr v zs 1232 (by decide) W (h.on (hw2.trans (hW.mono hw2.size)))
  have B0 : Hid _ := b0
  have HB0 : Hid _ := hB0
  have HX2 : Hid _ := hx2
  obtain ⟨av, cv, rfl, _⟩ := h.val
  have hy0 : Below W2.heap.size W2 W2 := Below.refl _ _
  have HLT : Hid _ := hlt0
  clear hst1 b1 hb1 h hm2 b2 hw2 hx2 b0 hB0 hlt0 o1 oo1 c1
  generalize zs.take 1232 = ys at *
  go_enter Try.func31, Try.ntmps31
  go_wp2_with first
    | ((with_reducible show wpList _ _ _ _ _ _); refine arm_store rfl (.tmp 10) (.tmp 13) 26 rfl rfl rfl HST1.out ?_)
    | ((with_reducible show wpList _ _ _ _ _ _); refine arm_load rfl (.tmp 10) 26 rfl rfl (HLD.out _ hy0) ?_)
  refine Calls.mono (HAB.out _ hy0) ?_
  rintro _ w4 ⟨c, rfl, hc, hb4⟩
  have hx3 := HX2.out.trans (hy0.mono HX2.out.size)
  have hx4 := hx3.trans (hb4.mono hx3.size)
  obtain ⟨w5, hst5, b5, hon5⟩ := box_store Try.sizeOf26 (blk_on B0.out hx4) rfl c hc.1.len hc.1.one
  have hlt := HLT.out
  have hsz := hx3.size
  have HC : Hid (MsgC w5 c _) := (hc.only (by omega) hon5).1
  have HST5 : Hid _ := hst5
  have B5 : Hid _ := b5
  have HCL : Hid _ := hc.1.len
  have HE : Hid (Below w.heap.size w w5) := (HB0.out.trans (hx4.mono HB0.out.size)).trans (hon5.below (Nat.le_refl _))
  clear hst5 b5 hon5 hc hb4 hx3 hx4 hlt hsz HAB HLD HX2
  go_wp2_with ((with_reducible show wpList _ _ _ _ _ _); refine arm_store rfl (.tmp 8) (.tmp 30) 26 rfl rfl rfl HST5.out ?_)
  exact bodyPost_ret (res2t rfl rfl (agg_loadVar Try.isAgg26 Try.sizeOf26 HCL.out (CellsAt.of_blk B5.out))) rfl ⟨c, rfl, HC.out, HE.out⟩
set_option maxHeartbeats 2000000 in
set_option maxRecDepth 100000 in
theorem Error6_param (code rest : Int) (fc : 0 ≤ code ∧ code ≤ 255) (fr : 0 ≤ rest ∧ rest ≤ 4294967295) (v : Value) (zs : List Int) (w : World) (h : RowC w v zs) :
    Calls Try.prog 31 #[.int .i64 6, .int .u8 code, .int .u32 rest, v] w fun e w' => ErrI 0 ⟨4, code, rest, zs.take 1232⟩ w e w' := by
  have b0 := blk_new w (.cells [.int .u8 0, .int .u8 0, .int .u32 0, .slice none 0 0].toArray 26)
  have hB0 := (Below.refl w.heap.size w).alloc (Nat.le_refl _) (.cells [.int .u8 0, .int .u8 0, .int .u32 0, .slice none 0 0].toArray 26)
  obtain ⟨W0, hW0⟩ : ∃ W0, w.alloc (.cells [.int .u8 0, .int .u8 0, .int .u32 0, .slice none 0 0].toArray 26) = W0 := ⟨_, rfl⟩
  rw [hW0] at b0 hB0
  have hlt0 : w.heap.size < W0.heap.size := (Array.getElem?_eq_some_iff.1 b0).1
  obtain ⟨W1, hst1, b1, hb1⟩ := box_new Try.sizeOf26 W0 [.int .u8 0, .int .u8 0, .int .u32 0, .slice none 0 0] rfl [.int .u8 0, .int .u8 code, .int .u32 rest, .slice none 0 0] rfl (by simp [Value.oneCell'])
  have HST1 : Hid _ := hst1
  have o1 : Only W0.heap.size W1 W1 := Only.refl _ _
  have k1 := blk_cell (j := 0) b1 rfl
  have f1 := blk_open b1 0
  have c1 := blk_set b1 0 (.int .u8 4)
  have oo1 := o1.set 0 (.int .u8 4)
  obtain ⟨W2, hW2⟩ : ∃ W2, (W1.setCell ⟨W0.heap.size, 0, none⟩ (.int .u8 4)) = W2 := ⟨_, rfl⟩
  rw [hW2] at c1 oo1
  have b2 : W2.heap[W0.heap.size]? = some (.cells [.int .u8 4, .int .u8 code, .int .u32 rest, .slice none 0 0].toArray 26) := c1
  have hx2 : Below W0.heap.size W0 W2 := hb1.trans (oo1.below (Nat.le_refl _))
  have hw2 := hB0.trans (hx2.mono hB0.size)
  have hm2 : MsgC W2 [.int .u8 4, .int .u8 code, .int .u32 rest, .slice none 0 0] ⟨4, code, rest, []⟩ := ⟨⟨_, rfl, BytesAt.none W2⟩, (by dsimp only; decide), fc, fr⟩
  have HLD : Hid (∀ W, Below W2.heap.size W2 W → (Instr.loadAt 26 (.pointer (some ⟨W0.heap.size, 0, none⟩))).run Try.prog W = .ok (.agg [.int .u8 4, .int .u8 code, .int .u32 rest, .slice none 0 0].toArray) W) := fun W hW => agg_load Try.isAgg26 Try.sizeOf26 rfl (CellsAt.of_blk (blk_on b2 hW))
  have HAB : Hid (∀ W, Below W2.heap.size W2 W → Calls Try.prog 44 #[.agg [.int .u8 4, .int .u8 code, .int .u32 rest, .slice none 0 0].toArray, v, .int .i64 1232] W fun e w' => ∃ c, e = .returned (.agg c.toArray) ∧ MsgN W w' c ⟨4, code, rest, zs.take 1232⟩ ∧ Below W.heap.size W w') := fun W hW => about_calls 4 code rest (by decide) fc fr v zs 1232 (by decide) W (h.on (hw2.trans (hW.mono hw2.size)))
  have B0 : Hid _ := b0
  have HB0 : Hid _ := hB0
  have HX2 : Hid _ := hx2
  obtain ⟨av, cv, rfl, _⟩ := h.val
  have hy0 : Below W2.heap.size W2 W2 := Below.refl _ _
  have HLT : Hid _ := hlt0
  clear hst1 b1 hb1 h hm2 b2 hw2 hx2 b0 hB0 hlt0 o1 oo1 c1
  generalize zs.take 1232 = ys at *
  go_enter Try.func31, Try.ntmps31
  go_wp2_with first
    | ((with_reducible show wpList _ _ _ _ _ _); refine arm_store rfl (.tmp 10) (.tmp 13) 26 rfl rfl rfl HST1.out ?_)
    | ((with_reducible show wpList _ _ _ _ _ _); refine arm_load rfl (.tmp 10) 26 rfl rfl (HLD.out _ hy0) ?_)
  refine Calls.mono (HAB.out _ hy0) ?_
  rintro _ w4 ⟨c, rfl, hc, hb4⟩
  have hx3 := HX2.out.trans (hy0.mono HX2.out.size)
  have hx4 := hx3.trans (hb4.mono hx3.size)
  obtain ⟨w5, hst5, b5, hon5⟩ := box_store Try.sizeOf26 (blk_on B0.out hx4) rfl c hc.1.len hc.1.one
  have hlt := HLT.out
  have hsz := hx3.size
  have HC : Hid (MsgC w5 c _) := (hc.only (by omega) hon5).1
  have HST5 : Hid _ := hst5
  have B5 : Hid _ := b5
  have HCL : Hid _ := hc.1.len
  have HE : Hid (Below w.heap.size w w5) := (HB0.out.trans (hx4.mono HB0.out.size)).trans (hon5.below (Nat.le_refl _))
  clear hst5 b5 hon5 hc hb4 hx3 hx4 hlt hsz HAB HLD HX2
  go_wp2_with ((with_reducible show wpList _ _ _ _ _ _); refine arm_store rfl (.tmp 8) (.tmp 30) 26 rfl rfl rfl HST5.out ?_)
  exact bodyPost_ret (res2t rfl rfl (agg_loadVar Try.isAgg26 Try.sizeOf26 HCL.out (CellsAt.of_blk B5.out))) rfl ⟨c, rfl, HC.out, HE.out⟩
set_option maxHeartbeats 2000000 in
set_option maxRecDepth 100000 in
theorem Error6_no (kind code rest : Int) (fc : 0 ≤ code ∧ code ≤ 255) (fr : 0 ≤ rest ∧ rest ≤ 4294967295) (hkind : kind ≠ 3 ∧ kind ≠ 4 ∧ kind ≠ 5 ∧ kind ≠ 6) (v : Value) (zs : List Int) (w : World) (h : RowC w v zs) :
    Calls Try.prog 31 #[.int .i64 kind, .int .u8 code, .int .u32 rest, v] w fun e w' => ErrI 72 ⟨0, 0, 0, []⟩ w e w' := by
  have b0 := blk_new w (.cells [.int .u8 0, .int .u8 0, .int .u32 0, .slice none 0 0].toArray 26)
  have hB0 := (Below.refl w.heap.size w).alloc (Nat.le_refl _) (.cells [.int .u8 0, .int .u8 0, .int .u32 0, .slice none 0 0].toArray 26)
  obtain ⟨W0, hW0⟩ : ∃ W0, w.alloc (.cells [.int .u8 0, .int .u8 0, .int .u32 0, .slice none 0 0].toArray 26) = W0 := ⟨_, rfl⟩
  rw [hW0] at b0 hB0
  have hlt0 : w.heap.size < W0.heap.size := (Array.getElem?_eq_some_iff.1 b0).1
  obtain ⟨W1, hst1, b1, hb1⟩ := box_new Try.sizeOf26 W0 [.int .u8 0, .int .u8 0, .int .u32 0, .slice none 0 0] rfl [.int .u8 0, .int .u8 code, .int .u32 rest, .slice none 0 0] rfl (by simp [Value.oneCell'])
  have HST1 : Hid _ := hst1
  obtain ⟨av, cv, rfl, _⟩ := h.val
  have B0 : Hid _ := b0
  have HB0 : Hid _ := hB0
  have HLT : Hid _ := hlt0
  obtain ⟨n3, n4, n5, n6⟩ := hkind
  have q3 : (kind == 3) = false := by simpa using n3
  have q4 : (kind == 4) = false := by simpa using n4
  have q5 : (kind == 5) = false := by simpa using n5
  have q6 : (kind == 6) = false := by simpa using n6
  obtain ⟨w5, hst5, b5, hon5⟩ := box_store Try.sizeOf26 (blk_on b0 hb1) rfl [.int .u8 0, .int .u8 0, .int .u32 0, .slice none 0 0] rfl (by simp [Value.oneCell'])
  have HST5 : Hid _ := hst5
  have B5 : Hid _ := b5
  have HE : Hid (Below w.heap.size w w5) := (hB0.trans (hb1.mono hB0.size)).trans (hon5.below (Nat.le_refl _))
  clear hst1 b1 hb1 h b0 hB0 hlt0 hst5 b5 hon5 n3 n4 n5 n6
  go_enter Try.func31, Try.ntmps31
  go_wp2_with first
    | ((with_reducible show wpList _ _ _ _ _ _); refine arm_store rfl (.tmp 10) (.tmp 13) 26 rfl rfl rfl HST1.out ?_)
    | ((with_reducible show wpList _ _ _ _ _ _); refine arm_store rfl (.tmp 8) (.tmp 15) 26 rfl rfl rfl HST5.out ?_)
  exact bodyPost_ret (res2t rfl rfl (agg_loadVar Try.isAgg26 Try.sizeOf26 rfl (CellsAt.of_blk B5.out))) rfl ⟨_, rfl, MsgC.zero w5, HE.out⟩

end Go.Proofs.Ytljmamogefgiaaa
