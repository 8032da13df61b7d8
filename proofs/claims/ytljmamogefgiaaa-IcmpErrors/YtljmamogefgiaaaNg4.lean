/-
  The document's Error4 and Error6 of package icmp.
-/
import Derived.Test.YtljmamogefgiaaaNg3
namespace Go.Proofs.Ytljmamogefgiaaa
open Go Go.RowKit Go.Shelf
set_option linter.unusedVariables false
set_option linter.unusedSimpArgs false

theorem IsError_calls (kind : Int) (w : World) : Calls Try.prog 45 #[.int .i64 kind] w fun e w' => e = .returned (.bool (decide (3 ≤ kind ∧ kind ≤ 6))) ∧ w' = w := by
  by_cases h1 : 3 ≤ kind
  · by_cases h2 : kind ≤ 6
    · have e : decide (3 ≤ kind ∧ kind ≤ 6) = true := by simp; omega
      rw [e]
      go_enter Try.func45, Try.ntmps45
      go_wp2
      go_ret
      exact ⟨rfl, rfl⟩
    · have e : decide (3 ≤ kind ∧ kind ≤ 6) = false := by simp; omega
      have h2 : 6 < kind := by omega
      rw [e]
      go_enter Try.func45, Try.ntmps45
      go_wp2
      go_ret
      exact ⟨rfl, rfl⟩
  · have e : decide (3 ≤ kind ∧ kind ≤ 6) = false := by simp; omega
    have h1 : kind < 3 := by omega
    rw [e]
    go_enter Try.func45, Try.ntmps45
    go_wp2
    go_ret
    exact ⟨rfl, rfl⟩

set_option maxHeartbeats 2000000 in
set_option maxRecDepth 100000 in
theorem RError4_big (code rest : Int) (fc : 0 ≤ code ∧ code ≤ 255) (fr : 0 ≤ rest ∧ rest ≤ 4294967295) (v : Value) (zs : List Int) (w : World) (h : RowC w v zs) :
    Calls Try.prog 30 #[.int .i64 4, .int .u8 code, .int .u32 rest, v] w fun e w' => ErrI 0 ⟨3, 4, rest, zs.take 548⟩ w e w' := by
  have b0 := blk_new w (.cells [.int .u8 0, .int .u8 0, .int .u32 0, .slice none 0 0].toArray 26)
  have hB0 := (Below.refl w.heap.size w).alloc (Nat.le_refl _) (.cells [.int .u8 0, .int .u8 0, .int .u32 0, .slice none 0 0].toArray 26)
  obtain ⟨W0, hW0⟩ : ∃ W0, w.alloc (.cells [.int .u8 0, .int .u8 0, .int .u32 0, .slice none 0 0].toArray 26) = W0 := ⟨_, rfl⟩
  rw [hW0] at b0 hB0
  have hlt0 : w.heap.size < W0.heap.size := (Array.getElem?_eq_some_iff.1 b0).1
  have HIS : Hid (Calls Try.prog 45 #[.int .i64 4] W0 fun e w' => e = .returned (.bool true) ∧ w' = W0) := IsError_calls 4 W0
  have HFI : Hid _ := first_calls v zs 548 (by decide) W0 (h.on hB0)
  have B0 : Hid _ := b0
  have HB0 : Hid _ := hB0
  obtain ⟨av, cv, rfl, _⟩ := h.val
  have HLT : Hid _ := hlt0
  clear h b0 hB0 hlt0
  generalize zs.take 548 = ys at *
  go_enter Try.func30, Try.ntmps30
  go_wp2_with fail
  refine Calls.mono HIS.out ?_
  rintro _ w0 ⟨rfl, hw0⟩
  obtain rfl : W0 = w0 := hw0.symm
  clear hw0
  go_wp2_with fail
  refine Calls.mono HFI.out ?_
  rintro _ w1 ⟨u, rfl, hu, hb1, hn⟩
  have hsl : u.oneCell' = true := by
    obtain ⟨x, y, rfl, _⟩ := hu.val
    rfl
  obtain ⟨W1, hst1, b1, hc1⟩ := box_new Try.sizeOf26 w1 [.int .u8 0, .int .u8 0, .int .u32 0, .slice none 0 0] rfl [.int .u8 3, .int .u8 code, .int .u32 rest, u] rfl (by simp [Value.oneCell']; exact hsl)
  have HST1 : Hid _ := hst1
  have k1 := blk_cell (j := 1) b1 rfl
  have f1 := blk_open b1 1
  have c1 := blk_set b1 1 (.int .u8 4)
  have oo1 := (Only.refl w1.heap.size W1).set 1 (.int .u8 4)
  obtain ⟨W2, hW2⟩ : ∃ W2, (W1.setCell ⟨w1.heap.size, 1, none⟩ (.int .u8 4)) = W2 := ⟨_, rfl⟩
  rw [hW2] at c1 oo1
  have hx21 : Below w1.heap.size w1 W2 := hc1.trans (oo1.below (Nat.le_refl _))
  have b2 : W2.heap[w1.heap.size]? = some (.cells [.int .u8 3, .int .u8 4, .int .u32 rest, u].toArray 26) := c1
  have hx2 : Below W0.heap.size W0 W2 := hb1.trans (hx21.mono hb1.size)
  have HLD : Hid _ := agg_load (t := 26) Try.isAgg26 Try.sizeOf26 rfl (CellsAt.of_blk b2)
  obtain ⟨w5, hst5, b5, hon5⟩ := box_store Try.sizeOf26 (blk_on B0.out hx2) rfl [.int .u8 3, .int .u8 4, .int .u32 rest, u] rfl (by simp [Value.oneCell']; exact hsl)
  have hlt := HLT.out
  have hu5 : BytesAt w5.heap.size w5 u ys := hn.only (by omega) (hu.later hx21) hon5
  have HC : Hid (MsgC w5 [.int .u8 3, .int .u8 4, .int .u32 rest, u] ⟨3, 4, rest, ys⟩) := ⟨⟨u, rfl, hu5⟩, by dsimp only; decide, by dsimp only; decide, fr⟩
  have HST5 : Hid _ := hst5
  have B5 : Hid _ := b5
  have HE : Hid (Below w.heap.size w w5) := (HB0.out.trans (hx2.mono HB0.out.size)).trans (hon5.below (Nat.le_refl _))
  obtain ⟨xu, ku, rfl, _⟩ := hu.val
  clear hst1 b1 hc1 hu hb1 hn hsl hx21 b2 hx2 hst5 b5 hon5 hlt hu5 oo1 c1
  go_wp2_with first
    | ((with_reducible show wpList _ _ _ _ _ _); refine arm_store rfl (.tmp 10) (.tmp 27) 26 rfl rfl rfl HST1.out ?_)
    | ((with_reducible show wpList _ _ _ _ _ _); refine arm_load rfl (.tmp 10) 26 rfl rfl HLD.out ?_)
    | ((with_reducible show wpList _ _ _ _ _ _); refine arm_store rfl (.tmp 8) (.tmp 38) 26 rfl rfl rfl HST5.out ?_)
  exact bodyPost_ret (res2t rfl rfl (agg_loadVar Try.isAgg26 Try.sizeOf26 rfl (CellsAt.of_blk B5.out))) rfl ⟨_, rfl, HC.out, HE.out⟩
set_option maxHeartbeats 2000000 in
set_option maxRecDepth 100000 in
theorem RError4_un (code rest : Int) (fc : 0 ≤ code ∧ code ≤ 255) (fr : 0 ≤ rest ∧ rest ≤ 4294967295) (hcode : code ≠ 4) (v : Value) (zs : List Int) (w : World) (h : RowC w v zs) :
    Calls Try.prog 30 #[.int .i64 3, .int .u8 code, .int .u32 rest, v] w fun e w' => ErrI 0 ⟨3, code, rest, zs.take 548⟩ w e w' := by
  have b0 := blk_new w (.cells [.int .u8 0, .int .u8 0, .int .u32 0, .slice none 0 0].toArray 26)
  have hB0 := (Below.refl w.heap.size w).alloc (Nat.le_refl _) (.cells [.int .u8 0, .int .u8 0, .int .u32 0, .slice none 0 0].toArray 26)
  obtain ⟨W0, hW0⟩ : ∃ W0, w.alloc (.cells [.int .u8 0, .int .u8 0, .int .u32 0, .slice none 0 0].toArray 26) = W0 := ⟨_, rfl⟩
  rw [hW0] at b0 hB0
  have hlt0 : w.heap.size < W0.heap.size := (Array.getElem?_eq_some_iff.1 b0).1
  have HIS : Hid (Calls Try.prog 45 #[.int .i64 3] W0 fun e w' => e = .returned (.bool true) ∧ w' = W0) := IsError_calls 3 W0
  have HFI : Hid _ := first_calls v zs 548 (by decide) W0 (h.on hB0)
  have B0 : Hid _ := b0
  have HB0 : Hid _ := hB0
  obtain ⟨av, cv, rfl, _⟩ := h.val
  have HLT : Hid _ := hlt0
  have hq4 : (code == 4) = false := by simpa using hcode
  clear h b0 hB0 hlt0
  generalize zs.take 548 = ys at *
  go_enter Try.func30, Try.ntmps30
  go_wp2_with fail
  refine Calls.mono HIS.out ?_
  rintro _ w0 ⟨rfl, hw0⟩
  obtain rfl : W0 = w0 := hw0.symm
  clear hw0
  go_wp2_with fail
  refine Calls.mono HFI.out ?_
  rintro _ w1 ⟨u, rfl, hu, hb1, hn⟩
  have hsl : u.oneCell' = true := by
    obtain ⟨x, y, rfl, _⟩ := hu.val
    rfl
  obtain ⟨W1, hst1, b1, hc1⟩ := box_new Try.sizeOf26 w1 [.int .u8 0, .int .u8 0, .int .u32 0, .slice none 0 0] rfl [.int .u8 3, .int .u8 code, .int .u32 rest, u] rfl (by simp [Value.oneCell']; exact hsl)
  have HST1 : Hid _ := hst1
  have hx21 : Below w1.heap.size w1 W1 := hc1
  have b2 : W1.heap[w1.heap.size]? = some (.cells [.int .u8 3, .int .u8 code, .int .u32 rest, u].toArray 26) := b1
  have hx2 : Below W0.heap.size W0 W1 := hb1.trans (hx21.mono hb1.size)
  have HLD : Hid _ := agg_load (t := 26) Try.isAgg26 Try.sizeOf26 rfl (CellsAt.of_blk b2)
  obtain ⟨w5, hst5, b5, hon5⟩ := box_store Try.sizeOf26 (blk_on B0.out hx2) rfl [.int .u8 3, .int .u8 code, .int .u32 rest, u] rfl (by simp [Value.oneCell']; exact hsl)
  have hlt := HLT.out
  have hu5 : BytesAt w5.heap.size w5 u ys := hn.only (by omega) (hu.later hx21) hon5
  have HC : Hid (MsgC w5 [.int .u8 3, .int .u8 code, .int .u32 rest, u] ⟨3, code, rest, ys⟩) := ⟨⟨u, rfl, hu5⟩, by dsimp only; decide, fc, fr⟩
  have HST5 : Hid _ := hst5
  have B5 : Hid _ := b5
  have HE : Hid (Below w.heap.size w w5) := (HB0.out.trans (hx2.mono HB0.out.size)).trans (hon5.below (Nat.le_refl _))
  obtain ⟨xu, ku, rfl, _⟩ := hu.val
  clear hst1 b1 hc1 hu hb1 hn hsl hx21 b2 hx2 hst5 b5 hon5 hlt hu5 
  go_wp2_with first
    | ((with_reducible show wpList _ _ _ _ _ _); refine arm_store rfl (.tmp 10) (.tmp 27) 26 rfl rfl rfl HST1.out ?_)
    | ((with_reducible show wpList _ _ _ _ _ _); refine arm_load rfl (.tmp 10) 26 rfl rfl HLD.out ?_)
    | ((with_reducible show wpList _ _ _ _ _ _); refine arm_store rfl (.tmp 8) (.tmp 38) 26 rfl rfl rfl HST5.out ?_)
  exact bodyPost_ret (res2t rfl rfl (agg_loadVar Try.isAgg26 Try.sizeOf26 rfl (CellsAt.of_blk B5.out))) rfl ⟨_, rfl, HC.out, HE.out⟩
set_option maxHeartbeats 2000000 in
set_option maxRecDepth 100000 in
theorem RError4_time (code rest : Int) (fc : 0 ≤ code ∧ code ≤ 255) (fr : 0 ≤ rest ∧ rest ≤ 4294967295) (v : Value) (zs : List Int) (w : World) (h : RowC w v zs) :
    Calls Try.prog 30 #[.int .i64 5, .int .u8 code, .int .u32 rest, v] w fun e w' => ErrI 0 ⟨11, code, rest, zs.take 548⟩ w e w' := by
  have b0 := blk_new w (.cells [.int .u8 0, .int .u8 0, .int .u32 0, .slice none 0 0].toArray 26)
  have hB0 := (Below.refl w.heap.size w).alloc (Nat.le_refl _) (.cells [.int .u8 0, .int .u8 0, .int .u32 0, .slice none 0 0].toArray 26)
  obtain ⟨W0, hW0⟩ : ∃ W0, w.alloc (.cells [.int .u8 0, .int .u8 0, .int .u32 0, .slice none 0 0].toArray 26) = W0 := ⟨_, rfl⟩
  rw [hW0] at b0 hB0
  have hlt0 : w.heap.size < W0.heap.size := (Array.getElem?_eq_some_iff.1 b0).1
  have HIS : Hid (Calls Try.prog 45 #[.int .i64 5] W0 fun e w' => e = .returned (.bool true) ∧ w' = W0) := IsError_calls 5 W0
  have HFI : Hid _ := first_calls v zs 548 (by decide) W0 (h.on hB0)
  have B0 : Hid _ := b0
  have HB0 : Hid _ := hB0
  obtain ⟨av, cv, rfl, _⟩ := h.val
  have HLT : Hid _ := hlt0
  clear h b0 hB0 hlt0
  generalize zs.take 548 = ys at *
  go_enter Try.func30, Try.ntmps30
  go_wp2_with fail
  refine Calls.mono HIS.out ?_
  rintro _ w0 ⟨rfl, hw0⟩
  obtain rfl : W0 = w0 := hw0.symm
  clear hw0
  go_wp2_with fail
  refine Calls.mono HFI.out ?_
  rintro _ w1 ⟨u, rfl, hu, hb1, hn⟩
  have hsl : u.oneCell' = true := by
    obtain ⟨x, y, rfl, _⟩ := hu.val
    rfl
  obtain ⟨W1, hst1, b1, hc1⟩ := box_new Try.sizeOf26 w1 [.int .u8 0, .int .u8 0, .int .u32 0, .slice none 0 0] rfl [.int .u8 3, .int .u8 code, .int .u32 rest, u] rfl (by simp [Value.oneCell']; exact hsl)
  have HST1 : Hid _ := hst1
  have k1 := blk_cell (j := 0) b1 rfl
  have f1 := blk_open b1 0
  have c1 := blk_set b1 0 (.int .u8 11)
  have oo1 := (Only.refl w1.heap.size W1).set 0 (.int .u8 11)
  obtain ⟨W2, hW2⟩ : ∃ W2, (W1.setCell ⟨w1.heap.size, 0, none⟩ (.int .u8 11)) = W2 := ⟨_, rfl⟩
  rw [hW2] at c1 oo1
  have hx21 : Below w1.heap.size w1 W2 := hc1.trans (oo1.below (Nat.le_refl _))
  have b2 : W2.heap[w1.heap.size]? = some (.cells [.int .u8 11, .int .u8 code, .int .u32 rest, u].toArray 26) := c1
  have hx2 : Below W0.heap.size W0 W2 := hb1.trans (hx21.mono hb1.size)
  have HLD : Hid _ := agg_load (t := 26) Try.isAgg26 Try.sizeOf26 rfl (CellsAt.of_blk b2)
  obtain ⟨w5, hst5, b5, hon5⟩ := box_store Try.sizeOf26 (blk_on B0.out hx2) rfl [.int .u8 11, .int .u8 code, .int .u32 rest, u] rfl (by simp [Value.oneCell']; exact hsl)
  have hlt := HLT.out
  have hu5 : BytesAt w5.heap.size w5 u ys := hn.only (by omega) (hu.later hx21) hon5
  have HC : Hid (MsgC w5 [.int .u8 11, .int .u8 code, .int .u32 rest, u] ⟨11, code, rest, ys⟩) := ⟨⟨u, rfl, hu5⟩, by dsimp only; decide, fc, fr⟩
  have HST5 : Hid _ := hst5
  have B5 : Hid _ := b5
  have HE : Hid (Below w.heap.size w w5) := (HB0.out.trans (hx2.mono HB0.out.size)).trans (hon5.below (Nat.le_refl _))
  obtain ⟨xu, ku, rfl, _⟩ := hu.val
  clear hst1 b1 hc1 hu hb1 hn hsl hx21 b2 hx2 hst5 b5 hon5 hlt hu5 oo1 c1
  go_wp2_with first
    | ((with_reducible show wpList _ _ _ _ _ _); refine arm_store rfl (.tmp 10) (.tmp 27) 26 rfl rfl rfl HST1.out ?_)
    | ((with_reducible show wpList _ _ _ _ _ _); refine arm_load rfl (.tmp 10) 26 rfl rfl HLD.out ?_)
    | ((with_reducible show wpList _ _ _ _ _ _); refine arm_store rfl (.tmp 8) (.tmp 38) 26 rfl rfl rfl HST5.out ?_)
  exact bodyPost_ret (res2t rfl rfl (agg_loadVar Try.isAgg26 Try.sizeOf26 rfl (CellsAt.of_blk B5.out))) rfl ⟨_, rfl, HC.out, HE.out⟩
set_option maxHeartbeats 2000000 in
set_option maxRecDepth 100000 in
theorem RError4_param (code rest : Int) (fc : 0 ≤ code ∧ code ≤ 255) (fr : 0 ≤ rest ∧ rest ≤ 4294967295) (v : Value) (zs : List Int) (w : World) (h : RowC w v zs) :
    Calls Try.prog 30 #[.int .i64 6, .int .u8 code, .int .u32 rest, v] w fun e w' => ErrI 0 ⟨12, code, rest, zs.take 548⟩ w e w' := by
  have b0 := blk_new w (.cells [.int .u8 0, .int .u8 0, .int .u32 0, .slice none 0 0].toArray 26)
  have hB0 := (Below.refl w.heap.size w).alloc (Nat.le_refl _) (.cells [.int .u8 0, .int .u8 0, .int .u32 0, .slice none 0 0].toArray 26)
  obtain ⟨W0, hW0⟩ : ∃ W0, w.alloc (.cells [.int .u8 0, .int .u8 0, .int .u32 0, .slice none 0 0].toArray 26) = W0 := ⟨_, rfl⟩
  rw [hW0] at b0 hB0
  have hlt0 : w.heap.size < W0.heap.size := (Array.getElem?_eq_some_iff.1 b0).1
  have HIS : Hid (Calls Try.prog 45 #[.int .i64 6] W0 fun e w' => e = .returned (.bool true) ∧ w' = W0) := IsError_calls 6 W0
  have HFI : Hid _ := first_calls v zs 548 (by decide) W0 (h.on hB0)
  have B0 : Hid _ := b0
  have HB0 : Hid _ := hB0
  obtain ⟨av, cv, rfl, _⟩ := h.val
  have HLT : Hid _ := hlt0
  clear h b0 hB0 hlt0
  generalize zs.take 548 = ys at *
  go_enter Try.func30, Try.ntmps30
  go_wp2_with fail
  refine Calls.mono HIS.out ?_
  rintro _ w0 ⟨rfl, hw0⟩
  obtain rfl : W0 = w0 := hw0.symm
  clear hw0
  go_wp2_with fail
  refine Calls.mono HFI.out ?_
  rintro _ w1 ⟨u, rfl, hu, hb1, hn⟩
  have hsl : u.oneCell' = true := by
    obtain ⟨x, y, rfl, _⟩ := hu.val
    rfl
  obtain ⟨W1, hst1, b1, hc1⟩ := box_new Try.sizeOf26 w1 [.int .u8 0, .int .u8 0, .int .u32 0, .slice none 0 0] rfl [.int .u8 3, .int .u8 code, .int .u32 rest, u] rfl (by simp [Value.oneCell']; exact hsl)
  have HST1 : Hid _ := hst1
  have k1 := blk_cell (j := 0) b1 rfl
  have f1 := blk_open b1 0
  have c1 := blk_set b1 0 (.int .u8 12)
  have oo1 := (Only.refl w1.heap.size W1).set 0 (.int .u8 12)
  obtain ⟨W2, hW2⟩ : ∃ W2, (W1.setCell ⟨w1.heap.size, 0, none⟩ (.int .u8 12)) = W2 := ⟨_, rfl⟩
  rw [hW2] at c1 oo1
  have hx21 : Below w1.heap.size w1 W2 := hc1.trans (oo1.below (Nat.le_refl _))
  have b2 : W2.heap[w1.heap.size]? = some (.cells [.int .u8 12, .int .u8 code, .int .u32 rest, u].toArray 26) := c1
  have hx2 : Below W0.heap.size W0 W2 := hb1.trans (hx21.mono hb1.size)
  have HLD : Hid _ := agg_load (t := 26) Try.isAgg26 Try.sizeOf26 rfl (CellsAt.of_blk b2)
  obtain ⟨w5, hst5, b5, hon5⟩ := box_store Try.sizeOf26 (blk_on B0.out hx2) rfl [.int .u8 12, .int .u8 code, .int .u32 rest, u] rfl (by simp [Value.oneCell']; exact hsl)
  have hlt := HLT.out
  have hu5 : BytesAt w5.heap.size w5 u ys := hn.only (by omega) (hu.later hx21) hon5
  have HC : Hid (MsgC w5 [.int .u8 12, .int .u8 code, .int .u32 rest, u] ⟨12, code, rest, ys⟩) := ⟨⟨u, rfl, hu5⟩, by dsimp only; decide, fc, fr⟩
  have HST5 : Hid _ := hst5
  have B5 : Hid _ := b5
  have HE : Hid (Below w.heap.size w w5) := (HB0.out.trans (hx2.mono HB0.out.size)).trans (hon5.below (Nat.le_refl _))
  obtain ⟨xu, ku, rfl, _⟩ := hu.val
  clear hst1 b1 hc1 hu hb1 hn hsl hx21 b2 hx2 hst5 b5 hon5 hlt hu5 oo1 c1
  go_wp2_with first
    | ((with_reducible show wpList _ _ _ _ _ _); refine arm_store rfl (.tmp 10) (.tmp 27) 26 rfl rfl rfl HST1.out ?_)
    | ((with_reducible show wpList _ _ _ _ _ _); refine arm_load rfl (.tmp 10) 26 rfl rfl HLD.out ?_)
    | ((with_reducible show wpList _ _ _ _ _ _); refine arm_store rfl (.tmp 8) (.tmp 38) 26 rfl rfl rfl HST5.out ?_)
  exact bodyPost_ret (res2t rfl rfl (agg_loadVar Try.isAgg26 Try.sizeOf26 rfl (CellsAt.of_blk B5.out))) rfl ⟨_, rfl, HC.out, HE.out⟩
set_option maxHeartbeats 2000000 in
set_option maxRecDepth 100000 in
theorem RError4_no (kind code rest : Int) (fc : 0 ≤ code ∧ code ≤ 255) (fr : 0 ≤ rest ∧ rest ≤ 4294967295) (hkind : ¬ (3 ≤ kind ∧ kind ≤ 6)) (v : Value) (zs : List Int) (w : World) (h : RowC w v zs) :
    Calls Try.prog 30 #[.int .i64 kind, .int .u8 code, .int .u32 rest, v] w fun e w' => ErrI 72 ⟨0, 0, 0, []⟩ w e w' := by
  have b0 := blk_new w (.cells [.int .u8 0, .int .u8 0, .int .u32 0, .slice none 0 0].toArray 26)
  have hB0 := (Below.refl w.heap.size w).alloc (Nat.le_refl _) (.cells [.int .u8 0, .int .u8 0, .int .u32 0, .slice none 0 0].toArray 26)
  obtain ⟨W0, hW0⟩ : ∃ W0, w.alloc (.cells [.int .u8 0, .int .u8 0, .int .u32 0, .slice none 0 0].toArray 26) = W0 := ⟨_, rfl⟩
  rw [hW0] at b0 hB0
  have hlt0 : w.heap.size < W0.heap.size := (Array.getElem?_eq_some_iff.1 b0).1
  have HIS : Hid (Calls Try.prog 45 #[.int .i64 kind] W0 fun e w' => e = .returned (.bool false) ∧ w' = W0) := by
    have k := IsError_calls kind W0
    rw [decide_eq_false hkind] at k
    exact k
  obtain ⟨av, cv, rfl, _⟩ := h.val
  obtain ⟨w5, hst5, b5, hon5⟩ := box_store Try.sizeOf26 b0 rfl [.int .u8 0, .int .u8 0, .int .u32 0, .slice none 0 0] rfl (by simp [Value.oneCell'])
  have HST5 : Hid _ := hst5
  have B5 : Hid _ := b5
  have HE : Hid (Below w.heap.size w w5) := hB0.trans (hon5.below (Nat.le_refl _))
  clear h b0 hB0 hlt0 hst5 b5 hon5
  go_enter Try.func30, Try.ntmps30
  go_wp2_with fail
  refine Calls.mono HIS.out ?_
  rintro _ _ ⟨rfl, rfl⟩
  go_wp2_with first
    | ((with_reducible show wpList _ _ _ _ _ _); refine arm_store rfl (.tmp 8) (.tmp 22) 26 rfl rfl rfl HST5.out ?_)
  exact bodyPost_ret (res2t rfl rfl (agg_loadVar Try.isAgg26 Try.sizeOf26 rfl (CellsAt.of_blk B5.out))) rfl ⟨_, rfl, MsgC.zero w5, HE.out⟩
set_option maxHeartbeats 2000000 in
set_option maxRecDepth 100000 in
theorem RError4_un4 (code rest : Int) (fc : 0 ≤ code ∧ code ≤ 255) (fr : 0 ≤ rest ∧ rest ≤ 4294967295) (hcode : code = 4) (v : Value) (zs : List Int) (w : World) (h : RowC w v zs) :
    Calls Try.prog 30 #[.int .i64 3, .int .u8 code, .int .u32 rest, v] w fun e w' => ErrI 72 ⟨0, 0, 0, []⟩ w e w' := by
  have b0 := blk_new w (.cells [.int .u8 0, .int .u8 0, .int .u32 0, .slice none 0 0].toArray 26)
  have hB0 := (Below.refl w.heap.size w).alloc (Nat.le_refl _) (.cells [.int .u8 0, .int .u8 0, .int .u32 0, .slice none 0 0].toArray 26)
  obtain ⟨W0, hW0⟩ : ∃ W0, w.alloc (.cells [.int .u8 0, .int .u8 0, .int .u32 0, .slice none 0 0].toArray 26) = W0 := ⟨_, rfl⟩
  rw [hW0] at b0 hB0
  have hlt0 : w.heap.size < W0.heap.size := (Array.getElem?_eq_some_iff.1 b0).1
  subst hcode
  have HIS : Hid (Calls Try.prog 45 #[.int .i64 3] W0 fun e w' => e = .returned (.bool true) ∧ w' = W0) := IsError_calls 3 W0
  obtain ⟨av, cv, rfl, _⟩ := h.val
  obtain ⟨w5, hst5, b5, hon5⟩ := box_store Try.sizeOf26 b0 rfl [.int .u8 0, .int .u8 0, .int .u32 0, .slice none 0 0] rfl (by simp [Value.oneCell'])
  have HST5 : Hid _ := hst5
  have B5 : Hid _ := b5
  have HE : Hid (Below w.heap.size w w5) := hB0.trans (hon5.below (Nat.le_refl _))
  clear h b0 hB0 hlt0 hst5 b5 hon5
  go_enter Try.func30, Try.ntmps30
  go_wp2_with fail
  refine Calls.mono HIS.out ?_
  rintro _ _ ⟨rfl, rfl⟩
  go_wp2_with first
    | ((with_reducible show wpList _ _ _ _ _ _); refine arm_store rfl (.tmp 8) (.tmp 22) 26 rfl rfl rfl HST5.out ?_)
  exact bodyPost_ret (res2t rfl rfl (agg_loadVar Try.isAgg26 Try.sizeOf26 rfl (CellsAt.of_blk B5.out))) rfl ⟨_, rfl, MsgC.zero w5, HE.out⟩
set_option maxHeartbeats 2000000 in
set_option maxRecDepth 100000 in
theorem RError6_un (code rest : Int) (fc : 0 ≤ code ∧ code ≤ 255) (fr : 0 ≤ rest ∧ rest ≤ 4294967295) (v : Value) (zs : List Int) (w : World) (h : RowC w v zs) :
    Calls Try.prog 32 #[.int .i64 3, .int .u8 code, .int .u32 rest, v] w fun e w' => ErrI 0 ⟨1, code, rest, zs.take 1232⟩ w e w' := by
  have b0 := blk_new w (.cells [.int .u8 0, .int .u8 0, .int .u32 0, .slice none 0 0].toArray 26)
  have hB0 := (Below.refl w.heap.size w).alloc (Nat.le_refl _) (.cells [.int .u8 0, .int .u8 0, .int .u32 0, .slice none 0 0].toArray 26)
  obtain ⟨W0, hW0⟩ : ∃ W0, w.alloc (.cells [.int .u8 0, .int .u8 0, .int .u32 0, .slice none 0 0].toArray 26) = W0 := ⟨_, rfl⟩
  rw [hW0] at b0 hB0
  have hlt0 : w.heap.size < W0.heap.size := (Array.getElem?_eq_some_iff.1 b0).1
  have HIS : Hid (Calls Try.prog 45 #[.int .i64 3] W0 fun e w' => e = .returned (.bool true) ∧ w' = W0) := IsError_calls 3 W0
  have HFI : Hid _ := first_calls v zs 1232 (by decide) W0 (h.on hB0)
  have B0 : Hid _ := b0
  have HB0 : Hid _ := hB0
  obtain ⟨av, cv, rfl, _⟩ := h.val
  have HLT : Hid _ := hlt0
  clear h b0 hB0 hlt0
  generalize zs.take 1232 = ys at *
  go_enter Try.func32, Try.ntmps32
  go_wp2_with fail
  refine Calls.mono HIS.out ?_
  rintro _ w0 ⟨rfl, hw0⟩
  obtain rfl : W0 = w0 := hw0.symm
  clear hw0
  go_wp2_with fail
  refine Calls.mono HFI.out ?_
  rintro _ w1 ⟨u, rfl, hu, hb1, hn⟩
  have hsl : u.oneCell' = true := by
    obtain ⟨x, y, rfl, _⟩ := hu.val
    rfl
  obtain ⟨W1, hst1, b1, hc1⟩ := box_new Try.sizeOf26 w1 [.int .u8 0, .int .u8 0, .int .u32 0, .slice none 0 0] rfl [.int .u8 1, .int .u8 code, .int .u32 rest, u] rfl (by simp [Value.oneCell']; exact hsl)
  have HST1 : Hid _ := hst1
  have hx21 : Below w1.heap.size w1 W1 := hc1
  have b2 : W1.heap[w1.heap.size]? = some (.cells [.int .u8 1, .int .u8 code, .int .u32 rest, u].toArray 26) := b1
  have hx2 : Below W0.heap.size W0 W1 := hb1.trans (hx21.mono hb1.size)
  have HLD : Hid _ := agg_load (t := 26) Try.isAgg26 Try.sizeOf26 rfl (CellsAt.of_blk b2)
  obtain ⟨w5, hst5, b5, hon5⟩ := box_store Try.sizeOf26 (blk_on B0.out hx2) rfl [.int .u8 1, .int .u8 code, .int .u32 rest, u] rfl (by simp [Value.oneCell']; exact hsl)
  have hlt := HLT.out
  have hu5 : BytesAt w5.heap.size w5 u ys := hn.only (by omega) (hu.later hx21) hon5
  have HC : Hid (MsgC w5 [.int .u8 1, .int .u8 code, .int .u32 rest, u] ⟨1, code, rest, ys⟩) := ⟨⟨u, rfl, hu5⟩, by dsimp only; decide, fc, fr⟩
  have HST5 : Hid _ := hst5
  have B5 : Hid _ := b5
  have HE : Hid (Below w.heap.size w w5) := (HB0.out.trans (hx2.mono HB0.out.size)).trans (hon5.below (Nat.le_refl _))
  obtain ⟨xu, ku, rfl, _⟩ := hu.val
  clear hst1 b1 hc1 hu hb1 hn hsl hx21 b2 hx2 hst5 b5 hon5 hlt hu5 
  go_wp2_with first
    | ((with_reducible show wpList _ _ _ _ _ _); refine arm_store rfl (.tmp 10) (.tmp 22) 26 rfl rfl rfl HST1.out ?_)
    | ((with_reducible show wpList _ _ _ _ _ _); refine arm_load rfl (.tmp 10) 26 rfl rfl HLD.out ?_)
    | ((with_reducible show wpList _ _ _ _ _ _); refine arm_store rfl (.tmp 8) (.tmp 23) 26 rfl rfl rfl HST5.out ?_)
  exact bodyPost_ret (res2t rfl rfl (agg_loadVar Try.isAgg26 Try.sizeOf26 rfl (CellsAt.of_blk B5.out))) rfl ⟨_, rfl, HC.out, HE.out⟩
set_option maxHeartbeats 2000000 in
set_option maxRecDepth 100000 in
theorem RError6_big (code rest : Int) (fc : 0 ≤ code ∧ code ≤ 255) (fr : 0 ≤ rest ∧ rest ≤ 4294967295) (v : Value) (zs : List Int) (w : World) (h : RowC w v zs) :
    Calls Try.prog 32 #[.int .i64 4, .int .u8 code, .int .u32 rest, v] w fun e w' => ErrI 0 ⟨2, code, rest, zs.take 1232⟩ w e w' := by
  have b0 := blk_new w (.cells [.int .u8 0, .int .u8 0, .int .u32 0, .slice none 0 0].toArray 26)
  have hB0 := (Below.refl w.heap.size w).alloc (Nat.le_refl _) (.cells [.int .u8 0, .int .u8 0, .int .u32 0, .slice none 0 0].toArray 26)
  obtain ⟨W0, hW0⟩ : ∃ W0, w.alloc (.cells [.int .u8 0, .int .u8 0, .int .u32 0, .slice none 0 0].toArray 26) = W0 := ⟨_, rfl⟩
  rw [hW0] at b0 hB0
  have hlt0 : w.heap.size < W0.heap.size := (Array.getElem?_eq_some_iff.1 b0).1
  have HIS : Hid (Calls Try.prog 45 #[.int .i64 4] W0 fun e w' => e = .returned (.bool true) ∧ w' = W0) := IsError_calls 4 W0
  have HFI : Hid _ := first_calls v zs 1232 (by decide) W0 (h.on hB0)
  have B0 : Hid _ := b0
  have HB0 : Hid _ := hB0
  obtain ⟨av, cv, rfl, _⟩ := h.val
  have HLT : Hid _ := hlt0
  clear h b0 hB0 hlt0
  generalize zs.take 1232 = ys at *
  go_enter Try.func32, Try.ntmps32
  go_wp2_with fail
  refine Calls.mono HIS.out ?_
  rintro _ w0 ⟨rfl, hw0⟩
  obtain rfl : W0 = w0 := hw0.symm
  clear hw0
  go_wp2_with fail
  refine Calls.mono HFI.out ?_
  rintro _ w1 ⟨u, rfl, hu, hb1, hn⟩
  have hsl : u.oneCell' = true := by
    obtain ⟨x, y, rfl, _⟩ := hu.val
    rfl
  obtain ⟨W1, hst1, b1, hc1⟩ := box_new Try.sizeOf26 w1 [.int .u8 0, .int .u8 0, .int .u32 0, .slice none 0 0] rfl [.int .u8 2, .int .u8 code, .int .u32 rest, u] rfl (by simp [Value.oneCell']; exact hsl)
  have HST1 : Hid _ := hst1
  have hx21 : Below w1.heap.size w1 W1 := hc1
  have b2 : W1.heap[w1.heap.size]? = some (.cells [.int .u8 2, .int .u8 code, .int .u32 rest, u].toArray 26) := b1
  have hx2 : Below W0.heap.size W0 W1 := hb1.trans (hx21.mono hb1.size)
  have HLD : Hid _ := agg_load (t := 26) Try.isAgg26 Try.sizeOf26 rfl (CellsAt.of_blk b2)
  obtain ⟨w5, hst5, b5, hon5⟩ := box_store Try.sizeOf26 (blk_on B0.out hx2) rfl [.int .u8 2, .int .u8 code, .int .u32 rest, u] rfl (by simp [Value.oneCell']; exact hsl)
  have hlt := HLT.out
  have hu5 : BytesAt w5.heap.size w5 u ys := hn.only (by omega) (hu.later hx21) hon5
  have HC : Hid (MsgC w5 [.int .u8 2, .int .u8 code, .int .u32 rest, u] ⟨2, code, rest, ys⟩) := ⟨⟨u, rfl, hu5⟩, by dsimp only; decide, fc, fr⟩
  have HST5 : Hid _ := hst5
  have B5 : Hid _ := b5
  have HE : Hid (Below w.heap.size w w5) := (HB0.out.trans (hx2.mono HB0.out.size)).trans (hon5.below (Nat.le_refl _))
  obtain ⟨xu, ku, rfl, _⟩ := hu.val
  clear hst1 b1 hc1 hu hb1 hn hsl hx21 b2 hx2 hst5 b5 hon5 hlt hu5 
  go_wp2_with first
    | ((with_reducible show wpList _ _ _ _ _ _); refine arm_store rfl (.tmp 10) (.tmp 22) 26 rfl rfl rfl HST1.out ?_)
    | ((with_reducible show wpList _ _ _ _ _ _); refine arm_load rfl (.tmp 10) 26 rfl rfl HLD.out ?_)
    | ((with_reducible show wpList _ _ _ _ _ _); refine arm_store rfl (.tmp 8) (.tmp 23) 26 rfl rfl rfl HST5.out ?_)
  exact bodyPost_ret (res2t rfl rfl (agg_loadVar Try.isAgg26 Try.sizeOf26 rfl (CellsAt.of_blk B5.out))) rfl ⟨_, rfl, HC.out, HE.out⟩
set_option maxHeartbeats 2000000 in
set_option maxRecDepth 100000 in
theorem RError6_time (code rest : Int) (fc : 0 ≤ code ∧ code ≤ 255) (fr : 0 ≤ rest ∧ rest ≤ 4294967295) (v : Value) (zs : List Int) (w : World) (h : RowC w v zs) :
    Calls Try.prog 32 #[.int .i64 5, .int .u8 code, .int .u32 rest, v] w fun e w' => ErrI 0 ⟨3, code, rest, zs.take 1232⟩ w e w' := by
  have b0 := blk_new w (.cells [.int .u8 0, .int .u8 0, .int .u32 0, .slice none 0 0].toArray 26)
  have hB0 := (Below.refl w.heap.size w).alloc (Nat.le_refl _) (.cells [.int .u8 0, .int .u8 0, .int .u32 0, .slice none 0 0].toArray 26)
  obtain ⟨W0, hW0⟩ : ∃ W0, w.alloc (.cells [.int .u8 0, .int .u8 0, .int .u32 0, .slice none 0 0].toArray 26) = W0 := ⟨_, rfl⟩
  rw [hW0] at b0 hB0
  have hlt0 : w.heap.size < W0.heap.size := (Array.getElem?_eq_some_iff.1 b0).1
  have HIS : Hid (Calls Try.prog 45 #[.int .i64 5] W0 fun e w' => e = .returned (.bool true) ∧ w' = W0) := IsError_calls 5 W0
  have HFI : Hid _ := first_calls v zs 1232 (by decide) W0 (h.on hB0)
  have B0 : Hid _ := b0
  have HB0 : Hid _ := hB0
  obtain ⟨av, cv, rfl, _⟩ := h.val
  have HLT : Hid _ := hlt0
  clear h b0 hB0 hlt0
  generalize zs.take 1232 = ys at *
  go_enter Try.func32, Try.ntmps32
  go_wp2_with fail
  refine Calls.mono HIS.out ?_
  rintro _ w0 ⟨rfl, hw0⟩
  obtain rfl : W0 = w0 := hw0.symm
  clear hw0
  go_wp2_with fail
  refine Calls.mono HFI.out ?_
  rintro _ w1 ⟨u, rfl, hu, hb1, hn⟩
  have hsl : u.oneCell' = true := by
    obtain ⟨x, y, rfl, _⟩ := hu.val
    rfl
  obtain ⟨W1, hst1, b1, hc1⟩ := box_new Try.sizeOf26 w1 [.int .u8 0, .int .u8 0, .int .u32 0, .slice none 0 0] rfl [.int .u8 3, .int .u8 code, .int .u32 rest, u] rfl (by simp [Value.oneCell']; exact hsl)
  have HST1 : Hid _ := hst1
  have hx21 : Below w1.heap.size w1 W1 := hc1
  have b2 : W1.heap[w1.heap.size]? = some (.cells [.int .u8 3, .int .u8 code, .int .u32 rest, u].toArray 26) := b1
  have hx2 : Below W0.heap.size W0 W1 := hb1.trans (hx21.mono hb1.size)
  have HLD : Hid _ := agg_load (t := 26) Try.isAgg26 Try.sizeOf26 rfl (CellsAt.of_blk b2)
  obtain ⟨w5, hst5, b5, hon5⟩ := box_store Try.sizeOf26 (blk_on B0.out hx2) rfl [.int .u8 3, .int .u8 code, .int .u32 rest, u] rfl (by simp [Value.oneCell']; exact hsl)
  have hlt := HLT.out
  have hu5 : BytesAt w5.heap.size w5 u ys := hn.only (by omega) (hu.later hx21) hon5
  have HC : Hid (MsgC w5 [.int .u8 3, .int .u8 code, .int .u32 rest, u] ⟨3, code, rest, ys⟩) := ⟨⟨u, rfl, hu5⟩, by dsimp only; decide, fc, fr⟩
  have HST5 : Hid _ := hst5
  have B5 : Hid _ := b5
  have HE : Hid (Below w.heap.size w w5) := (HB0.out.trans (hx2.mono HB0.out.size)).trans (hon5.below (Nat.le_refl _))
  obtain ⟨xu, ku, rfl, _⟩ := hu.val
  clear hst1 b1 hc1 hu hb1 hn hsl hx21 b2 hx2 hst5 b5 hon5 hlt hu5 
  go_wp2_with first
    | ((with_reducible show wpList _ _ _ _ _ _); refine arm_store rfl (.tmp 10) (.tmp 22) 26 rfl rfl rfl HST1.out ?_)
    | ((with_reducible show wpList _ _ _ _ _ _); refine arm_load rfl (.tmp 10) 26 rfl rfl HLD.out ?_)
    | ((with_reducible show wpList _ _ _ _ _ _); refine arm_store rfl (.tmp 8) (.tmp 23) 26 rfl rfl rfl HST5.out ?_)
  exact bodyPost_ret (res2t rfl rfl (agg_loadVar Try.isAgg26 Try.sizeOf26 rfl (CellsAt.of_blk B5.out))) rfl ⟨_, rfl, HC.out, HE.out⟩
set_option maxHeartbeats 2000000 in
set_option maxRecDepth 100000 in
theorem RError6_param (code rest : Int) (fc : 0 ≤ code ∧ code ≤ 255) (fr : 0 ≤ rest ∧ rest ≤ 4294967295) (v : Value) (zs : List Int) (w : World) (h : RowC w v zs) :
    Calls Try.prog 32 #[.int .i64 6, .int .u8 code, .int .u32 rest, v] w fun e w' => ErrI 0 ⟨4, code, rest, zs.take 1232⟩ w e w' := by
  have b0 := blk_new w (.cells [.int .u8 0, .int .u8 0, .int .u32 0, .slice none 0 0].toArray 26)
  have hB0 := (Below.refl w.heap.size w).alloc (Nat.le_refl _) (.cells [.int .u8 0, .int .u8 0, .int .u32 0, .slice none 0 0].toArray 26)
  obtain ⟨W0, hW0⟩ : ∃ W0, w.alloc (.cells [.int .u8 0, .int .u8 0, .int .u32 0, .slice none 0 0].toArray 26) = W0 := ⟨_, rfl⟩
  rw [hW0] at b0 hB0
  have hlt0 : w.heap.size < W0.heap.size := (Array.getElem?_eq_some_iff.1 b0).1
  have HIS : Hid (Calls Try.prog 45 #[.int .i64 6] W0 fun e w' => e = .returned (.bool true) ∧ w' = W0) := IsError_calls 6 W0
  have HFI : Hid _ := first_calls v zs 1232 (by decide) W0 (h.on hB0)
  have B0 : Hid _ := b0
  have HB0 : Hid _ := hB0
  obtain ⟨av, cv, rfl, _⟩ := h.val
  have HLT : Hid _ := hlt0
  clear h b0 hB0 hlt0
  generalize zs.take 1232 = ys at *
  go_enter Try.func32, Try.ntmps32
  go_wp2_with fail
  refine Calls.mono HIS.out ?_
  rintro _ w0 ⟨rfl, hw0⟩
  obtain rfl : W0 = w0 := hw0.symm
  clear hw0
  go_wp2_with fail
  refine Calls.mono HFI.out ?_
  rintro _ w1 ⟨u, rfl, hu, hb1, hn⟩
  have hsl : u.oneCell' = true := by
    obtain ⟨x, y, rfl, _⟩ := hu.val
    rfl
  obtain ⟨W1, hst1, b1, hc1⟩ := box_new Try.sizeOf26 w1 [.int .u8 0, .int .u8 0, .int .u32 0, .slice none 0 0] rfl [.int .u8 4, .int .u8 code, .int .u32 rest, u] rfl (by simp [Value.oneCell']; exact hsl)
  have HST1 : Hid _ := hst1
  have hx21 : Below w1.heap.size w1 W1 := hc1
  have b2 : W1.heap[w1.heap.size]? = some (.cells [.int .u8 4, .int .u8 code, .int .u32 rest, u].toArray 26) := b1
  have hx2 : Below W0.heap.size W0 W1 := hb1.trans (hx21.mono hb1.size)
  have HLD : Hid _ := agg_load (t := 26) Try.isAgg26 Try.sizeOf26 rfl (CellsAt.of_blk b2)
  obtain ⟨w5, hst5, b5, hon5⟩ := box_store Try.sizeOf26 (blk_on B0.out hx2) rfl [.int .u8 4, .int .u8 code, .int .u32 rest, u] rfl (by simp [Value.oneCell']; exact hsl)
  have hlt := HLT.out
  have hu5 : BytesAt w5.heap.size w5 u ys := hn.only (by omega) (hu.later hx21) hon5
  have HC : Hid (MsgC w5 [.int .u8 4, .int .u8 code, .int .u32 rest, u] ⟨4, code, rest, ys⟩) := ⟨⟨u, rfl, hu5⟩, by dsimp only; decide, fc, fr⟩
  have HST5 : Hid _ := hst5
  have B5 : Hid _ := b5
  have HE : Hid (Below w.heap.size w w5) := (HB0.out.trans (hx2.mono HB0.out.size)).trans (hon5.below (Nat.le_refl _))
  obtain ⟨xu, ku, rfl, _⟩ := hu.val
  clear hst1 b1 hc1 hu hb1 hn hsl hx21 b2 hx2 hst5 b5 hon5 hlt hu5 
  go_wp2_with first
    | ((with_reducible show wpList _ _ _ _ _ _); refine arm_store rfl (.tmp 10) (.tmp 22) 26 rfl rfl rfl HST1.out ?_)
    | ((with_reducible show wpList _ _ _ _ _ _); refine arm_load rfl (.tmp 10) 26 rfl rfl HLD.out ?_)
    | ((with_reducible show wpList _ _ _ _ _ _); refine arm_store rfl (.tmp 8) (.tmp 23) 26 rfl rfl rfl HST5.out ?_)
  exact bodyPost_ret (res2t rfl rfl (agg_loadVar Try.isAgg26 Try.sizeOf26 rfl (CellsAt.of_blk B5.out))) rfl ⟨_, rfl, HC.out, HE.out⟩
set_option maxHeartbeats 2000000 in
set_option maxRecDepth 100000 in
theorem RError6_no (kind code rest : Int) (fc : 0 ≤ code ∧ code ≤ 255) (fr : 0 ≤ rest ∧ rest ≤ 4294967295) (hkind : ¬ (3 ≤ kind ∧ kind ≤ 6)) (v : Value) (zs : List Int) (w : World) (h : RowC w v zs) :
    Calls Try.prog 32 #[.int .i64 kind, .int .u8 code, .int .u32 rest, v] w fun e w' => ErrI 72 ⟨0, 0, 0, []⟩ w e w' := by
  have b0 := blk_new w (.cells [.int .u8 0, .int .u8 0, .int .u32 0, .slice none 0 0].toArray 26)
  have hB0 := (Below.refl w.heap.size w).alloc (Nat.le_refl _) (.cells [.int .u8 0, .int .u8 0, .int .u32 0, .slice none 0 0].toArray 26)
  obtain ⟨W0, hW0⟩ : ∃ W0, w.alloc (.cells [.int .u8 0, .int .u8 0, .int .u32 0, .slice none 0 0].toArray 26) = W0 := ⟨_, rfl⟩
  rw [hW0] at b0 hB0
  have hlt0 : w.heap.size < W0.heap.size := (Array.getElem?_eq_some_iff.1 b0).1
  have HIS : Hid (Calls Try.prog 45 #[.int .i64 kind] W0 fun e w' => e = .returned (.bool false) ∧ w' = W0) := by
    have k := IsError_calls kind W0
    rw [decide_eq_false hkind] at k
    exact k
  obtain ⟨av, cv, rfl, _⟩ := h.val
  obtain ⟨w5, hst5, b5, hon5⟩ := box_store Try.sizeOf26 b0 rfl [.int .u8 0, .int .u8 0, .int .u32 0, .slice none 0 0] rfl (by simp [Value.oneCell'])
  have HST5 : Hid _ := hst5
  have B5 : Hid _ := b5
  have HE : Hid (Below w.heap.size w w5) := hB0.trans (hon5.below (Nat.le_refl _))
  clear h b0 hB0 hlt0 hst5 b5 hon5
  go_enter Try.func32, Try.ntmps32
  go_wp2_with fail
  refine Calls.mono HIS.out ?_
  rintro _ _ ⟨rfl, rfl⟩
  go_wp2_with first
    | ((with_reducible show wpList _ _ _ _ _ _); refine arm_store rfl (.tmp 8) (.tmp 14) 26 rfl rfl rfl HST5.out ?_)
  exact bodyPost_ret (res2t rfl rfl (agg_loadVar Try.isAgg26 Try.sizeOf26 rfl (CellsAt.of_blk B5.out))) rfl ⟨_, rfl, MsgC.zero w5, HE.out⟩

end Go.Proofs.Ytljmamogefgiaaa
