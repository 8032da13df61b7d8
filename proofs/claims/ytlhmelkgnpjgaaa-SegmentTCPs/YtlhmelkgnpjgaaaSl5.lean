/-
  The document's ParseTCP.
-/
import Derived.Test.YtlhmelkgnpjgaaaSl4
import Derived.Test.YtlhmelkgnpjgaaaSk6
import Derived.Test.YtlhmelkgnpjgaaaRg
namespace Go.Proofs.Ytlhmelkgnpjgaaa
open Go Go.RowKit Go.Shelf
set_option linter.unusedVariables false
set_option linter.unusedSimpArgs false

theorem slice_mid (b off len cap hd : Nat) (w : World) (h1 : 20 ≤ hd) (h2 : hd ≤ len) (h3 : len ≤ cap) :
    (Instr.sliceAt 29 (.slice (some ⟨b, off, none⟩) len cap) (some (.int .i64 20)) (some (.int .i64 hd)) none).run Try.prog w = .ok (.slice (some ⟨b, nxt off cap 20, none⟩) (hd - 20) (cap - 20)) w := by
  unfold nxt
  by_cases h : cap = 20
  · subst h
    obtain rfl : hd = 20 := by omega
    go_simp
  · go_simp
    rw [if_pos (by omega), if_pos (by omega)]
theorem slice_end (b off len cap hd : Nat) (w : World) (h2 : hd ≤ len) (h3 : len ≤ cap) :
    (Instr.sliceAt 29 (.slice (some ⟨b, off, none⟩) len cap) (some (.int .i64 hd)) none none).run Try.prog w = .ok (.slice (some ⟨b, nxt off cap hd, none⟩) (len - hd) (cap - hd)) w := by
  unfold nxt
  by_cases h : cap = hd
  · subst h
    obtain rfl : len = cap := by omega
    go_simp
  · have h' : ¬ hd = cap := fun e => h e.symm
    go_simp


set_option maxHeartbeats 2000000 in
set_option maxRecDepth 100000 in
theorem RParseTCP_short (sv dv : Value) (N : Nat) (ph : Int → Int → List Int) (v : Value) (zs : List Int) (w : World) (he : EndV w sv dv N ph) (h : RowC w v zs) (hn : zs.length < 20) :
    Calls Try.prog 25 #[sv, dv, v] w fun e w' => e = .returned (.tuple #[.agg #[.int .u16 0, .int .u16 0, .int .u32 0, .int .u32 0, .int .u8 0, .int .u16 0, .int .u16 0, .slice none 0 0, .slice none 0 0], .int .i64 60]) ∧ Below w.heap.size w w' := by
  obtain ⟨W0, hW0⟩ : ∃ W0, w.alloc (.cells [.int .u16 0, .int .u16 0, .int .u32 0, .int .u32 0, .int .u8 0, .int .u16 0, .int .u16 0, .slice none 0 0, .slice none 0 0].toArray 34) = W0 := ⟨_, rfl⟩
  have b0 := blk_new w (.cells [.int .u16 0, .int .u16 0, .int .u32 0, .int .u32 0, .int .u8 0, .int .u16 0, .int .u16 0, .slice none 0 0, .slice none 0 0].toArray 34)
  have hB0 := (Below.refl w.heap.size w).alloc (Nat.le_refl _) (.cells [.int .u16 0, .int .u16 0, .int .u32 0, .int .u32 0, .int .u8 0, .int .u16 0, .int .u16 0, .slice none 0 0, .slice none 0 0].toArray 34)
  rw [hW0] at b0 hB0
  obtain ⟨sa, cs, rfl⟩ := he.sval
  obtain ⟨da, cd, rfl⟩ := he.dval
  obtain ⟨av, cv, rfl, _⟩ := h.val
  have q : decide ((zs.length : Int) < 20) = true := by simp; omega
  have B0 : Hid (∀ W, Below W0.heap.size W0 W → W.heap[w.heap.size]? = some (.cells [.int .u16 0, .int .u16 0, .int .u32 0, .int .u32 0, .int .u8 0, .int .u16 0, .int .u16 0, .slice none 0 0, .slice none 0 0].toArray 34)) := fun W hW => blk_on b0 hW
  have HB0 : Hid _ := hB0
  clear h he b0 hB0
  go_enter Try.func25, Try.ntmps25
  obtain ⟨w9, hst9, b9, hon9⟩ := box_store Try.sizeOf34 (B0.out _ (Below.refl W0.heap.size W0)) rfl [.int .u16 0, .int .u16 0, .int .u32 0, .int .u32 0, .int .u8 0, .int .u16 0, .int .u16 0, .slice none 0 0, .slice none 0 0] rfl (by simp [Value.oneCell'])
  have H1239 : Hid _ := hst9
  have B9 : Hid _ := b9
  have HE : Hid (Below w.heap.size w w9) := (HB0.out.trans (((Below.refl W0.heap.size W0)).mono HB0.out.size)).trans (hon9.below (Nat.le_refl _))
  clear hst9 b9 hon9
  go_wp2_with ((with_reducible show wpList _ _ _ _ _ _); refine arm_store rfl (.tmp 6) (.tmp 13) 34 rfl rfl rfl H1239.out ?_)
  exact bodyPost_ret (res2t rfl rfl (agg_loadVar Try.isAgg34 Try.sizeOf34 rfl (CellsAt.of_blk B9.out))) rfl ⟨rfl, HE.out⟩

set_option maxHeartbeats 4000000 in
set_option maxRecDepth 100000 in
theorem RParseTCP_length (sv dv : Value) (N : Nat) (ph : Int → Int → List Int) (v : Value) (zs : List Int) (w : World) (he : EndV w sv dv N ph) (h : RowC w v zs) (hn : 20 ≤ zs.length) (hL : ¬ (20 ≤ hdL zs ∧ hdL zs ≤ zs.length)) :
    Calls Try.prog 25 #[sv, dv, v] w fun e w' => e = .returned (.tuple #[.agg #[.int .u16 0, .int .u16 0, .int .u32 0, .int .u32 0, .int .u8 0, .int .u16 0, .int .u16 0, .slice none 0 0, .slice none 0 0], .int .i64 61]) ∧ Below w.heap.size w w' := by
  obtain ⟨W0, hW0⟩ : ∃ W0, w.alloc (.cells [.int .u16 0, .int .u16 0, .int .u32 0, .int .u32 0, .int .u8 0, .int .u16 0, .int .u16 0, .slice none 0 0, .slice none 0 0].toArray 34) = W0 := ⟨_, rfl⟩
  have b0 := blk_new w (.cells [.int .u16 0, .int .u16 0, .int .u32 0, .int .u32 0, .int .u8 0, .int .u16 0, .int .u16 0, .slice none 0 0, .slice none 0 0].toArray 34)
  have hB0 := (Below.refl w.heap.size w).alloc (Nat.le_refl _) (.cells [.int .u16 0, .int .u16 0, .int .u32 0, .int .u32 0, .int .u8 0, .int .u16 0, .int .u16 0, .slice none 0 0, .slice none 0 0].toArray 34)
  rw [hW0] at b0 hB0
  obtain ⟨sa, cs, rfl⟩ := he.sval
  obtain ⟨da, cd, rfl⟩ := he.dval
  obtain ⟨b, off, cap, hS⟩ := h.rowS (by omega)
  have hv := hS.val
  subst hv
  have hroom := hS.room
  have g12 := hS.fit.gz 12
  have g13 := hS.fit.gz 13
  have HC12 : Hid (∀ W, Below W0.heap.size W0 W → W.cell? ⟨b, off + 12, none⟩ = some (.int .u8 (gz zs 12))) := fun W hW => ((hB0.trans (hW.mono hB0.size)).cell (p := ⟨b, off + 12, none⟩) hS.lt).trans (hS.cell 12 (by omega))
  have HC13 : Hid (∀ W, Below W0.heap.size W0 W → W.cell? ⟨b, off + 13, none⟩ = some (.int .u8 (gz zs 13))) := fun W hW => ((hB0.trans (hW.mono hB0.size)).cell (p := ⟨b, off + 13, none⟩) hS.lt).trans (hS.cell 13 (by omega))
  have c12 := HC12.out W0 (Below.refl _ _)
  have q : decide ((zs.length : Int) < 20) = false := by simp; omega
  have t12 : (gz zs 12).tdiv 16 = gz zs 12 / 16 := Int.tdiv_eq_ediv_of_nonneg g12.1
  have m12 : gz zs 12 / 16 * 4 = hdL zs := rfl
  have i12 : (12 : Int) < (zs.length : Int) := by omega
  have rH := hdL_range hS.fit
  have w1 : (gz zs 12 / 16) % 256 = gz zs 12 / 16 := by omega
  have B0 : Hid (∀ W, Below W0.heap.size W0 W → W.heap[w.heap.size]? = some (.cells [.int .u16 0, .int .u16 0, .int .u32 0, .int .u32 0, .int .u8 0, .int .u16 0, .int .u16 0, .slice none 0 0, .slice none 0 0].toArray 34)) := fun W hW => blk_on b0 hW
  have HB0 : Hid _ := hB0
  clear h he b0 hB0
  by_cases h20 : hdL zs < 20
  · have q1 : decide (hdL zs < 20) = true := by simp; omega
    clear hL
    go_enter Try.func25, Try.ntmps25
    obtain ⟨w9, hst9, b9, hon9⟩ := box_store Try.sizeOf34 (B0.out _ (Below.refl W0.heap.size W0)) rfl [.int .u16 0, .int .u16 0, .int .u32 0, .int .u32 0, .int .u8 0, .int .u16 0, .int .u16 0, .slice none 0 0, .slice none 0 0] rfl (by simp [Value.oneCell'])
    have H1239 : Hid _ := hst9
    have B9 : Hid _ := b9
    have HE : Hid (Below w.heap.size w w9) := (HB0.out.trans (((Below.refl W0.heap.size W0)).mono HB0.out.size)).trans (hon9.below (Nat.le_refl _))
    clear hst9 b9 hon9
    go_wp2_with ((with_reducible show wpList _ _ _ _ _ _); refine arm_store rfl (.tmp 6) (.tmp 28) 34 rfl rfl rfl H1239.out ?_)
    exact bodyPost_ret (res2t rfl rfl (agg_loadVar Try.isAgg34 Try.sizeOf34 rfl (CellsAt.of_blk B9.out))) rfl ⟨rfl, HE.out⟩
  · have q1 : decide (hdL zs < 20) = false := by simp; omega
    have q2 : decide (hdL zs > (zs.length : Int)) = true := by simp; omega
    clear hL
    go_enter Try.func25, Try.ntmps25
    obtain ⟨w9, hst9, b9, hon9⟩ := box_store Try.sizeOf34 (B0.out _ (Below.refl W0.heap.size W0)) rfl [.int .u16 0, .int .u16 0, .int .u32 0, .int .u32 0, .int .u8 0, .int .u16 0, .int .u16 0, .slice none 0 0, .slice none 0 0] rfl (by simp [Value.oneCell'])
    have H1239 : Hid _ := hst9
    have B9 : Hid _ := b9
    have HE : Hid (Below w.heap.size w w9) := (HB0.out.trans (((Below.refl W0.heap.size W0)).mono HB0.out.size)).trans (hon9.below (Nat.le_refl _))
    clear hst9 b9 hon9
    go_wp2_with ((with_reducible show wpList _ _ _ _ _ _); refine arm_store rfl (.tmp 6) (.tmp 28) 34 rfl rfl rfl H1239.out ?_)
    exact bodyPost_ret (res2t rfl rfl (agg_loadVar Try.isAgg34 Try.sizeOf34 rfl (CellsAt.of_blk B9.out))) rfl ⟨rfl, HE.out⟩

set_option maxHeartbeats 4000000 in
set_option maxRecDepth 100000 in
theorem RParseTCP_long (sv dv : Value) (N : Nat) (ph : Int → Int → List Int) (v : Value) (zs : List Int) (w : World) (he : EndV w sv dv N ph) (h : RowC w v zs) (hn : 65535 < zs.length) (hL : 20 ≤ hdL zs ∧ hdL zs ≤ zs.length) :
    Calls Try.prog 25 #[sv, dv, v] w fun e w' => e = .returned (.tuple #[.agg #[.int .u16 0, .int .u16 0, .int .u32 0, .int .u32 0, .int .u8 0, .int .u16 0, .int .u16 0, .slice none 0 0, .slice none 0 0], .int .i64 2]) ∧ Below w.heap.size w w' := by
  obtain ⟨W0, hW0⟩ : ∃ W0, w.alloc (.cells [.int .u16 0, .int .u16 0, .int .u32 0, .int .u32 0, .int .u8 0, .int .u16 0, .int .u16 0, .slice none 0 0, .slice none 0 0].toArray 34) = W0 := ⟨_, rfl⟩
  have b0 := blk_new w (.cells [.int .u16 0, .int .u16 0, .int .u32 0, .int .u32 0, .int .u8 0, .int .u16 0, .int .u16 0, .slice none 0 0, .slice none 0 0].toArray 34)
  have hB0 := (Below.refl w.heap.size w).alloc (Nat.le_refl _) (.cells [.int .u16 0, .int .u16 0, .int .u32 0, .int .u32 0, .int .u8 0, .int .u16 0, .int .u16 0, .slice none 0 0, .slice none 0 0].toArray 34)
  rw [hW0] at b0 hB0
  obtain ⟨sa, cs, rfl⟩ := he.sval
  obtain ⟨da, cd, rfl⟩ := he.dval
  obtain ⟨b, off, cap, hS⟩ := h.rowS (by omega)
  have hv := hS.val
  subst hv
  have hroom := hS.room
  have g12 := hS.fit.gz 12
  have g13 := hS.fit.gz 13
  have HC12 : Hid (∀ W, Below W0.heap.size W0 W → W.cell? ⟨b, off + 12, none⟩ = some (.int .u8 (gz zs 12))) := fun W hW => ((hB0.trans (hW.mono hB0.size)).cell (p := ⟨b, off + 12, none⟩) hS.lt).trans (hS.cell 12 (by omega))
  have HC13 : Hid (∀ W, Below W0.heap.size W0 W → W.cell? ⟨b, off + 13, none⟩ = some (.int .u8 (gz zs 13))) := fun W hW => ((hB0.trans (hW.mono hB0.size)).cell (p := ⟨b, off + 13, none⟩) hS.lt).trans (hS.cell 13 (by omega))
  have c12 := HC12.out W0 (Below.refl _ _)
  have q : decide ((zs.length : Int) < 20) = false := by simp; omega
  have t12 : (gz zs 12).tdiv 16 = gz zs 12 / 16 := Int.tdiv_eq_ediv_of_nonneg g12.1
  have m12 : gz zs 12 / 16 * 4 = hdL zs := rfl
  have i12 : (12 : Int) < (zs.length : Int) := by omega
  have rH := hdL_range hS.fit
  have w1 : (gz zs 12 / 16) % 256 = gz zs 12 / 16 := by omega
  have B0 : Hid (∀ W, Below W0.heap.size W0 W → W.heap[w.heap.size]? = some (.cells [.int .u16 0, .int .u16 0, .int .u32 0, .int .u32 0, .int .u8 0, .int .u16 0, .int .u16 0, .slice none 0 0, .slice none 0 0].toArray 34)) := fun W hW => blk_on b0 hW
  have HB0 : Hid _ := hB0
  clear h he b0 hB0
  have q1 : decide (hdL zs < 20) = false := by simp; omega
  have q2 : decide (hdL zs > (zs.length : Int)) = false := by simp; omega
  have q3 : decide ((zs.length : Int) > 65535) = true := by simp; omega
  clear hL
  go_enter Try.func25, Try.ntmps25
  obtain ⟨w9, hst9, b9, hon9⟩ := box_store Try.sizeOf34 (B0.out _ (Below.refl W0.heap.size W0)) rfl [.int .u16 0, .int .u16 0, .int .u32 0, .int .u32 0, .int .u8 0, .int .u16 0, .int .u16 0, .slice none 0 0, .slice none 0 0] rfl (by simp [Value.oneCell'])
  have H1239 : Hid _ := hst9
  have B9 : Hid _ := b9
  have HE : Hid (Below w.heap.size w w9) := (HB0.out.trans (((Below.refl W0.heap.size W0)).mono HB0.out.size)).trans (hon9.below (Nat.le_refl _))
  clear hst9 b9 hon9
  go_wp2_with ((with_reducible show wpList _ _ _ _ _ _); refine arm_store rfl (.tmp 6) (.tmp 32) 34 rfl rfl rfl H1239.out ?_)
  exact bodyPost_ret (res2t rfl rfl (agg_loadVar Try.isAgg34 Try.sizeOf34 rfl (CellsAt.of_blk B9.out))) rfl ⟨rfl, HE.out⟩

end Go.Proofs.Ytlhmelkgnpjgaaa
