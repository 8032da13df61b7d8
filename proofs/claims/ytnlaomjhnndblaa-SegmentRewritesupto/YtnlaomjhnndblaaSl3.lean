/-
  parseTCP, ParseTCP4 and ParseTCP6 of package segment.
-/
import Derived.Test.YtnlaomjhnndblaaSl2
import Derived.Test.YtnlaomjhnndblaaSk7
namespace Go.Proofs.Ytnlaomjhnndblaa
open Go Go.RowKit Go.Shelf
set_option linter.unusedVariables false
set_option linter.unusedSimpArgs false

set_option maxHeartbeats 2000000 in
set_option maxRecDepth 100000 in
theorem parseTCP_bad (ov : Value) (ph : Int → Int → List Int) (v : Value) (zs : List Int) (w : World) (ho : OverV w ov ph) (h : RowC w v zs) (er : Int) (hne : er ≠ 0) (hrd : ∀ W, Below w.heap.size w W → Calls Try.prog 78 #[v] W fun e w' => Gave 11 er e ∧ Below W.heap.size W w') :
    Calls Try.prog 52 #[ov, v] w fun e w' => e = .returned (.tuple #[.agg #[.int .u16 0, .int .u16 0, .int .u32 0, .int .u32 0, .int .u8 0, .int .u16 0, .int .u16 0, .slice none 0 0, .slice none 0 0], .int .i64 er]) ∧ Below w.heap.size w w' := by
  obtain ⟨W0, hW0⟩ : ∃ W0, w.alloc (.cells [.int .u16 0, .int .u16 0, .int .u32 0, .int .u32 0, .int .u8 0, .int .u16 0, .int .u16 0, .slice none 0 0, .slice none 0 0].toArray 34) = W0 := ⟨_, rfl⟩
  have b0 := blk_new w (.cells [.int .u16 0, .int .u16 0, .int .u32 0, .int .u32 0, .int .u8 0, .int .u16 0, .int .u16 0, .slice none 0 0, .slice none 0 0].toArray 34)
  have hB0 := (Below.refl w.heap.size w).alloc (Nat.le_refl _) (.cells [.int .u16 0, .int .u16 0, .int .u32 0, .int .u32 0, .int .u8 0, .int .u16 0, .int .u16 0, .slice none 0 0, .slice none 0 0].toArray 34)
  rw [hW0] at b0 hB0
  have HRD : Hid _ := hrd W0 hB0
  obtain ⟨g, l, e⟩ := ho.own
  subst e
  obtain ⟨av, cv, rfl, _⟩ := h.val
  have B0 : Hid _ := b0
  have HB0 : Hid _ := hB0
  have q1 : (er == 0) = false := by simp [hne]
  have q2 : (er != 0) = true := by simp [hne]
  clear h ho b0 hB0 hrd
  go_enter Try.func52, Try.ntmps52
  go_wp2_with fail
  refine Calls.mono HRD.out ?_
  rintro _ w1 ⟨⟨D, hD, h1D, rfl⟩, hb1⟩
  obtain ⟨w2, hst2, b2, hb2⟩ := box_new Try.sizeOf123 w1 [.slice none 0 0, .int .u16 0, .int .u16 0, .int .u32 0, .int .u32 0, .int .u8 0, .int .u16 0, .int .u16 0, .slice none 0 0, .slice none 0 0, .int .i64 0] rfl D hD h1D
  have hx2 := hb1.trans (hb2.mono hb1.size)
  obtain ⟨w3, hst3, b3, hon3⟩ := box_store Try.sizeOf34 (blk_on B0.out hx2) rfl [.int .u16 0, .int .u16 0, .int .u32 0, .int .u32 0, .int .u8 0, .int .u16 0, .int .u16 0, .slice none 0 0, .slice none 0 0] rfl (by simp [Value.oneCell'])
  have H1232 : Hid _ := hst2
  have H1233 : Hid _ := hst3
  have B3 : Hid _ := b3
  have HE : Hid (Below w.heap.size w w3) := (HB0.out.trans (hx2.mono HB0.out.size)).trans (hon3.below (Nat.le_refl _))
  clear hst2 hst3 b3 hon3 b2 hb2 hx2 hb1 h1D hD HRD
  go_wp2_with first
    | ((with_reducible show wpList _ _ _ _ _ _); refine arm_store rfl (.tmp 6) (.tmp 11) 123 rfl rfl rfl H1232.out ?_)
    | ((with_reducible show wpList _ _ _ _ _ _); refine arm_store rfl (.tmp 4) (.tmp 20) 34 rfl rfl rfl H1233.out ?_)
  exact bodyPost_ret (res2t rfl rfl (agg_loadVar Try.isAgg34 Try.sizeOf34 rfl (CellsAt.of_blk B3.out))) rfl ⟨rfl, HE.out⟩

set_option maxHeartbeats 4000000 in
set_option maxRecDepth 100000 in
theorem parseTCP_more (ov : Value) (ph : Int → Int → List Int) (v : Value) (zs : List Int) (n : Nat) (w : World) (ho : OverV w ov ph) (h : RowC w v zs) (hn : 20 ≤ zs.length) (hH : hdL zs = 20 + (n : Int)) (hnl : 20 + n ≤ zs.length) (er : Int) (her : er = if 65535 < zs.length then 2 else if sumW 0 (wordsL (ph 6 zs.length ++ zs)) = 65535 then 0 else 62) :
    Calls Try.prog 52 #[ov, v] w fun e w' => Below w.heap.size w w' ∧ ((er ≠ 0 → e = .returned (.tuple #[.agg #[.int .u16 0, .int .u16 0, .int .u32 0, .int .u32 0, .int .u8 0, .int .u16 0, .int .u16 0, .slice none 0 0, .slice none 0 0], .int .i64 er])) ∧ (er = 0 → ∃ vo vd, e = .returned (.tuple #[.agg #[.int .u16 (wd2 zs 0), .int .u16 (wd2 zs 2), .int .u32 (lg zs 4), .int .u32 (lg zs 8), .int .u8 (flg zs), .int .u16 (wd2 zs 14), .int .u16 (wd2 zs 18), vo, vd], .int .i64 0]) ∧ BytesAt w'.heap.size w' vo ((zs.drop 20).take n) ∧ BytesAt w'.heap.size w' vd ((zs.drop 20).drop n) ∧ New w vo ((zs.drop 20).take n) ∧ New w vd ((zs.drop 20).drop n))) := by
  obtain ⟨W0, hW0⟩ : ∃ W0, w.alloc (.cells [.int .u16 0, .int .u16 0, .int .u32 0, .int .u32 0, .int .u8 0, .int .u16 0, .int .u16 0, .slice none 0 0, .slice none 0 0].toArray 34) = W0 := ⟨_, rfl⟩
  have b0 := blk_new w (.cells [.int .u16 0, .int .u16 0, .int .u32 0, .int .u32 0, .int .u8 0, .int .u16 0, .int .u16 0, .slice none 0 0, .slice none 0 0].toArray 34)
  have hB0 := (Below.refl w.heap.size w).alloc (Nat.le_refl _) (.cells [.int .u16 0, .int .u16 0, .int .u32 0, .int .u32 0, .int .u8 0, .int .u16 0, .int .u16 0, .slice none 0 0, .slice none 0 0].toArray 34)
  rw [hW0] at b0 hB0
  have hs0 : W0.heap.size = w.heap.size + 1 := by rw [← hW0]; simp
  have HRD : Hid _ := readTCP_more v zs W0 (h.on hB0) hn
  have HRT : Hid (∀ W, Below W0.heap.size W0 W → Calls Try.prog 49 #[ov, .int .u8 6, v] W fun e w' => e = .returned (.int .i64 er) ∧ Below W.heap.size W w') := fun W hW => by
    have hbb := hB0.trans (hW.mono hB0.size)
    rw [her]
    by_cases hl : 65535 < zs.length
    · rw [if_pos hl]
      exact right_long ov ph 6 (by decide) v zs W (ho.later hbb) ((h.on hbb).bytes) hl
    · rw [if_neg hl]
      exact right_ok ov ph 6 (by decide) v zs W (ho.later hbb) ((h.on hbb).bytes) (by omega)
  obtain ⟨g, l, e⟩ := ho.own
  subst e
  obtain ⟨av, cv, rfl, _⟩ := h.val
  have hHH : 20 ≤ hdL zs ∧ hdL zs ≤ zs.length := by omega
  have B0 : Hid _ := b0
  have HB0 : Hid _ := hB0
  have HHH : Hid _ := hHH
  have HH : Hid _ := hH
  clear h ho b0 hB0 her hHH hH
  go_enter Try.func52, Try.ntmps52
  go_wp2_with fail
  refine Calls.mono HRD.out ?_
  rintro e1 w1 ⟨hx1, _, hok⟩
  obtain ⟨b, o, k, rfl, hrow⟩ := hok HHH.out
  rw [HH.out]
  clear hok HRD
  have hln : n ≤ (zs.drop 20).length := by simp; omega
  generalize hys : zs.drop 20 = ys at *
  have HYS : Hid _ := hys
  clear hys
  obtain ⟨w2, hst2, b2, hb2⟩ := box_new Try.sizeOf123 w1 [.slice none 0 0, .int .u16 0, .int .u16 0, .int .u32 0, .int .u32 0, .int .u8 0, .int .u16 0, .int .u16 0, .slice none 0 0, .slice none 0 0, .int .i64 0] rfl [.slice (some ⟨b, o, none⟩) ys.length k, .int .u16 (wd2 zs 0), .int .u16 (wd2 zs 2), .int .u32 (lg zs 4), .int .u32 (lg zs 8), .int .u8 (flg zs), .int .u16 (wd2 zs 14), .int .u16 (wd2 zs 18), .slice none 0 0, .slice none 0 0, .int .i64 (20 + (n : Int))] rfl (by simp [Value.oneCell'])
  have hx2 : Below W0.heap.size W0 w2 := hx1.trans (hb2.mono hx1.size)
  have HRR : Hid (∀ W, Below w2.heap.size w2 W → RdW W0 W w1.heap.size 123 ys b o k [.int .u16 (wd2 zs 0), .int .u16 (wd2 zs 2), .int .u32 (lg zs 4), .int .u32 (lg zs 8), .int .u8 (flg zs), .int .u16 (wd2 zs 14), .int .u16 (wd2 zs 18), .slice none 0 0, .slice none 0 0, .int .i64 (20 + (n : Int))]) := fun W hW => ⟨blk_on b2 hW, hx1.size, hx2.trans (hW.mono hx2.size), hrow⟩
  have H1232 : Hid _ := hst2
  have hs1 : W0.heap.size ≤ w1.heap.size := hx1.size
  have HR2 : Hid _ := HRT.out _ hx2
  clear hst2 b2 hb2 hx1 hrow HRT
  go_wp2_with ((with_reducible show wpList _ _ _ _ _ _); refine arm_store rfl (.tmp 6) (.tmp 11) 123 rfl rfl rfl H1232.out ?_)
  refine Calls.mono HR2.out ?_
  rintro _ w3 ⟨rfl, hb3⟩
  have hx3 := hx2.trans (hb3.mono hx2.size)
  by_cases he : er = 0
  · subst he
    have h3 := HRR.out _ hb3
    have HWH : Hid _ := wholeT_calls _ _ _ _ n _ _ _ _ _ _ _ ys W0 w3 h3 hln
    have HB3 : Hid _ := hb3
    clear h3 HRR hb3 HR2 H1232
    go_wp2_with fail
    refine Calls.mono HWH.out ?_
    rintro _ w4 ⟨vo, vd, rfl, hvo, hvd, hno, hnd, hbt⟩
    have b4 := hbt.blk (blk_on B0.out hx3) (by omega : w.heap.size ≠ w1.heap.size)
    obtain ⟨ao, co, eo, _⟩ := hvo.val
    subst eo
    obtain ⟨ad, cd, ed, _⟩ := hvd.val
    subst ed
    have hx4 : Below W0.heap.size W0 w4 := hx3.trans (hbt.below hs1 hx3.size)
    obtain ⟨w5, hst5, b5, hon5⟩ := box_store Try.sizeOf34 b4 rfl [.int .u16 (wd2 zs 0), .int .u16 (wd2 zs 2), .int .u32 (lg zs 4), .int .u32 (lg zs 8), .int .u8 (flg zs), .int .u16 (wd2 zs 14), .int .u16 (wd2 zs 18), .slice ao (ys.take n).length co, .slice ad (ys.drop n).length cd] rfl (by simp [Value.oneCell'])
    have hlt : w.heap.size < w3.heap.size := by have := hx3.size; omega
    have HVO : Hid _ := New.only hno hlt hvo hon5
    have HVD : Hid _ := New.only hnd hlt hvd hon5
    have HNO : Hid (New w (.slice ao (ys.take n).length co) (ys.take n)) := New.old (w := w) hno (by omega)
    have HND : Hid (New w (.slice ad (ys.drop n).length cd) (ys.drop n)) := New.old (w := w) hnd (by omega)
    have H1235 : Hid _ := hst5
    have B5 : Hid _ := b5
    have HE : Hid (Below w.heap.size w w5) := (HB0.out.trans (hx4.mono HB0.out.size)).trans (hon5.below (Nat.le_refl _))
    clear hst5 b5 hon5 hno hnd hvo hvd hbt b4 hx4 HWH HB3
    obtain ⟨nt, hnt⟩ : ∃ nt, (ys.take n).length = nt := ⟨_, rfl⟩
    obtain ⟨nd, hnd⟩ : ∃ nd, (ys.drop n).length = nd := ⟨_, rfl⟩
    rw [hnt, hnd] at H1235 B5
    rw [hnt] at HVO HNO
    rw [hnd] at HVD HND
    rw [hnt, hnd]
    clear hnt hnd hln
    go_wp2_with ((with_reducible show wpList _ _ _ _ _ _); refine arm_store rfl (.tmp 4) (.tmp 22) 34 rfl rfl rfl H1235.out ?_)
    obtain rfl := HYS.out
    exact bodyPost_ret (res2t rfl rfl (agg_loadVar Try.isAgg34 Try.sizeOf34 rfl (CellsAt.of_blk B5.out))) rfl ⟨HE.out, _, _, rfl, HVO.out, by simpa only [List.drop_drop] using HVD.out, HNO.out, by simpa only [List.drop_drop] using HND.out⟩
  · have q1 : (er != 0) = true := by simp [he]
    obtain ⟨w5, hst5, b5, hon5⟩ := box_store Try.sizeOf34 (blk_on B0.out hx3) rfl [.int .u16 0, .int .u16 0, .int .u32 0, .int .u32 0, .int .u8 0, .int .u16 0, .int .u16 0, .slice none 0 0, .slice none 0 0] rfl (by simp [Value.oneCell'])
    have H1235 : Hid _ := hst5
    have B5 : Hid _ := b5
    have HE : Hid (Below w.heap.size w w5) := (HB0.out.trans (hx3.mono HB0.out.size)).trans (hon5.below (Nat.le_refl _))
    have HNE : Hid _ := he
    clear hst5 b5 hon5 he HRR hb3 HR2 H1232
    go_wp2_with ((with_reducible show wpList _ _ _ _ _ _); refine arm_store rfl (.tmp 4) (.tmp 20) 34 rfl rfl rfl H1235.out ?_)
    exact bodyPost_ret (res2t rfl rfl (agg_loadVar Try.isAgg34 Try.sizeOf34 rfl (CellsAt.of_blk B5.out))) rfl ⟨HE.out, fun _ => rfl, fun h0 => absurd h0 HNE.out⟩

end Go.Proofs.Ytnlaomjhnndblaa
