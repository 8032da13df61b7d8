/-
  The walk of RulesBest.
  A rule set that came in; RulesBest at every argument.
  What the statements lay, as the walks want it; RulesBest's opening.
-/
import Derived.Test.YtaebknkjhhcneaaGreatDoorFold29
import Derived.Test.YtaebknkjhhcneaaGreatDoorFold26
import Derived.Test.YtaebknkjhhcneaaGreatDoorFold22
import Derived.Test.YtaebknkjhhcneaaGreatDoorFold23
import Derived.Deep.Slices
import Derived.Laws.BytesArg
import Derived.Test.YtaebknkjhhcneaaGreatDoorFold08
import Derived.OpenShut
namespace Go.Proofs.YtaebknkjhhcneaaGreatDoor
open Go Go.RowKit
set_option linter.unusedVariables false
set_option linter.unusedSimpArgs false

theorem ownT_in {rs : List Ru} (hrs : ∀ r ∈ rs, r.In) (y : List Int) (n : Nat) : FitB (ownT rs y n).1 ∧ (ownT rs y n).1.length = 16 := by
  have hz : FitB (List.replicate 16 0) := fun z hz => by rw [(List.mem_replicate.1 hz).2]; decide
  have hok : ∀ r ∈ rs, (ofV r y n).2 = 0 → r.Ok := fun r hr h0 => (of_ok (hrs r hr) h0).1
  unfold ownT
  generalize bestN Ru.n4 (has4R y) rs rs.length = B
  by_cases hf : 0 ≤ B.2
  · rw [if_pos hf]
    cases hr : rs[B.1.toNat]? with
    | none => exact ⟨hz, rfl⟩
    | some r =>
      have hk := hok r (List.mem_of_getElem? hr)
      simp only
      generalize ofV r y n = o at hk ⊢
      by_cases h0 : o.2 = 0
      · rw [if_pos h0]
        have f1 : FitB (ownL r o.1) := ownL_fit (hk h0)
        have f2 : (ownL r o.1).length = 16 := ownL_length (hk h0)
        generalize ownL r o.1 = LL at f1 f2 ⊢
        exact ⟨f1, f2⟩
      · rw [if_neg h0]
        exact ⟨hz, rfl⟩
  · rw [if_neg hf]
    exact ⟨hz, rfl⟩
theorem eqlA6s (zs : List Int) (h : FitB zs) (hl : zs.length = 16) (w : World) : (binOp .eql 24 (A6 zs) (A6 zs)).run Tryz.prog w = .ok (.bool true) w := by
  have := eq_arr16 9998 zs zs h h hl hl w
  simp only [binOp, Op.equal, Op.maxDepth]
  simp [this]

set_option maxRecDepth 100000 in
set_option maxHeartbeats 8000000 in
theorem rulesBest_walk (d : Dom) (hd : d.In) (rs0 : List Ru) (hrs0 : ∀ r ∈ rs0, r.In) (v : Value) (y : List Int) (yf : FitB y) (yl : y.length = 4) (x : List Int) (xf : FitB x) (xl : x.length = 16) (n : Nat) (hn : n < 65536) (w : World) (hv : RsAt w v rs0) (hmd : Mds w) (htz : Tz w) :
    Calls Tryz.prog 6 #[DV d v, A4L y, A6 x, .int .u16 n] w fun e w' => e = .returned (.bool true) ∧ Below w.heap.size w w' := by
  generalize hQ : (fun (e : Ending) (w' : World) => e = .returned (.bool true) ∧ Below w.heap.size w w') = Q
  have HQ : Hid _ := hQ
  clear hQ
  have hB0 : Below w.heap.size w (((w.alloc (DO d v)).alloc (.cells (b8 y).toArray 48)).alloc (.cells (u8s x).toArray 23)) := (((Below.refl _ w).alloc (Nat.le_refl _) _).alloc (by simp) _).alloc (by simp; omega) _
  have hd0 : (((w.alloc (DO d v)).alloc (.cells (b8 y).toArray 48)).alloc (.cells (u8s x).toArray 23)).heap[w.heap.size]? = some (DO d v) := blk_alloc (blk_alloc (blk_new w _) _) _
  have hy0 : (((w.alloc (DO d v)).alloc (.cells (b8 y).toArray 48)).alloc (.cells (u8s x).toArray 23)).heap[w.heap.size + 1]? = some (.cells (b8 y).toArray 48) := by
    have := blk_alloc (blk_new (w.alloc (DO d v)) (.cells (b8 y).toArray 48)) (.cells (u8s x).toArray 23)
    rwa [show (w.alloc (DO d v)).heap.size = w.heap.size + 1 by simp] at this
  have hx0 : (((w.alloc (DO d v)).alloc (.cells (b8 y).toArray 48)).alloc (.cells (u8s x).toArray 23)).heap[w.heap.size + 2]? = some (.cells (u8s x).toArray 23) := by
    have := blk_new ((w.alloc (DO d v)).alloc (.cells (b8 y).toArray 48)) (.cells (u8s x).toArray 23)
    rwa [show ((w.alloc (DO d v)).alloc (.cells (b8 y).toArray 48)).heap.size = w.heap.size + 2 by simp] at this
  have hv0 := hv.below hB0
  generalize hW0 : ((w.alloc (DO d v)).alloc (.cells (b8 y).toArray 48)).alloc (.cells (u8s x).toArray 23) = W0 at *
  have HW0 : Hid (((w.alloc (.cells (dc d v).toArray 29)).alloc (.cells (b8 y).toArray 48)).alloc (.cells (u8s x).toArray 23) = W0) := hW0
  have HF : Hid _ := few_any d hd rs0 v W0 hv0
  have HL0 : Hid _ := loadD hd hd0
  have HRS : Hid (∀ r ∈ rs0.take 70, r.In) := fun r hr => hrs0 r (List.mem_of_mem_take hr)
  have hlen : (rs0.take 70).length ≤ 1000000 := by rw [List.length_take]; omega
  have HNE : Hid (rs0.take 70 ≠ [] → rs0 ≠ []) := fun h e => h (by rw [e]; rfl)
  generalize rs0.take 70 = rs at HF HRS hlen HNE
  have HVW : Hid _ := hv
  clear hW0 hv hv0 hrs0
  go_enter Tryz.func6, Tryz.ntmps6
  go_wp2_with first
    | ((with_reducible show wpList _ _ _ _ _ _); rw [HW0.out]; refine armLv (.tmp 4) 29 rfl rfl rfl HL0.out ?_)
  refine Calls.mono HF.out ?_
  rintro _ w1 ⟨v', rfl, hv1, hB1, hsame⟩
  have hd1 := (hB1.block _ (Array.getElem?_eq_some_iff.1 hd0).1).trans hd0
  have hy1 := (hB1.block _ (Array.getElem?_eq_some_iff.1 hy0).1).trans hy0
  have hx1 := (hB1.block _ (Array.getElem?_eq_some_iff.1 hx0).1).trans hx0
  have hvo : v'.oneCell' = true := by
    obtain ⟨a, c, e, _⟩ := hv1
    rw [e]
    rfl
  obtain ⟨w2, hst2, hd2, ho2⟩ := box_store (ty := 29) (n := 35) (fun w => by kernel_rfl) hd1 (dc_length hd v) (dc d v') (dc_length hd v') (dc_one d hvo)
  have hy2 := (ho2.other _ (by omega)).trans hy1
  have hx2 := (ho2.other _ (by omega)).trans hx1
  have HST2 : Hid _ := hst2
  have hBw2 : Below w.heap.size w w2 := (hB0.trans (hB1.mono hB0.size)).trans (ho2.below (Nat.le_refl _))
  have hv2 : RsAt w2 v' rs := by
    obtain ⟨ad, cap, e, j1, j2, j3⟩ := hv1
    refine ⟨ad, cap, e, j1, j2, fun hne => ?_⟩
    obtain ⟨g, off, e9, hg, hcl⟩ := j3 hne
    obtain ⟨n', c', ev⟩ := hsame ⟨g, off, none⟩ _ _ (by rw [e, e9])
    obtain ⟨ad2, cap2, e2, _, _, j4⟩ := HVW.out
    obtain ⟨g2, off2, e3, hg2, _⟩ := j4 (HNE.out hne)
    rw [ev, e3] at e2
    cases e2
    exact ⟨g, off, e9, by rw [ho2.size]; exact hg, fun j x hj i u hi => (World.cell?_of_block (a := ⟨g, _, none⟩) (ho2.other g (by omega))).trans (hcl j x hj i u hi)⟩
  have HV2 : Hid _ := hv2
  have HB2 : Hid _ := hBw2
  have HD : Hid (∀ W, Below w2.heap.size w2 W → (Instr.loadAt 29 (.pointer (some ⟨w.heap.size, 0, none⟩))).run Tryz.prog W = .ok (DV d v') W) := fun W hW => loadD hd ((hW.block _ (Array.getElem?_eq_some_iff.1 hd2).1).trans hd2)
  have HY : Hid (∀ W, Below w2.heap.size w2 W → (Instr.loadAt 48 (.pointer (some ⟨w.heap.size + 1, 0, none⟩))).run Tryz.prog W = .ok (A4L y) W) := fun W hW => agg_load (n := 4) (fun w => by kernel_rfl) (fun w => by kernel_rfl) (by rw [b8_length, yl]) (CellsAt.blk ((hW.block _ (Array.getElem?_eq_some_iff.1 hy2).1).trans hy2))
  have HX : Hid (∀ W, Below w2.heap.size w2 W → (Instr.loadAt 23 (.pointer (some ⟨w.heap.size + 1 + 1, 0, none⟩))).run Tryz.prog W = .ok (A6 x) W) := fun W hW => agg_load (n := 16) (fun w => by kernel_rfl) (fun w => by kernel_rfl) (by rw [u8s_length, xl]) (CellsAt.blk ((hW.block _ (Array.getElem?_eq_some_iff.1 hx2).1).trans hx2))
  clear HF HL0 HW0 hst2 hd0 hy0 hx0 hd1 hy1 hx1 hv1 hB0 hB1 ho2 hd2 hy2 hx2 hv2 hBw2
  generalize hb4 : bestE Ru.n4 (has4R y) rs = E4
  generalize hb6 : bestE Ru.n6 (has6R x) rs = E6
  have HE4 : Hid (∃ a b, E4 = .tuple #[.int .i64 a, .bool b]) := ⟨_, _, hb4.symm⟩
  have HE6 : Hid (∃ a b, E6 = .tuple #[.int .i64 a, .bool b]) := ⟨_, _, hb6.symm⟩
  have C1 : Hid (∀ W, Below w2.heap.size w2 W → Calls Tryz.prog 18 #[DV d v', A4L y] W fun e w' => e = .returned E4 ∧ Below W.heap.size W w') := fun W hW => hb4 ▸ Best4_any d hd rs HRS.out hlen v' y yf yl W (RsAt.below HV2.out hW)
  have C2 : Hid (∀ W, Below w2.heap.size w2 W → Calls Tryz.prog 19 #[DV d v', A4L y] W fun e w' => e = .returned E4 ∧ Below W.heap.size W w') := fun W hW => hb4 ▸ RBest4_any d hd rs HRS.out hlen v' y yf yl W (RsAt.below HV2.out hW)
  have C3 : Hid (∀ W, Below w2.heap.size w2 W → Calls Tryz.prog 20 #[DV d v', A6 x] W fun e w' => e = .returned E6 ∧ Below W.heap.size W w') := fun W hW => hb6 ▸ Best6_any d hd rs HRS.out hlen v' x xf xl W (RsAt.below HV2.out hW)
  have C4 : Hid (∀ W, Below w2.heap.size w2 W → Calls Tryz.prog 21 #[DV d v', A6 x] W fun e w' => e = .returned E6 ∧ Below W.heap.size W w') := fun W hW => hb6 ▸ RBest6_any d hd rs HRS.out hlen v' x xf xl W (RsAt.below HV2.out hW)
  have C5 : Hid (∀ W, Below w2.heap.size w2 W → Calls Tryz.prog 22 #[DV d v', A4L y, .int .u16 n] W fun e w' => e = .returned (ownE (ownT rs y n)) ∧ Below W.heap.size W w') := fun W hW => Own_any d hd rs HRS.out hlen v' y yf yl n hn W (RsAt.below HV2.out hW)
  have C6 : Hid (∀ W, Below w2.heap.size w2 W → Calls Tryz.prog 23 #[DV d v', A4L y, .int .u16 n] W fun e w' => e = .returned (ownE (ownT rs y n)) ∧ Below W.heap.size W w') := fun W hW => ROwn_any d hd rs HRS.out hlen v' y yf yl n hn W (RsAt.below HV2.out hW)
  obtain ⟨tf, tl⟩ := ownT_in HRS.out y n
  generalize ownT rs y n = OT at C5 C6 tf tl
  obtain ⟨L, i, er⟩ := OT
  have HAL : Hid _ := fun W (hW : Below w.heap.size w W) => alive11 W (hmd.below hW) (Tz.on htz hW)
  obtain ⟨p4, q4, rfl⟩ := HE4.out
  obtain ⟨p6, q6, rfl⟩ := HE6.out
  unfold ownE at C5 C6
  simp only at tf tl C5 C6
  clear hb4 hb6 HE4 HE6 hmd htz HRS HV2 HNE HVW hsame hvo
  have G0 : Hid (Below w2.heap.size w2 w2) := Below.refl _ _
  go_wp2_with first
    | ((with_reducible show wpList _ _ _ _ _ _); refine armS (.tmp 4) (.tmp 24) 29 rfl rfl rfl rfl HST2.out ?_)
    | ((with_reducible show wpList _ _ _ _ _ _); refine armLv (.tmp 4) 29 rfl rfl rfl (HD.out _ G0.out) ?_)
    | ((with_reducible show wpList _ _ _ _ _ _); refine armLv (.tmp 5) 48 rfl rfl rfl (HY.out _ G0.out) ?_)
  refine Calls.mono (C1.out _ G0.out) ?_
  rintro _ x0 ⟨rfl, hX0⟩
  have G1 : Hid (Below w2.heap.size w2 x0) := G0.out.trans (hX0.mono G0.out.size)
  clear C1 hX0
  go_wp2_with first
    | ((with_reducible show wpList _ _ _ _ _ _); refine armLv (.tmp 4) 29 rfl rfl rfl (HD.out _ G1.out) ?_)
    | ((with_reducible show wpList _ _ _ _ _ _); refine armLv (.tmp 5) 48 rfl rfl rfl (HY.out _ G1.out) ?_)
  refine Calls.mono (C2.out _ G1.out) ?_
  rintro _ x1 ⟨rfl, hX1⟩
  have G2 : Hid (Below w2.heap.size w2 x1) := G1.out.trans (hX1.mono G1.out.size)
  clear C2 hX1
  go_wp2_with first
    | ((with_reducible show wpList _ _ _ _ _ _); refine armLv (.tmp 4) 29 rfl rfl rfl (HD.out _ G2.out) ?_)
    | ((with_reducible show wpList _ _ _ _ _ _); refine armLv (.tmp 6) 23 rfl rfl rfl (HX.out _ G2.out) ?_)
  refine Calls.mono (C3.out _ G2.out) ?_
  rintro _ x2 ⟨rfl, hX2⟩
  have G3 : Hid (Below w2.heap.size w2 x2) := G2.out.trans (hX2.mono G2.out.size)
  clear C3 hX2
  go_wp2_with first
    | ((with_reducible show wpList _ _ _ _ _ _); refine armLv (.tmp 4) 29 rfl rfl rfl (HD.out _ G3.out) ?_)
    | ((with_reducible show wpList _ _ _ _ _ _); refine armLv (.tmp 6) 23 rfl rfl rfl (HX.out _ G3.out) ?_)
  refine Calls.mono (C4.out _ G3.out) ?_
  rintro _ x3 ⟨rfl, hX3⟩
  have G4 : Hid (Below w2.heap.size w2 x3) := G3.out.trans (hX3.mono G3.out.size)
  clear C4 hX3
  go_wp2_with first
    | ((with_reducible show wpList _ _ _ _ _ _); refine armLv (.tmp 4) 29 rfl rfl rfl (HD.out _ G4.out) ?_)
    | ((with_reducible show wpList _ _ _ _ _ _); refine armLv (.tmp 5) 48 rfl rfl rfl (HY.out _ G4.out) ?_)
  refine Calls.mono (C5.out _ G4.out) ?_
  rintro _ x4 ⟨rfl, hX4⟩
  have G5 : Hid (Below w2.heap.size w2 x4) := G4.out.trans (hX4.mono G4.out.size)
  clear C5 hX4
  obtain ⟨b5, hst5, hb5, hB5⟩ := box_new (ty := 24) (n := 16) (fun w => by kernel_rfl) x4 zero16V rfl (u8s L) (by rw [u8s_length, tl]) (u8s_one L)
  have HS5 : Hid _ := hst5
  have GB5 : Hid (Below w2.heap.size w2 b5) := G5.out.trans (hB5.mono G5.out.size)
  have HK5 : Hid _ := hb5
  clear hst5 hB5 hb5
  go_wp2_with first
    | ((with_reducible show wpList _ _ _ _ _ _); refine armS (.tmp 17) (.tmp 54) 24 rfl rfl rfl rfl HS5.out ?_)
    | ((with_reducible show wpList _ _ _ _ _ _); refine armLv (.tmp 4) 29 rfl rfl rfl (HD.out _ GB5.out) ?_)
    | ((with_reducible show wpList _ _ _ _ _ _); refine armLv (.tmp 5) 48 rfl rfl rfl (HY.out _ GB5.out) ?_)
  refine Calls.mono (C6.out _ GB5.out) ?_
  rintro _ x5 ⟨rfl, hX5⟩
  have k5 := (hX5.block _ (Array.getElem?_eq_some_iff.1 HK5.out).1).trans HK5.out
  have G6 : Hid (Below w2.heap.size w2 x5) := GB5.out.trans (hX5.mono GB5.out.size)
  clear C6 hX5
  obtain ⟨b6, hst6, hb6, hB6⟩ := box_new (ty := 24) (n := 16) (fun w => by kernel_rfl) x5 zero16V rfl (u8s L) (by rw [u8s_length, tl]) (u8s_one L)
  have HS6 : Hid _ := hst6
  have GB6 : Hid (Below w2.heap.size w2 b6) := G6.out.trans (hB6.mono G6.out.size)
  have HL17 : Hid _ := load6 tl (CellsAt.blk ((hB6.block _ (Array.getElem?_eq_some_iff.1 k5).1).trans k5))
  have HL20 : Hid _ := load6 tl (CellsAt.blk hb6)
  have HEQ : Hid _ := eqlA6s L tf tl b6
  have HBW : Hid (Below w.heap.size w b6) := HB2.out.trans (GB6.out.mono HB2.out.size)
  clear hst6 hB6 hb6 k5 HK5 HD HY HX
  go_wp2_with first
    | ((with_reducible show wpList _ _ _ _ _ _); refine armS (.tmp 20) (.tmp 62) 24 rfl rfl rfl rfl HS6.out ?_)
    | ((with_reducible show wpList _ _ _ _ _ _); refine armLv (.tmp 17) 24 rfl rfl rfl HL17.out ?_)
    | ((with_reducible show wpList _ _ _ _ _ _); refine armLv (.tmp 20) 24 rfl rfl rfl HL20.out ?_)
    | ((with_reducible show wpList _ _ _ _ _ _); refine arm_bin rfl .eql 24 _ (.tmp 84) (.tmp 85) rfl rfl rfl (gdA6v _ _ _ _ _ _) HEQ.out ?_)
  refine Calls.mono (HAL.out _ HBW.out) ?_
  rintro _ z9 ⟨rfl, hZ9⟩
  have HBZ : Hid _ := HBW.out.trans (hZ9.mono HBW.out.size)
  clear hZ9 HAL
  go_wp2
  try go_ret
  rw [← HQ.out]
  exact ⟨rfl, HBZ.out⟩
end Go.Proofs.YtaebknkjhhcneaaGreatDoor

namespace Go.Proofs.YtaebknkjhhcneaaGreatDoor
open Go Go.RowKit
set_option linter.unusedVariables false
set_option linter.unusedSimpArgs false

set_option maxRecDepth 100000 in
theorem cells_rule {H : Type} {enc : TypeId × Value → H} {W : World} {fuel : Nat} {L : List Value} {x : DataW H × List MemPlace} (hf : DataW.trod enc Tryz.prog W 0 (fun _ => true) true fuel 65 L = some x) : ∃ r : Ru, L = rc r ∧ r.In := by
  obtain ⟨xs, m, _, hx, hl, hxl, hi⟩ := DataW.trod_struct Tryz.underlying65 hf
  rw [show Tryz.prog.cellsOf 65 = 25 by kernel_rfl] at hl
  obtain ⟨x0, x1, x2, x3, x4, rfl⟩ := list5 hxl
  have g0 : DataW.trod enc Tryz.prog W 0 (fun _ => true) true m 26 ((L.drop 0).take 17) = some x0 := by
    have e : DataW.trod enc Tryz.prog W 0 (fun _ => true) true m 26 ((L.drop 0).take (Tryz.prog.cellsOf 26)) = some x0 := hi 0 _ rfl
    rwa [show Tryz.prog.cellsOf 26 = 17 by kernel_rfl] at e
  have g1 : DataW.trod enc Tryz.prog W 0 (fun _ => true) true m 63 ((L.drop 17).take 5) = some x1 := by
    have e : DataW.trod enc Tryz.prog W 0 (fun _ => true) true m 63 ((L.drop 17).take (Tryz.prog.cellsOf 63)) = some x1 := hi 1 _ rfl
    rwa [show Tryz.prog.cellsOf 63 = 5 by kernel_rfl] at e
  have g2 : DataW.trod enc Tryz.prog W 0 (fun _ => true) true m 3 ((L.drop 22).take 1) = some x2 := by
    have e : DataW.trod enc Tryz.prog W 0 (fun _ => true) true m 3 ((L.drop 22).take (Tryz.prog.cellsOf 3)) = some x2 := hi 2 _ rfl
    rwa [show Tryz.prog.cellsOf 3 = 1 by kernel_rfl] at e
  have g3 : DataW.trod enc Tryz.prog W 0 (fun _ => true) true m 3 ((L.drop 23).take 1) = some x3 := by
    have e : DataW.trod enc Tryz.prog W 0 (fun _ => true) true m 3 ((L.drop 23).take (Tryz.prog.cellsOf 3)) = some x3 := hi 3 _ rfl
    rwa [show Tryz.prog.cellsOf 3 = 1 by kernel_rfl] at e
  have g4 : DataW.trod enc Tryz.prog W 0 (fun _ => true) true m 4 ((L.drop 24).take 1) = some x4 := by
    have e : DataW.trod enc Tryz.prog W 0 (fun _ => true) true m 4 ((L.drop 24).take (Tryz.prog.cellsOf 4)) = some x4 := hi 4 _ rfl
    rwa [show Tryz.prog.cellsOf 4 = 1 by kernel_rfl] at e
  obtain ⟨l6, n6, c0, f6, k6, b6⟩ := cells_p6 g0
  obtain ⟨l4, n4, c1, f4, k4, b4⟩ := cells_p4 g1
  obtain ⟨ea, c2, _, wf2⟩ := DataW.trod_int Tryz.underlying3 g2
  obtain ⟨off, c3, _, wf3⟩ := DataW.trod_int Tryz.underlying3 g3
  obtain ⟨fmr, c4, _⟩ := DataW.trod_bool Tryz.underlying4 g4
  refine ⟨⟨l6, n6, l4, n4, ea, off, fmr⟩, ?_, ⟨f6, k6, b6, f4, k4, b4, bounds_i64 wf2, bounds_i64 wf3⟩⟩
  have e : L = (L.drop 0).take 17 ++ ((L.drop 17).take 5 ++ ((L.drop 22).take 1 ++ ((L.drop 23).take 1 ++ (L.drop 24).take 1))) := by
    rw [List.take_of_length_le (l := L.drop 24) (by simp; omega), ← cut_at L 23 1, ← cut_at L 22 1, ← cut_at L 17 5, ← cut_at L 0 17]
    rfl
  rw [e, c0, c1, c2, c3, c4]
  rfl


theorem choose_list {P : Nat → Ru → Prop} : ∀ n : Nat, (∀ i, i < n → ∃ r, P i r) → ∃ rs : List Ru, rs.length = n ∧ ∀ j r, rs[j]? = some r → P j r
  | 0, _ => ⟨[], rfl, fun j r h => by simp at h⟩
  | n + 1, h => by
    obtain ⟨rs, hl, hp⟩ := choose_list n (fun i hi => h i (by omega))
    obtain ⟨r, hr⟩ := h n (by omega)
    refine ⟨rs ++ [r], by simp [hl], fun j x hj => ?_⟩
    rw [List.getElem?_append] at hj
    split at hj
    · exact hp j x hj
    · rename_i hge
      have : j = n := by
        have := (List.getElem?_eq_some_iff.1 hj).1
        simp at this
        omega
      subst this
      rw [hl, Nat.sub_self] at hj
      cases hj
      exact hr

theorem cells_rules {H : Type} {enc : TypeId × Value → H} {W : World} {fuel : Nat} {cs : List Value} {x : DataW H × List MemPlace} (h : DataW.trod enc Tryz.prog W 0 (fun _ => true) true fuel 27 cs = some x) : ∃ (v : Value) (rs : List Ru), cs = [v] ∧ RsAt W v rs ∧ ∀ r ∈ rs, r.In := by
  rcases Go.Deep.open_slice Tryz.underlying27 h with ⟨rfl, _⟩ | ⟨a, len, cap, m, n, D, Pl, rfl, _, hl, hm, hmm, _, hx⟩
  · exact ⟨_, [], rfl, ⟨none, 0, rfl, Nat.le_refl _, by decide, fun hne => absurd rfl hne⟩, fun r hr => by cases hr⟩
  · have hmc : m = cap := by rw [hmm]; rfl
    have c25 : Tryz.prog.cellsOf 65 = 25 := by kernel_rfl
    rw [c25] at hx
    have each : ∀ i, i < len → ∃ r : Ru, r.In ∧ ∀ (j : Nat) u, (rc r)[j]? = some u → W.cell? ((a.add (i * 25)).add j) = some u := fun i hi => by
      obtain ⟨cs', h1, h2⟩ := hx i (by omega)
      obtain ⟨r, hr, hin⟩ := cells_rule h2
      obtain ⟨_, hlen, hcell⟩ := World.cells?_some h1
      refine ⟨r, hin, fun j u hj => ?_⟩
      have hj25 := (List.getElem?_eq_some_iff.1 hj).1
      rw [rc_length hin] at hj25
      rw [hcell j hj25, hr]
      exact hj
    obtain ⟨rs, hrl, hp⟩ := choose_list len each
    refine ⟨_, rs, rfl, ⟨some a, cap, by rw [hrl], by omega, hm, fun hne => ?_⟩, fun r hr => ?_⟩
    · obtain ⟨r0, h0⟩ : ∃ r0, rs[0]? = some r0 := ⟨_, List.getElem?_eq_getElem (List.length_pos_iff.2 hne)⟩
      have hc0 := (hp 0 r0 h0).2 0 _ (List.getElem?_eq_getElem (by rw [rc_length (hp 0 r0 h0).1]; omega))
      obtain ⟨g, off, s⟩ := a
      have hs : s = none := by simpa [Addr.add] using World.cell?_spot hc0
      subst hs
      refine ⟨g, off, rfl, World.block_lt_of_cell? W _ hc0, fun j r hj i u hi => ?_⟩
      have := (hp j r hj).2 i u hi
      rw [Go.WideShapes.add_plain, Go.WideShapes.add_plain] at this
      exact this
    · obtain ⟨j, hj⟩ := List.getElem?_of_mem hr
      exact (hp j r hj).1

theorem cut_list (L : List Value) (n k : Nat) : L.drop n = (L.drop n).take k ++ L.drop (n + k) := by
  rw [← List.drop_drop, List.take_append_drop]

set_option maxRecDepth 100000 in
theorem open_set {H : Type} {enc : TypeId × Value → H} {W : World} {v : Value} {d : DataW H} {p : List MemPlace} (h : DataW.Trod enc Tryz.prog W 0 (fun _ => true) true 29 v d p) : ∃ (e : Dom) (u : Value) (rs : List Ru), v = DV e u ∧ e.In ∧ RsAt W u rs ∧ ∀ r ∈ rs, r.In := by
  obtain ⟨fuel, hf⟩ := h
  obtain ⟨xs, m, _, hx, hl, hxl, hi⟩ := DataW.trod_struct Tryz.underlying29 hf
  rw [show Tryz.prog.cellsOf 29 = 35 by kernel_rfl] at hl
  obtain ⟨x0, x1, x2, x3, rfl⟩ := list4' hxl
  have g0 : DataW.trod enc Tryz.prog W 0 (fun _ => true) true m 22 ((v.cells.toList.drop 0).take 1) = some x0 := by
    have e : DataW.trod enc Tryz.prog W 0 (fun _ => true) true m 22 ((v.cells.toList.drop 0).take (Tryz.prog.cellsOf 22)) = some x0 := hi 0 _ rfl
    rwa [show Tryz.prog.cellsOf 22 = 1 by kernel_rfl] at e
  have g1 : DataW.trod enc Tryz.prog W 0 (fun _ => true) true m 24 ((v.cells.toList.drop 1).take 16) = some x1 := by
    have e : DataW.trod enc Tryz.prog W 0 (fun _ => true) true m 24 ((v.cells.toList.drop 1).take (Tryz.prog.cellsOf 24)) = some x1 := hi 1 _ rfl
    rwa [show Tryz.prog.cellsOf 24 = 16 by kernel_rfl] at e
  have g2 : DataW.trod enc Tryz.prog W 0 (fun _ => true) true m 26 ((v.cells.toList.drop 17).take 17) = some x2 := by
    have e : DataW.trod enc Tryz.prog W 0 (fun _ => true) true m 26 ((v.cells.toList.drop 17).take (Tryz.prog.cellsOf 26)) = some x2 := hi 2 _ rfl
    rwa [show Tryz.prog.cellsOf 26 = 17 by kernel_rfl] at e
  have g3 : DataW.trod enc Tryz.prog W 0 (fun _ => true) true m 27 ((v.cells.toList.drop 34).take 1) = some x3 := by
    have e : DataW.trod enc Tryz.prog W 0 (fun _ => true) true m 27 ((v.cells.toList.drop 34).take (Tryz.prog.cellsOf 27)) = some x3 := hi 3 _ rfl
    rwa [show Tryz.prog.cellsOf 27 = 1 by kernel_rfl] at e
  obtain ⟨md, c0, _, wf0⟩ := DataW.trod_int Tryz.underlying22 g0
  obtain ⟨rl, k1, c1, f1⟩ := cells_arr Tryz.underlying24 (by kernel_rfl) (by kernel_rfl) g1
  obtain ⟨l6, n6, c2, f6, k6, b6⟩ := cells_p6 g2
  obtain ⟨u, rs, c3, hrs, hin⟩ := cells_rules g3
  have hd : Dom.In ⟨md, rl, l6, n6⟩ := ⟨f1, k1, f6, k6, b6, bounds_i64 wf0⟩
  refine ⟨⟨md, rl, l6, n6⟩, u, rs, ?_, hd, hrs, hin⟩
  refine agg_of ?_ (by rw [dc_length hd]; omega)
  generalize v.cells.toList = L at *
  have e : L = (L.drop 0).take 1 ++ ((L.drop 1).take 16 ++ ((L.drop 17).take 17 ++ (L.drop 34).take 1)) := by
    rw [List.take_of_length_le (l := L.drop 34) (by simp; omega), ← cut_list L 17 17, ← cut_list L 1 16, ← cut_list L 0 1]
    rfl
  rw [e, c0, c1, c2, c3]
  rfl
theorem open_b4 {H : Type} {enc : TypeId × Value → H} {W : World} {v : Value} {d : DataW H} {p : List MemPlace} (h : DataW.Trod enc Tryz.prog W 0 (fun _ => true) true 48 v d p) : ∃ y : List Int, v = A4L y ∧ FitB y ∧ y.length = 4 := by
  obtain ⟨fuel, hf⟩ := h
  obtain ⟨zs, hl, hcs, hfit⟩ := cells_arr Tryz.underlying48 (by kernel_rfl) (by kernel_rfl) hf
  exact ⟨zs, agg_of hcs (by rw [b8_length, hl]; omega), hfit, hl⟩
theorem open_b16 {H : Type} {enc : TypeId × Value → H} {W : World} {v : Value} {d : DataW H} {p : List MemPlace} (h : DataW.Trod enc Tryz.prog W 0 (fun _ => true) true 23 v d p) : ∃ y : List Int, v = A6 y ∧ FitB y ∧ y.length = 16 := by
  obtain ⟨fuel, hf⟩ := h
  obtain ⟨zs, hl, hcs, hfit⟩ := cells_arr Tryz.underlying23 (by kernel_rfl) (by kernel_rfl) hf
  exact ⟨zs, agg_of (l := zs.map (fun z => Value.int .u8 z)) hcs (by rw [List.length_map, hl]; decide), hfit, hl⟩

end Go.Proofs.YtaebknkjhhcneaaGreatDoor

namespace Go.Proofs.YtaebknkjhhcneaaGreatDoor
open Go Go.RowKit Go.ChangeShapes Go.WideShapes Go.ChangeAt
set_option linter.unusedVariables false
set_option linter.unusedSimpArgs false

theorem gmd : Tryz.prog.globalNamed "ferryman/rules.modes" = some 0 := by kernel_rfl
theorem gmdt : (Tryz.prog.globals[0]?).map (·.type) = some 134 := by kernel_rfl
theorem str_back {s : ByteArray} {l : List UInt8} (h : s.data.toList = l) : s = ⟨l.toArray⟩ := by
  subst h
  cases s
  simp

set_option maxRecDepth 100000 in
theorem mds_of {W : World} (h : laidMet Tryz.prog [("ferryman/rules.modes", Rows.laid_ferryman_rules_modes)] W) : Mds W := by
  obtain ⟨ps, ⟨g', t', cs, fuel, p, q, hg', ht', hvar, hd, _, _⟩, _⟩ := h
  obtain rfl := Option.some.inj (gmd.symm.trans hg')
  obtain rfl := Option.some.inj (gmdt.symm.trans ht')
  obtain ⟨xs, m, _, hx, hl, hxl, hi⟩ := DataW.trod_array Tryz.underlying134 hd
  have c1 : Tryz.prog.cellsOf 9 = 1 := by kernel_rfl
  have c4 : Tryz.prog.cellsOf 134 = 4 := by kernel_rfl
  rw [c4] at hl
  rw [c1] at hi
  obtain ⟨x0, x1, x2, x3, rfl⟩ := list4' hxl
  have hxs : [x0.1, x1.1, x2.1, x3.1] = [(.lit (.string []) : DataW Unit), .lit (.string [109, 97, 112, 45, 101]), .lit (.string [109, 97, 112, 45, 116]), .lit (.string [52, 54, 52, 120, 108, 97, 116])] := by
    have := congrArg Prod.fst hx
    simp only at this
    unfold Rows.laid_ferryman_rules_modes at this
    simp only [DataW.agg.injEq] at this
    rw [this]
    rfl
  simp only [List.cons.injEq, and_true] at hxs
  obtain ⟨e0, e1, e2, e3⟩ := hxs
  obtain ⟨s0, a0, b0, _⟩ := DataW.trod_string Tryz.underlying9 (hi 0 (by decide))
  obtain ⟨s1, a1, b1, _⟩ := DataW.trod_string Tryz.underlying9 (hi 1 (by decide))
  obtain ⟨s2, a2, b2, _⟩ := DataW.trod_string Tryz.underlying9 (hi 2 (by decide))
  obtain ⟨s3, a3, b3, _⟩ := DataW.trod_string Tryz.underlying9 (hi 3 (by decide))
  rw [b0] at e0
  rw [b1] at e1
  rw [b2] at e2
  rw [b3] at e3
  simp only [DataW.lit.injEq, Lit.string.injEq] at e0 e1 e2 e3
  have hcs : cs.toList = mdsV := by
    have e : cs.toList = (cs.toList.drop 0).take 1 ++ ((cs.toList.drop 1).take 1 ++ ((cs.toList.drop 2).take 1 ++ (cs.toList.drop 3).take 1)) := by
      rw [List.take_of_length_le (l := cs.toList.drop 3) (by simp at hl ⊢; omega), ← cut_list cs.toList 2 1, ← cut_list cs.toList 1 1, ← cut_list cs.toList 0 1]
      rfl
    rw [e]
    rw [show (cs.toList.drop 0).take 1 = [.string s0] from a0, show (cs.toList.drop 1).take 1 = [.string s1] from a1, show (cs.toList.drop 2).take 1 = [.string s2] from a2, show (cs.toList.drop 3).take 1 = [.string s3] from a3]
    rw [str_back e0, str_back e1, str_back e2, str_back e3]
    rfl
  have hvar2 : W.var? Tryz.prog "ferryman/rules.modes" = some mdsV.toArray := by
    rw [hvar, ← hcs]
  unfold World.var? at hvar2
  rw [gmd] at hvar2
  simp only [Option.bind_some] at hvar2
  cases hw : W.heap[0]? with
  | none => rw [hw] at hvar2; simp at hvar2
  | some o =>
    have hlt : 0 < W.heap.size := (Array.getElem?_eq_some_iff.1 hw).1
    rw [hw] at hvar2
    cases o with
    | cells c t fz =>
      simp at hvar2
      subst hvar2
      exact ⟨hlt, t, fz, hw⟩
    | _ => simp at hvar2

theorem tables3 {W : World} (h : laidMetH Tryz.prog [("math/bits.deBruijn32tab", Rows.laid_math_bits_deBruijn32tab), ("math/bits.deBruijn64tab", Rows.laid_math_bits_deBruijn64tab), ("internal/strconv.uint64pow10", Rows.laid_internal_strconv_uint64pow10), ("strconv.ErrRange", Rows.laid_strconv_ErrRange), ("strconv.ErrSyntax", Rows.laid_strconv_ErrSyntax), ("ferryman/rules.modes", Rows.laid_ferryman_rules_modes)] W) : Tz W ∧ Mds W := by
  have h1 : laidMet Tryz.prog [("math/bits.deBruijn32tab", Rows.laid_math_bits_deBruijn32tab), ("math/bits.deBruijn64tab", Rows.laid_math_bits_deBruijn64tab), ("internal/strconv.uint64pow10", Rows.laid_internal_strconv_uint64pow10), ("strconv.ErrRange", Rows.laid_strconv_ErrRange), ("strconv.ErrSyntax", Rows.laid_strconv_ErrSyntax), ("ferryman/rules.modes", Rows.laid_ferryman_rules_modes)] W := h
  exact ⟨tz_of (Lib.tabIs_of_head (zs := tab64) g64 g64t Tryz.underlying263 Tryz.underlying5 (by kernel_rfl) (by kernel_rfl) h1.tail), mds_of h1.tail.tail.tail.tail.tail⟩

set_option maxRecDepth 100000 in
theorem rulesBest_open {H : Type} {enc : TypeId × Value → H} {W : World} {base : Nat} (tb : Tz W ∧ Mds W) (v0 v1 v2 v3 : Value) {d0 d1 d2 d3 : DataW H} {p0 p1 p2 p3 : List MemPlace}
    (o0 : Value.okWide Tryz.prog W .any base 29 v0) (h0 : DataW.Trod enc Tryz.prog W 0 (fun _ => true) true 29 v0 d0 p0)
    (o1 : Value.okWide Tryz.prog W .any base 48 v1) (h1 : DataW.Trod enc Tryz.prog W 0 (fun _ => true) true 48 v1 d1 p1)
    (o2 : Value.okWide Tryz.prog W .any base 23 v2) (h2 : DataW.Trod enc Tryz.prog W 0 (fun _ => true) true 23 v2 d2 p2)
    (o3 : Value.okWide Tryz.prog W .any base 49 v3) (h3 : DataW.Trod enc Tryz.prog W 0 (fun _ => true) true 49 v3 d3 p3) :
    Calls Tryz.prog 6 #[v0, v1, v2, v3] W fun e w' => e = .returned (.bool true) ∧ Below W.heap.size W w' := by
  obtain ⟨e, u, rs, rfl, he, hrs, hin⟩ := open_set h0
  obtain ⟨y, rfl, yf, yl⟩ := open_b4 h1
  obtain ⟨x, rfl, xf, xl⟩ := open_b16 h2
  obtain ⟨k4, rfl, _, _, wk4⟩ := open_int Tryz.underlying49 o3 h3
  have hk4 := bounds_u16 wk4
  obtain ⟨n, rfl⟩ := Int.eq_ofNat_of_zero_le hk4.1
  exact rulesBest_walk e he rs hin u y yf yl x xf xl n (by omega) W hrs tb.2 tb.1
end Go.Proofs.YtaebknkjhhcneaaGreatDoor
