/-
  awake answers true.
-/
import Derived.Test.YtfiiopgdgfbkkaaDoorQd1
namespace Go.Proofs.YtfiiopgdgfbkkaaDoor
set_option linter.unusedVariables false
set_option linter.unusedSimpArgs false
open Go Go.RowKit

theorem armLg {P : Program} {w : World} {ops : Array Oper} {rest : List Oper} {o : Oper} {a : Act} {Q : Exit → Act → World → Prop} (p : Operand) (t : TypeId) (hop : o.op = Op.load t p) (hw : Region.wanted o (yielded ops a.tmps) = true) {vp v : Value} (hp : a.eval p = vp) (hrun : (Instr.loadAt t vp).run P w = .ok v w) (hK : wpList P ops Q rest (a.put o.dst v) w) : wpList P ops Q (o :: rest) a w :=
  arm_load hw p t hop hp hrun hK

set_option maxHeartbeats 1000000 in
set_option maxRecDepth 100000 in
theorem awake_any (w : World) (ht : Tz w) : Calls Tryd.prog 15 #[] w fun e w' => e = .returned (.bool true) ∧ Below w.heap.size w w' := by
  have hp6 := fun W => Prefix6_good kP1 18 kP1A 64 kP1_good W
  have hpu := fun W => Put_any kP1A 64 [192, 0, 2, 33] W (fit_of (by decide)) rfl (by decide) rfl (fit_of (by decide))
  have hpe : putE kP1A 64 [192, 0, 2, 33] = AE6 kA 0 := by
    have e1 : chkE kP1A 64 = 0 := by decide +kernel
    have e2 : putL kP1A 64 [192, 0, 2, 33] = kA := by decide +kernel
    unfold putE
    rw [e1, e2]
    rfl
  rw [hpe] at hpu
  have HP6 : Hid _ := hp6
  have HPU : Hid _ := hpu
  have hA16 : kP1A.length = 16 := rfl
  clear hp6 hpu hpe
  go_enter Tryd.func15, Tryd.ntmps15
  go_wp2_with fail
  refine (HP6.out w).mono ?_
  rintro e w1 ⟨rfl, hB1⟩
  obtain ⟨w2, hst2, b2, hB2⟩ := box_new Tryd.sizeOf25 w1 zero17V rfl (cp6 kP1A 64) (cp6_length _ _ hA16) (cp6_one _ _)
  have HS2 : Hid _ := hst2
  have hBw2 := hB1.trans (hB2.mono hB1.size)
  clear hst2 hB1 HP6
  go_wp2_with ((with_reducible show wpList _ _ _ _ _ _); refine armS (.tmp 1) (.tmp 11) 25 rfl rfl rfl rfl HS2.out ?_)
  refine (kT4_parse w2).mono ?_
  rintro e w3 ⟨rfl, hB3⟩
  obtain ⟨w4, hst4, b4, hB4⟩ := box_new Tryd.sizeOf27 w3 zero4L rfl (b8 [192, 0, 2, 33]) rfl (b8_one _)
  have HS4 : Hid _ := hst4
  have hlt1 : w1.heap.size < w2.heap.size := (Array.getElem?_eq_some_iff.1 b2).1
  have hB24 := hB3.trans (hB4.mono hB3.size)
  have b24 := (hB24.block _ hlt1).trans b2
  have hBw4 := hBw2.trans (hB24.mono hBw2.size)
  have HL6 : Hid _ := loadP6 hA16 (CellsAt.pfx hA16 b24).1
  have HL4 : Hid _ := agg_load (t := 27) Tryd.isAgg27 Tryd.sizeOf27 rfl (CellsAt.of_blk b4)
  clear hst4 HS2 hB2 hB3 hB4 hB24 b24 b4 b2 hBw2
  unfold Par4
  dsimp only
  go_wp2_with first
    | ((with_reducible show wpList _ _ _ _ _ _); refine armS (.tmp 4) (.tmp 16) 27 rfl rfl rfl rfl HS4.out ?_)
    | ((with_reducible show wpList _ _ _ _ _ _); refine armL (.tmp 1) 25 rfl rfl rfl HL6.out ?_)
    | ((with_reducible show wpList _ _ _ _ _ _); refine armL (.tmp 4) 27 rfl rfl rfl HL4.out ?_)
  refine (HPU.out w4).mono ?_
  rintro e w5 ⟨rfl, hB5⟩
  have hk16 : kA.length = 16 := rfl
  obtain ⟨w6, hst6, b6, hB6⟩ := box_new Tryd.sizeOf23 w5 zero16V rfl (u8s kA) rfl (u8s_one _)
  have HS6 : Hid _ := hst6
  have hBw6 := hBw4.trans ((hB5.trans (hB6.mono hB5.size)).mono hBw4.size)
  have HLA : Hid _ := load6 hk16 (CellsAt.of_blk b6)
  have htx := Text6_known w6 (ht.on hBw6)
  have HTX : Hid _ := htx
  have hq : ((tK 8).toList == [50, 48, 48, 49, 58, 100, 98, 56, 58, 49, 50, 50, 58, 51, 52, 52, 58, 99, 48, 58, 50, 58, 50, 49, 48, 48, 58, 48]) = true := by
    rw [Lib.toList_data]
    rfl
  clear hst6 b6 hB5 hB6 hBw4 htx HPU HL6 HL4 HS4
  unfold AE6
  go_wp2_with first
    | ((with_reducible show wpList _ _ _ _ _ _); refine armS (.tmp 7) (.tmp 23) 23 rfl rfl rfl rfl HS6.out ?_)
    | ((with_reducible show wpList _ _ _ _ _ _); refine armLg (.tmp 7) 23 rfl rfl rfl HLA.out ?_)
  refine Calls.mono HTX.out ?_
  rintro e w7 ⟨rfl, hB7⟩
  go_wp2
  go_ret
  exact ⟨rfl, hBw6.trans (hB7.mono hBw6.size)⟩

end Go.Proofs.YtfiiopgdgfbkkaaDoor
