/-
  IPv6 prefixes: the document's Cover6; IPv6 addresses and prefixes as arguments.
-/
import Derived.Test.YthejkiocndoflaaDoorSix8
import Derived.Test.YthejkiocndoflaaDoorAddrArg
namespace Go.Proofs.YthejkiocndoflaaDoor
open Go Go.RowKit Go.ChangeShapes
set_option linter.unusedVariables false
set_option linter.unusedSimpArgs false

theorem cov6_has (l : List Int) (n : Int) (k : List Int) (m : Int) : cov6 l n k m = (has6 l n k && decide (n ≤ m)) := by
  unfold cov6 has6
  rw [Bool.and_comm]
  congr 1
  rw [decide_eq_decide]
  exact ⟨Eq.symm, Eq.symm⟩

set_option maxHeartbeats 4000000 in
set_option maxRecDepth 100000 in
theorem RCover6_calls (l : List Int) (n : Int) (k : List Int) (m : Int) (w : World) (hf : FitB l) (hl : l.length = 16) (kf : FitB k) (kl : k.length = 16) (hn : -9223372036854775808 ≤ n ∧ n ≤ 9223372036854775807) (hm : -9223372036854775808 ≤ m ∧ m ≤ 9223372036854775807) :
    Calls Tryd.prog 43 #[P6 l n, P6 k m] w fun e w' => e = .returned (.tuple #[.bool (both6 l n k m && cov6 l n k m), .int .i64 (if both6 l n k m then 0 else 22)]) ∧ Below w.heap.size w w' := by
  have c1 := fun w => RCheck6_calls l n w hf hl hn
  have c2 := fun w => RCheck6_calls k m w kf kl hm
  have c3 := fun w => RHas6_calls l n k w hf hl kf kl hn
  have b0 := blk_alloc (blk_new w (.cells (cp6 l n).toArray 40)) (.cells (cp6 k m).toArray 40)
  have b1 := fun w' => @two_new w (.cells (cp6 l n).toArray 40) (.cells (cp6 k m).toArray 40) w'
  have HL : Hid _ := loadP6 hl (CellsAt.pfx hl b0).1
  have HB1 : Hid _ := b1
  rw [cov6_has]
  unfold both6
  generalize hdd : decide (n ≤ m) = dd at *
  generalize has6 l n k = bb at *
  generalize okP6 l n = ok1 at *
  generalize okP6 k m = ok2 at *
  have HC1 : Hid _ := c1
  have HC2 : Hid _ := c2
  have HC3 : Hid _ := c3
  clear b0 b1 c1 c2 c3
  cases ok1
  · go_enter Tryd.func43, Tryd.ntmps43
    go_wp2_with ((with_reducible show wpList _ _ _ _ _ _); refine arm_load rfl (.tmp 2) 40 rfl rfl HL.out ?_)
    refine Calls.mono (HC1.out _) ?_
    rintro e w1 ⟨rfl, hb1⟩
    have hbl := (HB1.out w1 hb1).1
    go_wp2
    go_ret2
    exact ⟨rfl, hbl⟩
  · go_enter Tryd.func43, Tryd.ntmps43
    go_wp2_with ((with_reducible show wpList _ _ _ _ _ _); refine arm_load rfl (.tmp 2) 40 rfl rfl HL.out ?_)
    refine Calls.mono (HC1.out _) ?_
    rintro e w1 ⟨rfl, hb1⟩
    obtain ⟨hbl, bp, bq⟩ := HB1.out w1 hb1
    obtain ⟨lp, la, cp⟩ := Hi.pfx hl bp
    obtain ⟨mp, ma, cm⟩ := Hi.pfx kl bq
    have HQ : Hid _ := loadP6 kl (CellsAt.pfx kl bq).1
    have LP : Hid _ := lp
    have MA : Hid _ := ma
    clear HB1 HL HC1 bp bq hb1 lp la mp ma
    go_wp2_with ((with_reducible show wpList _ _ _ _ _ _); refine arm_load rfl (.tmp 3) 40 rfl rfl HQ.out ?_)
    refine Calls.mono (HC2.out _) ?_
    rintro e w2 ⟨rfl, hb2⟩
    obtain ⟨x2, rfl⟩ : ∃ x : Hi w1, w2 = x.W := ⟨⟨w2, hb2⟩, rfl⟩
    have hb2 := hbl.trans (x2.below.mono hbl.size)
    clear HQ HC2
    cases ok2
    · go_wp2
      go_ret2
      exact ⟨rfl, hb2⟩
    · go_wp2_with first
        | ((with_reducible show wpList _ _ _ _ _ _); refine arm_load rfl (.tmp 2) 40 rfl rfl (LP.out _) ?_)
        | ((with_reducible show wpList _ _ _ _ _ _); refine arm_load rfl _ 31 rfl rfl (MA.out _) ?_)
      refine Calls.mono (Hi.calls (HC3.out _)) ?_
      rintro e w3 ⟨rfl, x3, rfl⟩
      have hb3 := hbl.trans (x3.below.mono hbl.size)
      clear HC3 LP MA
      cases bb <;> cases dd
      all_goals
        go_wp2
        go_ret2
        exact ⟨rfl, hb3⟩

theorem open_addr6 {H : Type} {enc : TypeId × Value → H} {W : World} {v : Value} {d : DataW H} {p : List MemPlace} (h : DataW.Trod enc Tryd.prog W 0 (fun _ => true) true 31 v d p) :
    ∃ l, v = A6 l ∧ l.length = 16 ∧ FitB l := by
  obtain ⟨fuel, hf⟩ := h
  obtain ⟨zs, hl, hcs, hfit⟩ := cells_arr Tryd.underlying31 (by kernel_rfl) (by kernel_rfl) hf
  exact ⟨zs, agg_of (l := zs.map (fun z => Value.int .u8 z)) hcs (by rw [List.length_map, hl]; decide), hl, hfit⟩

set_option maxRecDepth 100000 in
theorem open_prefix6 {H : Type} {enc : TypeId × Value → H} {W : World} {v : Value} {d : DataW H} {p : List MemPlace} (h : DataW.Trod enc Tryd.prog W 0 (fun _ => true) true 40 v d p) :
    ∃ l n, v = P6 l n ∧ l.length = 16 ∧ FitB l ∧ (Lit.int .i64 n).wf = true := by
  obtain ⟨fuel, hf⟩ := h
  obtain ⟨y0, y1, m, _, hl, h0, h1⟩ := Go.ChangeShapes.trod_struct2 Tryd.underlying40 hf
  have c5 : Tryd.prog.cellsOf 40 = 17 := by kernel_rfl
  rw [c5] at hl
  have h0' : DataW.trod enc Tryd.prog W 0 (fun _ => true) true m 31 ((v.cells.toList.drop 0).take (Tryd.prog.cellsOf 31)) = some y0 := h0
  have h1' : DataW.trod enc Tryd.prog W 0 (fun _ => true) true m 3 ((v.cells.toList.drop 16).take (Tryd.prog.cellsOf 3)) = some y1 := h1
  have c4 : Tryd.prog.cellsOf 31 = 16 := by kernel_rfl
  have c1 : Tryd.prog.cellsOf 3 = 1 := by kernel_rfl
  rw [c4] at h0'
  rw [c1] at h1'
  obtain ⟨zs, hzl, hcs, hfit⟩ := cells_arr Tryd.underlying31 (by kernel_rfl) (by kernel_rfl) h0'
  obtain ⟨n, hn, _, wf⟩ := DataW.trod_int Tryd.underlying3 h1'
  have hall : v.cells.toList = cp6 zs n := by
    have e : v.cells.toList = v.cells.toList.take 16 ++ (v.cells.toList.drop 16).take 1 := by
      rw [List.take_of_length_le (l := v.cells.toList.drop 16) (by simp at hl ⊢; omega), List.take_append_drop]
    rw [e, hn]
    rw [List.drop_zero] at hcs
    rw [hcs]
    rfl
  have hv := agg_of hall (by rw [cp6_length _ _ hzl]; decide)
  exact ⟨zs, n, hv, hzl, hfit, wf⟩

end Go.Proofs.YthejkiocndoflaaDoor
