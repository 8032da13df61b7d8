/-
  cut of the statements of split.
-/
import Derived.Test.YtackllcfnlhkpaaVc2
namespace Go.Proofs.Ytackllcfnlhkpaa
open Go Go.RowKit
set_option linter.unusedVariables false
set_option linter.unusedSimpArgs false

set_option maxHeartbeats 2000000 in
set_option maxRecDepth 100000 in
theorem cut_00 (f : Fd) (mf : Bool) (off : Int) (so sb : Value) (opts body : List Int) (w0 w : World) (h1 : RowC w0 so opts) (h2 : RowC w0 sb body) (q2 : ¬ 100 < opts.length) (q1 : ¬ 70000 < body.length) :
    Calls Try.prog 8 #[VV f mf off so sb] w fun e w' => ∃ so' sb', e = .returned (VV f mf off so' sb') ∧ RowC w0 so' (opts.take 100) ∧ RowC w0 sb' (body.take 70000) ∧ Below w.heap.size w w' := by
  have s1 : so.oneCell' = true := (BS.of_row h1).one
  have s2 : sb.oneCell' = true := (BS.of_row h2).one
  have HR1 : Hid (RowC w0 so (opts.take 100)) := by show RowC _ _ _; rw [List.take_of_length_le (by omega)]; exact h1
  have s1' := s1
  have HR2 : Hid (RowC w0 sb (body.take 70000)) := by show RowC _ _ _; rw [List.take_of_length_le (by omega)]; exact h2
  have s2' := s2
  obtain ⟨a1, c1, e1⟩ : ∃ a c, so = .slice a opts.length c := by obtain ⟨_, _, a, cap, e, _⟩ := h1; exact ⟨_, _, e⟩
  obtain ⟨a2, c2, e2⟩ : ∃ a c, sb = .slice a body.length c := by obtain ⟨_, _, a, cap, e, _⟩ := h2; exact ⟨_, _, e⟩
  have hl1 := h1.len
  have hl2 := h2.len
  obtain ⟨hb0, hr0, hB0, hs0⟩ := blk_two w (BV f mf off so sb) (.cells zeroV.toArray 27)
  have d16 := vb16 hb0
  rw [e2] at d16
  rw [← e2] at d16
  have d15 := vb15 hb0
  obtain ⟨W3, hst3, hbx3, hon3⟩ := box_store Try.sizeOf27 hr0 rfl (vC f mf off so sb) rfl (vC_one f mf off s1' s2')
  have HFIN : Hid (Below w.heap.size w W3) := hB0.trans (hon3.below (by omega))
  have HRES : Hid _ := agg_loadVar (t := 27) Try.isAgg27 Try.sizeOf27 (vC_len f mf off so sb) (CellsAt.of_blk hbx3)
  have hld := vb_load hb0
  unfold zeroV at hld hst3
  have HLD : Hid _ := hld
  have HS3 : Hid _ := hst3
  have hB0 := hB0
  unfold zeroV at d16
  unfold zeroV at d15
  subst e1 e2
  clear hld hst3 hbx3 hon3 hb0 hr0 hB0 hs0 h1 h2
  generalize opts.length = no at *
  generalize body.length = nb at *
  go_enter Try.func8, Try.ntmps8
  go_wp2_with first
    | ((with_reducible show wpList _ _ _ ({ dst := _, op := Op.load 27 (Operand.tmp 1), type := _, pos := _, after := _, guard := _ } :: _) _ _); refine armL (.tmp 1) 27 rfl rfl rfl HLD.out ?_)
    | ((with_reducible show wpList _ _ _ ({ dst := _, op := Op.store 27 (Operand.tmp 2) (Operand.tmp 19), type := _, pos := _, after := _, guard := _ } :: _) _ _); refine armS (.tmp 2) (Operand.tmp 19) 27 rfl rfl rfl rfl HS3.out ?_; simp only [Act.put])
  refine bodyPost_ret (res1t rfl rfl HRES.out) rfl ?_
  exact ⟨_, _, rfl, HR1.out, HR2.out, HFIN.out⟩

set_option maxHeartbeats 2000000 in
set_option maxRecDepth 100000 in
theorem cut_01 (f : Fd) (mf : Bool) (off : Int) (so sb : Value) (opts body : List Int) (w0 w : World) (h1 : RowC w0 so opts) (h2 : RowC w0 sb body) (q2 : 100 < opts.length) (q1 : ¬ 70000 < body.length) :
    Calls Try.prog 8 #[VV f mf off so sb] w fun e w' => ∃ so' sb', e = .returned (VV f mf off so' sb') ∧ RowC w0 so' (opts.take 100) ∧ RowC w0 sb' (body.take 70000) ∧ Below w.heap.size w w' := by
  have s1 : so.oneCell' = true := (BS.of_row h1).one
  have s2 : sb.oneCell' = true := (BS.of_row h2).one
  obtain ⟨so', hu1, hr1⟩ := cut_front h1.cons (by omega) 100 (by omega)
  have hs1 := hr1.slc
  have HR1 : Hid (RowC w0 so' (opts.take 100)) := hr1.row
  have HU1 : Hid _ := hu1
  have s1' := hr1.one
  clear hu1 hr1
  have HR2 : Hid (RowC w0 sb (body.take 70000)) := by show RowC _ _ _; rw [List.take_of_length_le (by omega)]; exact h2
  have s2' := s2
  obtain ⟨a1, c1, e1⟩ : ∃ a c, so = .slice a opts.length c := by obtain ⟨_, _, a, cap, e, _⟩ := h1; exact ⟨_, _, e⟩
  obtain ⟨a2, c2, e2⟩ : ∃ a c, sb = .slice a body.length c := by obtain ⟨_, _, a, cap, e, _⟩ := h2; exact ⟨_, _, e⟩
  have hl1 := h1.len
  have hl2 := h2.len
  obtain ⟨hb0, hr0, hB0, hs0⟩ := blk_two w (BV f mf off so sb) (.cells zeroV.toArray 27)
  have d16 := vb16 hb0
  rw [e2] at d16
  rw [← e2] at d16
  have d15 := vb15 hb0
  obtain ⟨W2, hst2, hb2, hon2⟩ := put15 hb0 hs1
  have hr2 := (hon2.other (w.heap.size + 1) (by omega)).trans hr0
  have hB2 := hB0.trans (hon2.below (Nat.le_refl _))
  unfold zeroV at hst2
  have HS2 : Hid _ := hst2
  clear hst2 hon2
  obtain ⟨W3, hst3, hbx3, hon3⟩ := box_store Try.sizeOf27 hr2 rfl (vC f mf off so' sb) rfl (vC_one f mf off s1' s2')
  have HFIN : Hid (Below w.heap.size w W3) := hB2.trans (hon3.below (by omega))
  have HRES : Hid _ := agg_loadVar (t := 27) Try.isAgg27 Try.sizeOf27 (vC_len f mf off so' sb) (CellsAt.of_blk hbx3)
  have hld := vb_load hb2
  
  have HLD : Hid _ := hld
  have HS3 : Hid _ := hst3
  unfold zeroV at d16
  unfold zeroV at d15
  subst e1 e2
  clear hld hst3 hbx3 hon3 hb0 hr0 hB0 hs0 h1 h2 hb2 hr2 hB2
  generalize opts.length = no at *
  generalize body.length = nb at *
  go_enter Try.func8, Try.ntmps8
  go_wp2_with first
    | ((with_reducible show wpList _ _ _ ({ dst := _, op := Op.slice 25 (Operand.tmp 16) none (some (Operand.const (Value.int IntKind.i64 100))) none, type := _, pos := _, after := _, guard := _ } :: _) _ _); refine arm_slice rfl 25 (.tmp 16) none (some (.const (.int .i64 100))) rfl rfl rfl rfl (HU1.out _) ?_)
    | ((with_reducible show wpList _ _ _ ({ dst := _, op := Op.store 25 (Operand.tmp 18) (Operand.tmp 17), type := _, pos := _, after := _, guard := _ } :: _) _ _); refine armS (.tmp 18) (Operand.tmp 17) 25 rfl rfl rfl rfl HS2.out ?_; simp only [Act.put])
    | ((with_reducible show wpList _ _ _ ({ dst := _, op := Op.load 27 (Operand.tmp 1), type := _, pos := _, after := _, guard := _ } :: _) _ _); refine armL (.tmp 1) 27 rfl rfl rfl HLD.out ?_)
    | ((with_reducible show wpList _ _ _ ({ dst := _, op := Op.store 27 (Operand.tmp 2) (Operand.tmp 19), type := _, pos := _, after := _, guard := _ } :: _) _ _); refine armS (.tmp 2) (Operand.tmp 19) 27 rfl rfl rfl rfl HS3.out ?_; simp only [Act.put])
  refine bodyPost_ret (res1t rfl rfl HRES.out) rfl ?_
  exact ⟨_, _, rfl, HR1.out, HR2.out, HFIN.out⟩

set_option maxHeartbeats 2000000 in
set_option maxRecDepth 100000 in
theorem cut_10 (f : Fd) (mf : Bool) (off : Int) (so sb : Value) (opts body : List Int) (w0 w : World) (h1 : RowC w0 so opts) (h2 : RowC w0 sb body) (q2 : ¬ 100 < opts.length) (q1 : 70000 < body.length) :
    Calls Try.prog 8 #[VV f mf off so sb] w fun e w' => ∃ so' sb', e = .returned (VV f mf off so' sb') ∧ RowC w0 so' (opts.take 100) ∧ RowC w0 sb' (body.take 70000) ∧ Below w.heap.size w w' := by
  have s1 : so.oneCell' = true := (BS.of_row h1).one
  have s2 : sb.oneCell' = true := (BS.of_row h2).one
  have HR1 : Hid (RowC w0 so (opts.take 100)) := by show RowC _ _ _; rw [List.take_of_length_le (by omega)]; exact h1
  have s1' := s1
  obtain ⟨sb', hu2, hr2⟩ := cut_front h2.cons (by omega) 70000 (by omega)
  have hs2 := hr2.slc
  have HR2 : Hid (RowC w0 sb' (body.take 70000)) := hr2.row
  have HU2 : Hid _ := hu2
  have s2' := hr2.one
  clear hu2 hr2
  obtain ⟨a1, c1, e1⟩ : ∃ a c, so = .slice a opts.length c := by obtain ⟨_, _, a, cap, e, _⟩ := h1; exact ⟨_, _, e⟩
  obtain ⟨a2, c2, e2⟩ : ∃ a c, sb = .slice a body.length c := by obtain ⟨_, _, a, cap, e, _⟩ := h2; exact ⟨_, _, e⟩
  have hl1 := h1.len
  have hl2 := h2.len
  obtain ⟨hb0, hr0, hB0, hs0⟩ := blk_two w (BV f mf off so sb) (.cells zeroV.toArray 27)
  have d16 := vb16 hb0
  rw [e2] at d16
  rw [← e2] at d16
  obtain ⟨W1, hst1, hb1, hon1⟩ := put16 hb0 hs2
  have hr1 := (hon1.other (w.heap.size + 1) (by omega)).trans hr0
  have hB1 := hB0.trans (hon1.below (Nat.le_refl _))
  unfold zeroV at hst1
  have HS1 : Hid _ := hst1
  clear hst1 hon1
  have d15 := vb15 hb1
  obtain ⟨W3, hst3, hbx3, hon3⟩ := box_store Try.sizeOf27 hr1 rfl (vC f mf off so sb') rfl (vC_one f mf off s1' s2')
  have HFIN : Hid (Below w.heap.size w W3) := hB1.trans (hon3.below (by omega))
  have HRES : Hid _ := agg_loadVar (t := 27) Try.isAgg27 Try.sizeOf27 (vC_len f mf off so sb') (CellsAt.of_blk hbx3)
  have hld := vb_load hb1
  
  have HLD : Hid _ := hld
  have HS3 : Hid _ := hst3
  unfold zeroV at d16
  subst e1 e2
  clear hld hst3 hbx3 hon3 hb0 hr0 hB0 hs0 h1 h2 hb1 hr1 hB1
  generalize opts.length = no at *
  generalize body.length = nb at *
  go_enter Try.func8, Try.ntmps8
  go_wp2_with first
    | ((with_reducible show wpList _ _ _ ({ dst := _, op := Op.slice 25 (Operand.tmp 8) none (some (Operand.const (Value.int IntKind.i64 70000))) none, type := _, pos := _, after := _, guard := _ } :: _) _ _); refine arm_slice rfl 25 (.tmp 8) none (some (.const (.int .i64 70000))) rfl rfl rfl rfl (HU2.out _) ?_)
    | ((with_reducible show wpList _ _ _ ({ dst := _, op := Op.store 25 (Operand.tmp 10) (Operand.tmp 9), type := _, pos := _, after := _, guard := _ } :: _) _ _); refine armS (.tmp 10) (Operand.tmp 9) 25 rfl rfl rfl rfl HS1.out ?_; simp only [Act.put])
    | ((with_reducible show wpList _ _ _ ({ dst := _, op := Op.load 27 (Operand.tmp 1), type := _, pos := _, after := _, guard := _ } :: _) _ _); refine armL (.tmp 1) 27 rfl rfl rfl HLD.out ?_)
    | ((with_reducible show wpList _ _ _ ({ dst := _, op := Op.store 27 (Operand.tmp 2) (Operand.tmp 19), type := _, pos := _, after := _, guard := _ } :: _) _ _); refine armS (.tmp 2) (Operand.tmp 19) 27 rfl rfl rfl rfl HS3.out ?_; simp only [Act.put])
  refine bodyPost_ret (res1t rfl rfl HRES.out) rfl ?_
  exact ⟨_, _, rfl, HR1.out, HR2.out, HFIN.out⟩

set_option maxHeartbeats 2000000 in
set_option maxRecDepth 100000 in
theorem cut_11 (f : Fd) (mf : Bool) (off : Int) (so sb : Value) (opts body : List Int) (w0 w : World) (h1 : RowC w0 so opts) (h2 : RowC w0 sb body) (q2 : 100 < opts.length) (q1 : 70000 < body.length) :
    Calls Try.prog 8 #[VV f mf off so sb] w fun e w' => ∃ so' sb', e = .returned (VV f mf off so' sb') ∧ RowC w0 so' (opts.take 100) ∧ RowC w0 sb' (body.take 70000) ∧ Below w.heap.size w w' := by
  have s1 : so.oneCell' = true := (BS.of_row h1).one
  have s2 : sb.oneCell' = true := (BS.of_row h2).one
  obtain ⟨so', hu1, hr1⟩ := cut_front h1.cons (by omega) 100 (by omega)
  have hs1 := hr1.slc
  have HR1 : Hid (RowC w0 so' (opts.take 100)) := hr1.row
  have HU1 : Hid _ := hu1
  have s1' := hr1.one
  clear hu1 hr1
  obtain ⟨sb', hu2, hr2⟩ := cut_front h2.cons (by omega) 70000 (by omega)
  have hs2 := hr2.slc
  have HR2 : Hid (RowC w0 sb' (body.take 70000)) := hr2.row
  have HU2 : Hid _ := hu2
  have s2' := hr2.one
  clear hu2 hr2
  obtain ⟨a1, c1, e1⟩ : ∃ a c, so = .slice a opts.length c := by obtain ⟨_, _, a, cap, e, _⟩ := h1; exact ⟨_, _, e⟩
  obtain ⟨a2, c2, e2⟩ : ∃ a c, sb = .slice a body.length c := by obtain ⟨_, _, a, cap, e, _⟩ := h2; exact ⟨_, _, e⟩
  have hl1 := h1.len
  have hl2 := h2.len
  obtain ⟨hb0, hr0, hB0, hs0⟩ := blk_two w (BV f mf off so sb) (.cells zeroV.toArray 27)
  have d16 := vb16 hb0
  rw [e2] at d16
  rw [← e2] at d16
  obtain ⟨W1, hst1, hb1, hon1⟩ := put16 hb0 hs2
  have hr1 := (hon1.other (w.heap.size + 1) (by omega)).trans hr0
  have hB1 := hB0.trans (hon1.below (Nat.le_refl _))
  unfold zeroV at hst1
  have HS1 : Hid _ := hst1
  clear hst1 hon1
  have d15 := vb15 hb1
  obtain ⟨W2, hst2, hb2, hon2⟩ := put15 hb1 hs1
  have hr2 := (hon2.other (w.heap.size + 1) (by omega)).trans hr1
  have hB2 := hB1.trans (hon2.below (Nat.le_refl _))
  have HS2 : Hid _ := hst2
  clear hst2 hon2
  obtain ⟨W3, hst3, hbx3, hon3⟩ := box_store Try.sizeOf27 hr2 rfl (vC f mf off so' sb') rfl (vC_one f mf off s1' s2')
  have HFIN : Hid (Below w.heap.size w W3) := hB2.trans (hon3.below (by omega))
  have HRES : Hid _ := agg_loadVar (t := 27) Try.isAgg27 Try.sizeOf27 (vC_len f mf off so' sb') (CellsAt.of_blk hbx3)
  have hld := vb_load hb2
  
  have HLD : Hid _ := hld
  have HS3 : Hid _ := hst3
  unfold zeroV at d16
  subst e1 e2
  clear hld hst3 hbx3 hon3 hb0 hr0 hB0 hs0 h1 h2 hb1 hr1 hB1 hb2 hr2 hB2
  generalize opts.length = no at *
  generalize body.length = nb at *
  go_enter Try.func8, Try.ntmps8
  go_wp2_with first
    | ((with_reducible show wpList _ _ _ ({ dst := _, op := Op.slice 25 (Operand.tmp 8) none (some (Operand.const (Value.int IntKind.i64 70000))) none, type := _, pos := _, after := _, guard := _ } :: _) _ _); refine arm_slice rfl 25 (.tmp 8) none (some (.const (.int .i64 70000))) rfl rfl rfl rfl (HU2.out _) ?_)
    | ((with_reducible show wpList _ _ _ ({ dst := _, op := Op.store 25 (Operand.tmp 10) (Operand.tmp 9), type := _, pos := _, after := _, guard := _ } :: _) _ _); refine armS (.tmp 10) (Operand.tmp 9) 25 rfl rfl rfl rfl HS1.out ?_; simp only [Act.put])
    | ((with_reducible show wpList _ _ _ ({ dst := _, op := Op.slice 25 (Operand.tmp 16) none (some (Operand.const (Value.int IntKind.i64 100))) none, type := _, pos := _, after := _, guard := _ } :: _) _ _); refine arm_slice rfl 25 (.tmp 16) none (some (.const (.int .i64 100))) rfl rfl rfl rfl (HU1.out _) ?_)
    | ((with_reducible show wpList _ _ _ ({ dst := _, op := Op.store 25 (Operand.tmp 18) (Operand.tmp 17), type := _, pos := _, after := _, guard := _ } :: _) _ _); refine armS (.tmp 18) (Operand.tmp 17) 25 rfl rfl rfl rfl HS2.out ?_; simp only [Act.put])
    | ((with_reducible show wpList _ _ _ ({ dst := _, op := Op.load 27 (Operand.tmp 1), type := _, pos := _, after := _, guard := _ } :: _) _ _); refine armL (.tmp 1) 27 rfl rfl rfl HLD.out ?_)
    | ((with_reducible show wpList _ _ _ ({ dst := _, op := Op.store 27 (Operand.tmp 2) (Operand.tmp 19), type := _, pos := _, after := _, guard := _ } :: _) _ _); refine armS (.tmp 2) (Operand.tmp 19) 27 rfl rfl rfl rfl HS3.out ?_; simp only [Act.put])
  refine bodyPost_ret (res1t rfl rfl HRES.out) rfl ?_
  exact ⟨_, _, rfl, HR1.out, HR2.out, HFIN.out⟩

theorem cut_calls (f : Fd) (mf : Bool) (off : Int) (so sb : Value) (opts body : List Int) (w0 w : World) (h1 : RowC w0 so opts) (h2 : RowC w0 sb body) :
    Calls Try.prog 8 #[VV f mf off so sb] w fun e w' => ∃ so' sb', e = .returned (VV f mf off so' sb') ∧ RowC w0 so' (opts.take 100) ∧ RowC w0 sb' (body.take 70000) ∧ Below w.heap.size w w' := by
  by_cases q1 : 70000 < body.length <;> by_cases q2 : 100 < opts.length
  · exact cut_11 f mf off so sb opts body w0 w h1 h2 q2 q1
  · exact cut_10 f mf off so sb opts body w0 w h1 h2 q2 q1
  · exact cut_01 f mf off so sb opts body w0 w h1 h2 q2 q1
  · exact cut_00 f mf off so sb opts body w0 w h1 h2 q2 q1

end Go.Proofs.Ytackllcfnlhkpaa
