/-
  The document's parse of any bytes.
-/
import Derived.Test.YtpgnnplpcalbbaaGreatFold16
set_option linter.unusedVariables false
set_option linter.unusedSimpArgs false
namespace Go.Proofs.YtpgnnplpcalbbaaGreat.V6
open Go Go.RowKit
theorem res3c {P : Program} {fn : Func} {a b c : Tmp} {t : TypeId} (h : fn.results = #[.cell a t, .tmp b, .tmp c]) {tmps : Array Value} {R : Addr} (hp : tmps.getD a undef = .pointer (some R)) {v : Value} {w : World} (hl : (loadVar t R).run P w = .ok v w) :
    (results fn tmps).run P w = .ok (.tuple #[v, tmps.getD b undef, tmps.getD c undef]) w := by
  rw [Array.getD_eq_getD_getElem?] at hp
  simp [results, h, hp, asAddr, hl]
theorem res3d {P : Program} {fn : Func} {a b c : Tmp} {t : TypeId} (h : fn.results = #[.cell a t, .tmp b, .tmp c]) {tmps : Array Value} {R : Addr} (hp : tmps.getD a undef = .pointer (some R)) {x y : Value} (hx : tmps.getD b undef = x) (hy : tmps.getD c undef = y) {v : Value} {w : World} (hl : (loadVar t R).run P w = .ok v w) :
    (results fn tmps).run P w = .ok (.tuple #[v, x, y]) w := by
  rw [res3c h hp hl, hx, hy]
theorem alloc6_wp {o : Oper} {a : Act} {w : World} {K : Act → World → Prop} {Q : Exit → Act → World → Prop} (hop : o.op = Op.alloc 36) (hK : K (a.put o.dst (.pointer (some ⟨w.heap.size, 0, none⟩))) (w.alloc (.cells zeroV.toArray 36))) : o.wp Tryz.prog a w K Q := by
  unfold Oper.wp
  simp [execOp, hop, go_sem]
  exact hK
theorem build_zero (W : World) : (Instr.build 36 ([] : List (Nat × Value)).toArray).run Tryz.prog W = .ok (.agg zeroV.toArray) W := by kernel_rfl
section
variable {w : World} {v : Value} {zs : List Int}
set_option maxHeartbeats 4000000 in
set_option maxRecDepth 100000 in
theorem parse_short (whole : Bool) (h : BS (fun b => b < w.heap.size) w v zs) (hl : zs.length < 40) (X : Ending → World → Prop)
    (xb : ∀ w', Below w.heap.size w w' → X (.returned (.tuple #[.agg zeroV.toArray, .int .i64 0, .int .i64 50])) w') :
    Calls Tryz.prog 186 #[v, .bool whole] w X := by
  have HBZ : Hid (∀ W : World, (Instr.build 36 ([] : List (Nat × Value)).toArray).run Tryz.prog W = .ok (.agg zeroV.toArray) W) := build_zero
  obtain ⟨W0, hW0⟩ : ∃ W0, W0 = w.alloc (.cells zeroV.toArray 36) := ⟨_, rfl⟩
  have HB0 : Hid (Below w.heap.size w W0) := by
    have : Below w.heap.size w W0 := by rw [hW0]; exact (Below.refl w.heap.size w).alloc (Nat.le_refl _) _
    exact this
  have hz0 : W0.heap[w.heap.size]? = some (.cells zeroV.toArray 36) := by rw [hW0]; exact blk_new w _
  obtain ⟨w2, hst, hb2, ho2⟩ := box_store Tryz.sizeOf36 (w := W0) hz0 (by rfl) (vC zF zG (.slice none 0 0) (.slice none 0 0)) vC_len (vC_one rfl rfl)
  have hB2 : Below w.heap.size w w2 := (HB0.out.trans (((Below.refl W0.heap.size W0)).mono HB0.out.size)).trans (ho2.below (Nat.le_refl _))
  rw [show (.agg (vC zF zG (.slice none 0 0) (.slice none 0 0)).toArray : Value) = .agg zeroV.toArray from rfl] at hst
  have hvl := vb_var hb2
  rw [show VV zF zG (.slice none 0 0) (.slice none 0 0) = .agg zeroV.toArray from rfl] at hvl
  have HVL : Hid _ := hvl
  have HS0 : Hid _ := hst
  have hW := hW0.symm
  unfold zeroV at hW
  have HX : Hid (X (.returned (.tuple #[.agg zeroV.toArray, .int .i64 0, .int .i64 50])) w2) := xb _ hB2
  obtain ⟨_, _, a, cap, ev, _⟩ := h.row
  subst ev
  have q : decide ((zs.length : Int) < 40) = true := by simp; omega
  have q' : decide (zs.length < 40) = true := by simp; omega
  clear hst hb2 hB2 ho2 hz0 hW0 h xb hvl
  refine Calls.mono (R := fun e w' => Hid (X e w')) ?_ (fun e w' hx => hx.out)
  go_enter Tryz.func186, Tryz.ntmps186
  go_wp2_with first
    | ((with_reducible show wpList _ _ _ ({ dst := _, op := Op.build 36 _, type := _, pos := _, after := _, guard := _ } :: _) _ _); refine arm_build rfl 36 [] rfl rfl (HBZ.out _) ?_)
    | ((with_reducible show wpList _ _ _ ({ dst := _, op := Op.store 36 (Operand.tmp 4) _, type := _, pos := _, after := _, guard := _ } :: _) _ _); refine armS (.tmp 4) (.tmp 17) 36 rfl rfl rfl rfl HS0.out ?_; try simp only [Act.put])
  exact bodyPost_ret (res3d (a := 4) (b := 5) (c := 6) rfl rfl rfl rfl HVL.out) rfl HX
set_option maxHeartbeats 4000000 in
set_option maxRecDepth 100000 in
theorem parse_ver (whole : Bool) (h : BS (fun b => b < w.heap.size) w v zs) (hl : 40 ≤ zs.length) (hn : gz zs 0 / 16 ≠ 6) (X : Ending → World → Prop)
    (xb : ∀ w', Below w.heap.size w w' → X (.returned (.tuple #[.agg zeroV.toArray, .int .i64 0, .int .i64 51])) w') :
    Calls Tryz.prog 186 #[v, .bool whole] w X := by
  have HBZ : Hid (∀ W : World, (Instr.build 36 ([] : List (Nat × Value)).toArray).run Tryz.prog W = .ok (.agg zeroV.toArray) W) := build_zero
  obtain ⟨W0, hW0⟩ : ∃ W0, W0 = w.alloc (.cells zeroV.toArray 36) := ⟨_, rfl⟩
  have HB0 : Hid (Below w.heap.size w W0) := by
    have : Below w.heap.size w W0 := by rw [hW0]; exact (Below.refl w.heap.size w).alloc (Nat.le_refl _) _
    exact this
  have hz0 : W0.heap[w.heap.size]? = some (.cells zeroV.toArray 36) := by rw [hW0]; exact blk_new w _
  obtain ⟨w2, hst, hb2, ho2⟩ := box_store Tryz.sizeOf36 (w := W0) hz0 (by rfl) (vC zF zG (.slice none 0 0) (.slice none 0 0)) vC_len (vC_one rfl rfl)
  have hB2 : Below w.heap.size w w2 := (HB0.out.trans (((Below.refl W0.heap.size W0)).mono HB0.out.size)).trans (ho2.below (Nat.le_refl _))
  rw [show (.agg (vC zF zG (.slice none 0 0) (.slice none 0 0)).toArray : Value) = .agg zeroV.toArray from rfl] at hst
  have hvl := vb_var hb2
  rw [show VV zF zG (.slice none 0 0) (.slice none 0 0) = .agg zeroV.toArray from rfl] at hvl
  have HVL : Hid _ := hvl
  have HS0 : Hid _ := hst
  have hW := hW0.symm
  unfold zeroV at hW
  have HX : Hid (X (.returned (.tuple #[.agg zeroV.toArray, .int .i64 0, .int .i64 51])) w2) := xb _ hB2
  obtain ⟨zb, zo, n', zc, ev, _, hcell⟩ := h.first (by omega)
  have hlt : zb < w.heap.size := by
    rcases h.loc with hl | ⟨b', o', n', k', e, hb⟩
    · omega
    · rw [ev] at e; injection e with e1; injection e1 with e1; injection e1 with e1; rw [e1]; exact hb
  have hfit := h.row.fit
  have hzl := h.row.len
  subst ev
  have cel : ∀ j, j < zs.length → W0.cell? ⟨zb, zo + j, none⟩ = some (.int .u8 (gz zs j)) := fun j hj => (HB0.out.cell (p := ⟨zb, zo + j, none⟩) hlt).trans (hcell j hj)
  have q : decide ((zs.length : Int) < 40) = false := by simp; omega
  have q' : decide (zs.length < 40) = false := by simp; omega
  have f0 := gz_fit hfit 0
  have c0 := cel 0 (by omega)
  rw [Nat.add_zero] at c0
  have qv : (gz zs 0 / 16 != 6) = true := by simp [hn]
  clear cel hcell hfit hn
  generalize gz zs 0 = z0 at *
  clear hst hb2 hB2 ho2 hz0 hW0 h xb hvl
  refine Calls.mono (R := fun e w' => Hid (X e w')) ?_ (fun e w' hx => hx.out)
  go_enter Tryz.func186, Tryz.ntmps186
  go_wp2_with first
    | ((with_reducible show wpList _ _ _ ({ dst := _, op := Op.build 36 _, type := _, pos := _, after := _, guard := _ } :: _) _ _); refine arm_build rfl 36 [] rfl rfl (HBZ.out _) ?_)
    | ((with_reducible show wpList _ _ _ ({ dst := _, op := Op.store 36 (Operand.tmp 4) _, type := _, pos := _, after := _, guard := _ } :: _) _ _); refine armS (.tmp 4) (.tmp 23) 36 rfl rfl rfl rfl HS0.out ?_; try simp only [Act.put])
  exact bodyPost_ret (res3d (a := 4) (b := 5) (c := 6) rfl rfl rfl rfl HVL.out) rfl HX
set_option maxHeartbeats 4000000 in
set_option maxRecDepth 100000 in
theorem parse_len (whole : Bool) (h : BS (fun b => b < w.heap.size) w v zs) (hl : 40 ≤ zs.length) (hn : gz zs 0 / 16 = 6) (hb : badN whole zs) (X : Ending → World → Prop)
    (xb : ∀ w', Below w.heap.size w w' → X (.returned (.tuple #[.agg zeroV.toArray, .int .i64 4, .int .i64 52])) w') :
    Calls Tryz.prog 186 #[v, .bool whole] w X := by
  have HBZ : Hid (∀ W : World, (Instr.build 36 ([] : List (Nat × Value)).toArray).run Tryz.prog W = .ok (.agg zeroV.toArray) W) := build_zero
  obtain ⟨W0, hW0⟩ : ∃ W0, W0 = w.alloc (.cells zeroV.toArray 36) := ⟨_, rfl⟩
  have HB0 : Hid (Below w.heap.size w W0) := by
    have : Below w.heap.size w W0 := by rw [hW0]; exact (Below.refl w.heap.size w).alloc (Nat.le_refl _) _
    exact this
  have hz0 : W0.heap[w.heap.size]? = some (.cells zeroV.toArray 36) := by rw [hW0]; exact blk_new w _
  obtain ⟨w2, hst, hb2, ho2⟩ := box_store Tryz.sizeOf36 (w := W0.drew) hz0 (by rfl) (vC zF zG (.slice none 0 0) (.slice none 0 0)) vC_len (vC_one rfl rfl)
  have hB2 : Below w.heap.size w w2 := (HB0.out.trans (((Below.refl W0.heap.size W0).drew).mono HB0.out.size)).trans (ho2.below (Nat.le_refl _))
  rw [show (.agg (vC zF zG (.slice none 0 0) (.slice none 0 0)).toArray : Value) = .agg zeroV.toArray from rfl] at hst
  have hvl := vb_var hb2
  rw [show VV zF zG (.slice none 0 0) (.slice none 0 0) = .agg zeroV.toArray from rfl] at hvl
  have HVL : Hid _ := hvl
  have HS0 : Hid _ := hst
  have hW := hW0.symm
  unfold zeroV at hW
  have HX : Hid (X (.returned (.tuple #[.agg zeroV.toArray, .int .i64 4, .int .i64 52])) w2) := xb _ hB2
  obtain ⟨zb, zo, n', zc, ev, _, hcell⟩ := h.first (by omega)
  have hlt : zb < w.heap.size := by
    rcases h.loc with hl | ⟨b', o', n', k', e, hb⟩
    · omega
    · rw [ev] at e; injection e with e1; injection e1 with e1; injection e1 with e1; rw [e1]; exact hb
  have hfit := h.row.fit
  have hzl := h.row.len
  subst ev
  have cel : ∀ j, j < zs.length → W0.cell? ⟨zb, zo + j, none⟩ = some (.int .u8 (gz zs j)) := fun j hj => (HB0.out.cell (p := ⟨zb, zo + j, none⟩) hlt).trans (hcell j hj)
  have q : decide ((zs.length : Int) < 40) = false := by simp; omega
  have q' : decide (zs.length < 40) = false := by simp; omega
  have f0 := gz_fit hfit 0
  have f4 := gz_fit hfit 4
  have f5 := gz_fit hfit 5
  have c0 := cel 0 (by omega)
  rw [Nat.add_zero] at c0
  have c4 := cel 4 (by omega)
  have c5 := cel 5 (by omega)
  have qv : (gz zs 0 / 16 != 6) = false := by simp [hn]
  have hbb : decide (gz zs 4 * 256 + gz zs 5 < (zs.length : Int) - 40) = true ∨ (decide (gz zs 4 * 256 + gz zs 5 < (zs.length : Int) - 40) = false ∧ whole = true ∧ decide ((zs.length : Int) - 40 < gz zs 4 * 256 + gz zs 5) = true) := by
    unfold badN lenN at hb
    by_cases e : gz zs 4 * 256 + gz zs 5 < (zs.length : Int) - 40
    · left; simp [e]
    · right
      rcases hb with hb | ⟨h1, h2⟩
      · exact absurd hb e
      · exact ⟨by simp; omega, h1, by simp [h2]⟩
  have HBB : Hid _ := hbb
  clear cel hcell hfit hn hb hbb
  generalize gz zs 0 = z0 at *
  generalize gz zs 4 = z4 at *
  generalize gz zs 5 = z5 at *
  generalize zs.length = zl at *
  clear hst hb2 hB2 ho2 hz0 hW0 h xb hvl
  refine Calls.mono (R := fun e w' => Hid (X e w')) ?_ (fun e w' hx => hx.out)
  go_enter Tryz.func186, Tryz.ntmps186
  go_wp2_with fail
  go_region
  have hbb := HBB.out
  rcases hbb with hb1 | ⟨hb1, rfl, hb2⟩
  all_goals
   go_wp2_with first
    | ((with_reducible show wpList _ _ _ ({ dst := _, op := Op.build 36 _, type := _, pos := _, after := _, guard := _ } :: _) _ _); refine arm_build rfl 36 [] rfl rfl (HBZ.out _) ?_)
    | ((with_reducible show wpList _ _ _ ({ dst := _, op := Op.store 36 (Operand.tmp 4) _, type := _, pos := _, after := _, guard := _ } :: _) _ _); refine armS (.tmp 4) (.tmp 49) 36 rfl rfl rfl rfl HS0.out ?_; try simp only [Act.put])
   exact bodyPost_ret (res3d (a := 4) (b := 5) (c := 6) rfl rfl rfl rfl HVL.out) rfl HX
end
end Go.Proofs.YtpgnnplpcalbbaaGreat.V6
