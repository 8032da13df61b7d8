/-
  IcmpKinds: the walk.
-/
import Derived.Test.YtljmamogefgiaaaNh1
import Derived.Test.YtljmamogefgiaaaNi0
namespace Go.Proofs.Ytljmamogefgiaaa
open Go Go.RowKit Go.Shelf
set_option linter.unusedVariables false
set_option linter.unusedSimpArgs false

theorem step_callF {P : Program} {ops : Array Oper} {o : Oper} {a : Act} {w : World} {K : Act → World → Prop} {Q : Exit → Act → World → Prop} {E : Prop} {R : Value → World → Prop} (hg : o.guard = none) (f : FuncId) (xs : Array Operand) (ts : Array TypeId)
    (hop : o.op = Op.call { callee := .value (.func f), args := xs, argTypes := ts }) (vs : Array Value)
    (hrun : (execOp a.eval o).run P w = .ok (.enter f vs) w) (hc : Calls P f vs w fun e w' => ∃ v, e = .returned v ∧ R v w') (hK : ∀ v w2, R v w2 → K (a.put o.dst v) w2) :
    if Region.wanted o (yielded ops a.tmps) = true then Oper.wp P o a w K Q else E := step_callR hg f vs hrun hc hK
theorem ex_eqlK {o : Oper} {a : Act} {W : World} (k j : Nat) {t : TypeId} {x y : Int} (hop : o.op = Op.binOp .eql 47 (.tmp k) (.tmp j) t) (hk : a.eval (.tmp k) = .int .i64 x) (hj : a.eval (.tmp j) = .int .i64 y) : (execOp a.eval o).run Try.prog W = .ok (.value (.bool (x == y))) W := by
  generalize a.eval = ev at *
  simp [execOp, hop, hk, hj, go_sem]
theorem ex_eqlW {o : Oper} {a : Act} {W : World} (k j : Nat) {t : TypeId} {x y : Int} (hop : o.op = Op.binOp .eql 45 (.tmp k) (.tmp j) t) (hk : a.eval (.tmp k) = .int .u16 x) (hj : a.eval (.tmp j) = .int .u16 y) : (execOp a.eval o).run Try.prog W = .ok (.value (.bool (x == y))) W := by
  generalize a.eval = ev at *
  simp [execOp, hop, hk, hj, go_sem]
theorem ex_eqlB {o : Oper} {a : Act} {W : World} (k j : Nat) {t : TypeId} {x y : Bool} (hop : o.op = Op.binOp .eql 4 (.tmp k) (.tmp j) t) (hk : a.eval (.tmp k) = .bool x) (hj : a.eval (.tmp j) = .bool y) : (execOp a.eval o).run Try.prog W = .ok (.value (.bool (x == y))) W := by
  generalize a.eval = ev at *
  simp [execOp, hop, hk, hj, go_sem]
theorem region_mid2 {P : Program} {id : Nat} {ops : Array Oper} {Q : Exit → Act → World → Prop} {a : Act} {w : World} (M : Act → Act → World → Prop) (h : (Code.region id ops true).wp P (fun e a' w' => match e with | .normal => M a a' w' | _ => False) a w) (hM : ∀ a' w', M a a' w' → Q .normal a' w') : (Code.region id ops true).wp P Q a w :=
  wp_mono h (fun e a' w' hm => by
    cases e <;> first
      | exact hM _ _ hm
      | exact hm.elim)
structure Box2 (w : World) (c c' : List Value) (m m' : Msg) (vb ub vb' ub' : Value) (W0 W1 : World) : Prop where
  cc : c = [.int .u8 m.ty, .int .u8 m.code, .int .u32 m.rest, vb]
  cc' : c' = [.int .u8 m'.ty, .int .u8 m'.code, .int .u32 m'.rest, vb']
  e0 : (w.alloc (.cells c.toArray 26)).alloc (.cells c'.toArray 26) = W0
  e1 : ((W0.setCell ⟨w.heap.size, 3, none⟩ ub).setCell ⟨w.heap.size + 1, 3, none⟩ ub').drew = W1
  k0 : W0.cell? ⟨w.heap.size, 3, none⟩ = some vb
  k1 : W0.cell? ⟨w.heap.size + 1, 3, none⟩ = some vb'
  f0 : W0.frozen? ⟨w.heap.size, 3, none⟩ = false
  f1 : W0.frozen? ⟨w.heap.size + 1, 3, none⟩ = false
  kd : (W0.setCell ⟨w.heap.size, 3, none⟩ ub).cell? ⟨w.heap.size + 1, 3, none⟩ = some vb'
  fd : (W0.setCell ⟨w.heap.size, 3, none⟩ ub).frozen? ⟨w.heap.size + 1, 3, none⟩ = false
  cut : ∀ W, Calls Try.prog 9 #[vb] W (fun e w' => e = .returned ub ∧ w' = W)
  cut' : ∀ W, Calls Try.prog 9 #[vb'] W (fun e w' => e = .returned ub' ∧ w' = W)
  msg : MsgC W1 [.int .u8 m.ty, .int .u8 m.code, .int .u32 m.rest, ub] (cutM m)
  msg' : MsgC W1 [.int .u8 m'.ty, .int .u8 m'.code, .int .u32 m'.rest, ub'] (cutM m')
  bel : Below w.heap.size w W1
  lM : ∀ W, Below W1.heap.size W1 W → (Instr.loadAt 26 (.pointer (some ⟨w.heap.size, 0, none⟩))).run Try.prog W = .ok (.agg [.int .u8 m.ty, .int .u8 m.code, .int .u32 m.rest, ub].toArray) W
  lN : ∀ W, Below W1.heap.size W1 W → (Instr.loadAt 26 (.pointer (some ⟨w.heap.size + 1, 0, none⟩))).run Try.prog W = .ok (.agg [.int .u8 m'.ty, .int .u8 m'.code, .int .u32 m'.rest, ub'].toArray) W
theorem box2 (w : World) (c c' : List Value) (m m' : Msg) (h : MsgA w c m) (h' : MsgA w c' m') : ∃ ab kb au ku ab' kb' au' ku' W0 W1, Box2 w c c' m m' (.slice ab m.body.length kb) (.slice au (m.body.take 70000).length ku) (.slice ab' m'.body.length kb') (.slice au' (m'.body.take 70000).length ku') W0 W1 := by
  obtain ⟨vb, rfl, hr, ft, fc, fr⟩ := h
  obtain ⟨vb', rfl, hr', ft', fc', fr'⟩ := h'
  obtain ⟨u, hu, hcut⟩ := cut_any vb m.body w hr
  obtain ⟨u', hu', hcut'⟩ := cut_any vb' m'.body w hr'
  obtain ⟨ab, kb, rfl, _⟩ := hr.val
  obtain ⟨au, ku, rfl, _⟩ := hu.val
  obtain ⟨ab', kb', rfl, _⟩ := hr'.val
  obtain ⟨au', ku', rfl, _⟩ := hu'.val
  have b0 := blk_alloc (blk_new w (.cells [.int .u8 m.ty, .int .u8 m.code, .int .u32 m.rest, .slice ab m.body.length kb].toArray 26)) (.cells [.int .u8 m'.ty, .int .u8 m'.code, .int .u32 m'.rest, .slice ab' m'.body.length kb'].toArray 26)
  have b1 := blk_new (w.alloc (.cells [.int .u8 m.ty, .int .u8 m.code, .int .u32 m.rest, .slice ab m.body.length kb].toArray 26)) (.cells [.int .u8 m'.ty, .int .u8 m'.code, .int .u32 m'.rest, .slice ab' m'.body.length kb'].toArray 26)
  have hb : Below w.heap.size w ((w.alloc (.cells [.int .u8 m.ty, .int .u8 m.code, .int .u32 m.rest, .slice ab m.body.length kb].toArray 26)).alloc (.cells [.int .u8 m'.ty, .int .u8 m'.code, .int .u32 m'.rest, .slice ab' m'.body.length kb'].toArray 26)) := ((Below.refl _ w).alloc (Nat.le_refl _) _).alloc (by simp) _
  have s1 : (w.alloc (.cells [.int .u8 m.ty, .int .u8 m.code, .int .u32 m.rest, .slice ab m.body.length kb].toArray 26)).heap.size = w.heap.size + 1 := by simp
  rw [s1] at b1
  obtain ⟨W0, hW0⟩ : ∃ W0, (w.alloc (.cells [.int .u8 m.ty, .int .u8 m.code, .int .u32 m.rest, .slice ab m.body.length kb].toArray 26)).alloc (.cells [.int .u8 m'.ty, .int .u8 m'.code, .int .u32 m'.rest, .slice ab' m'.body.length kb'].toArray 26) = W0 := ⟨_, rfl⟩
  rw [hW0] at b0 b1 hb
  have c0 := blk_set b0 3 (.slice au (m.body.take 70000).length ku)
  have c1 := blk_set_other (b' := w.heap.size) b1 (by omega) 3 (.slice au (m.body.take 70000).length ku)
  have on1 : Only w.heap.size W0 (W0.setCell ⟨w.heap.size, 3, none⟩ (.slice au (m.body.take 70000).length ku)) := (Only.refl _ _).set _ _
  have d0 := blk_set_other (b' := w.heap.size + 1) c0 (by omega) 3 (.slice au' (m'.body.take 70000).length ku')
  have d1 := blk_set c1 3 (.slice au' (m'.body.take 70000).length ku')
  have on2 := (Only.refl (w.heap.size + 1) (W0.setCell ⟨w.heap.size, 3, none⟩ (.slice au (m.body.take 70000).length ku))).set 3 (.slice au' (m'.body.take 70000).length ku')
  have hb1 := ((hb.trans (on1.below (Nat.le_refl _))).trans (on2.below (by omega))).drew
  refine ⟨ab, kb, au, ku, ab', kb', au', ku', W0, _, rfl, rfl, hW0, rfl, blk_cell (j := 3) b0 rfl, blk_cell (j := 3) b1 rfl, blk_open b0 3, blk_open b1 3, blk_cell (j := 3) c1 rfl, blk_open c1 3, hcut, hcut', ⟨⟨_, rfl, (hu.on hb1).bytes⟩, ft, fc, fr⟩, ⟨⟨_, rfl, (hu'.on hb1).bytes⟩, ft', fc', fr'⟩, hb1, fun W hW => ?_, fun W hW => ?_⟩
  · exact agg_load Try.isAgg26 Try.sizeOf26 rfl (CellsAt.of_blk (blk_on (blk_on d0 (Below.refl _ _).drew) hW))
  · exact agg_load Try.isAgg26 Try.sizeOf26 rfl (CellsAt.of_blk (blk_on (blk_on d1 (Below.refl _ _).drew) hW))

set_option maxHeartbeats 8000000 in
set_option maxRecDepth 100000 in
theorem icmpKinds_walk (c c' : List Value) (m0 m0' : Msg) (id : Int) (hid : 0 ≤ id ∧ id ≤ 65535) (w : World) (h : MsgA w c m0) (h' : MsgA w c' m0') :
    Calls Try.prog 5 #[.agg c.toArray, .agg c'.toArray, .int .u16 id] w fun e w' => e = .returned (.bool true) ∧ Below w.heap.size w w' := by
  obtain ⟨ab, kb, au, ku, ab', kb', au', ku', W0, W1, hX⟩ := box2 w c c' m0 m0' h h'
  obtain ⟨hcc, hcc', hW0, hW1, k0, k1, f0, f1, kd, fd, hcut, hcut', hmsg, hmsg', hbel, lM, lN⟩ := hX
  subst hcc hcc'
  clear h h'
  have HCUT : Hid (∀ W, Calls Try.prog 9 #[.slice ab m0.body.length kb] W (fun e w' => ∃ v, e = .returned v ∧ (v = .slice au (m0.body.take 70000).length ku ∧ w' = W))) := fun W => (hcut W).mono (fun e w' k => ⟨_, k.1, rfl, k.2⟩)
  have HCUT' : Hid (∀ W, Calls Try.prog 9 #[.slice ab' m0'.body.length kb'] W (fun e w' => ∃ v, e = .returned v ∧ (v = .slice au' (m0'.body.take 70000).length ku' ∧ w' = W))) := fun W => (hcut' W).mono (fun e w' k => ⟨_, k.1, rfl, k.2⟩)
  have HB : Hid _ := hbel
  have HLM : Hid _ := lM
  have HLN : Hid _ := lN
  have HM : Hid _ := hmsg
  have HM' : Hid _ := hmsg'
  have WI : Hid (∀ W, Below W1.heap.size W1 W → Calls Try.prog 20 #[.agg [.int .u8 m0.ty, .int .u8 m0.code, .int .u32 m0.rest, .slice au (m0.body.take 70000).length ku].toArray, .int .u16 id] W fun e w' => ∃ c', e = .returned (.agg c'.toArray) ∧ MsgN W w' c' (withI (cutM m0) id) ∧ Below W.heap.size W w') := fun W hW => WithIdent_calls _ _ id hid W (hmsg.on hW)
  have RWI : Hid (∀ W, Below W1.heap.size W1 W → Calls Try.prog 27 #[.agg [.int .u8 m0.ty, .int .u8 m0.code, .int .u32 m0.rest, .slice au (m0.body.take 70000).length ku].toArray, .int .u16 id] W fun e w' => ∃ q, e = .returned q ∧ (∃ c', q = .agg c'.toArray ∧ MsgC w' c' (withI (cutM m0) id) ∧ Below W.heap.size W w')) := fun W hW => (RWithIdent_calls _ _ id hid W (hmsg.on hW)).mono (fun e w' k => by
    obtain ⟨c', k1, k2, k3⟩ := k
    exact ⟨_, k1, c', rfl, k2.1, k3⟩)
  have hidr : Hid ((withI (cutM m0) id).rest / 65536 = id) := by
    have : (withI (cutM m0) id).rest / 65536 = id := by
      show (id * 65536 + m0.rest % 65536) / 65536 = id
      omega
    exact this
  have hx0 : Below W1.heap.size W1 W1 := Below.refl _ _
  clear hcut hcut' hbel lM lN hmsg hmsg'
  generalize hbl : (m0.body.take 70000).length = bl at *
  generalize hbl' : (m0'.body.take 70000).length = bl' at *
  generalize cutM m0 = m at *
  generalize cutM m0' = m' at *
  clear hbl hbl'
  generalize m0.body.length = bl0 at *
  generalize m0.ty = ty at *
  generalize m0.code = code at *
  generalize m0.rest = rest at *
  generalize m0'.body.length = bl0' at *
  generalize m0'.ty = ty' at *
  generalize m0'.code = code' at *
  generalize m0'.rest = rest' at *
  go_enter Try.func5, Try.ntmps5
  go_wp2_with fail
  refine region_mid2 (fun a a' w' => a' = ((((((((a.put (some 8) (.pointer (some ⟨w.heap.size, 3, none⟩))).put (some 9) (.slice ab bl0 kb)).put (some 10) (.slice au bl ku)).put (some 11) (.pointer (some ⟨w.heap.size + 1, 3, none⟩))).put (some 12) (.slice ab' bl0' kb')).put (some 13) (.slice au' bl' ku')).put (some 14) (.pointer (some ⟨w.heap.size, 3, none⟩))).put (some 15) (.pointer (some ⟨w.heap.size + 1, 3, none⟩))) ∧ w' = W1) ?_ ?_
  · go_region_law (first
      | (refine step_callF rfl 9 #[.tmp 9] _ rfl _ (by kernel_rfl) (HCUT.out _) ?_; rintro v3 w3 ⟨rfl, rfl⟩)
      | (refine step_callF rfl 9 #[.tmp 12] _ rfl _ (by kernel_rfl) (HCUT'.out _) ?_; rintro v4 w4 ⟨rfl, rfl⟩))
    all_goals first | exact ⟨rfl, rfl⟩ | exact ⟨rfl, hW1⟩
  rintro _ wq ⟨rfl, hwq⟩
  obtain rfl : W1 = wq := hwq.symm
  clear hwq
  simp only [Act.put, List.setIfInBounds_toArray, List.set_cons_zero, List.set_cons_succ]
  clear k0 k1 f0 f1 kd fd HCUT HCUT'
  go_wp2_with first
    | ((with_reducible show wpList _ _ _ _ _ _); refine arm_load rfl (.tmp 3) 26 rfl rfl (HLM.out _ hx0) ?_)
  refine Calls.mono (WI.out _ hx0) ?_
  rintro _ w1 ⟨d, rfl, ⟨hd, _⟩, hb1⟩
  obtain ⟨w2, hst2, b2, hb2⟩ := box_new Try.sizeOf26 w1 [.int .u8 0, .int .u8 0, .int .u32 0, .slice none 0 0] rfl d hd.len hd.one
  have hx1 := hx0.trans (hb1.mono hx0.size)
  have hx2 := hx1.trans (hb2.mono hx1.size)
  have HST2 : Hid _ := hst2
  have hm := HM.out.on hx2
  have hm' := HM'.out.on hx2
  have hdd := hd.on hb2
  obtain ⟨cM, hcM⟩ : ∃ cM : List Value, [.int .u8 ty, .int .u8 code, .int .u32 rest, .slice au bl ku] = cM := ⟨_, rfl⟩
  obtain ⟨cN, hcN⟩ : ∃ cN : List Value, [.int .u8 ty', .int .u8 code', .int .u32 rest', .slice au' bl' ku'] = cN := ⟨_, rfl⟩
  rw [hcM] at hm
  rw [hcN] at hm'
  have LM : Hid (∀ W, Below w2.heap.size w2 W → (Instr.loadAt 26 (.pointer (some ⟨w.heap.size, 0, none⟩))).run Try.prog W = .ok (.agg cM.toArray) W) := fun W hW => by rw [← hcM]; exact HLM.out W (hx2.trans (hW.mono hx2.size))
  have LN : Hid (∀ W, Below w2.heap.size w2 W → (Instr.loadAt 26 (.pointer (some ⟨w.heap.size + 1, 0, none⟩))).run Try.prog W = .ok (.agg cN.toArray) W) := fun W hW => by rw [← hcN]; exact HLN.out W (hx2.trans (hW.mono hx2.size))
  have LD : Hid (∀ W, Below w2.heap.size w2 W → (Instr.loadAt 26 (.pointer (some ⟨w1.heap.size, 0, none⟩))).run Try.prog W = .ok (.agg d.toArray) W) := fun W hW => agg_load Try.isAgg26 Try.sizeOf26 hd.len (CellsAt.of_blk (blk_on b2 hW))
  have Q1 : Hid (∀ W, Below w2.heap.size w2 W → Calls Try.prog 21 #[.agg cM.toArray] W fun e w' => ∃ v, e = .returned v ∧ (v = .int .i64 (k4 m.ty m.code) ∧ Below W.heap.size W w')) := fun W hW => (Kind4_calls W (hm.on hW)).mono (fun e w' k => ⟨_, k.1, rfl, k.2⟩)
  have Q2 : Hid (∀ W, Below w2.heap.size w2 W → Calls Try.prog 22 #[.agg cM.toArray] W fun e w' => ∃ v, e = .returned v ∧ (v = .int .i64 (k4 m.ty m.code) ∧ Below W.heap.size W w')) := fun W hW => (RKind4_calls W (hm.on hW)).mono (fun e w' k => ⟨_, k.1, rfl, k.2⟩)
  have Q3 : Hid (∀ W, Below w2.heap.size w2 W → Calls Try.prog 23 #[.agg cM.toArray] W fun e w' => ∃ v, e = .returned v ∧ (v = .int .i64 (k6 m.ty) ∧ Below W.heap.size W w')) := fun W hW => (Kind6_calls W (hm.on hW)).mono (fun e w' k => ⟨_, k.1, rfl, k.2⟩)
  have Q4 : Hid (∀ W, Below w2.heap.size w2 W → Calls Try.prog 24 #[.agg cM.toArray] W fun e w' => ∃ v, e = .returned v ∧ (v = .int .i64 (k6 m.ty) ∧ Below W.heap.size W w')) := fun W hW => (RKind6_calls W (hm.on hW)).mono (fun e w' k => ⟨_, k.1, rfl, k.2⟩)
  have Q5 : Hid (∀ W, Below w2.heap.size w2 W → Calls Try.prog 25 #[.agg cM.toArray] W fun e w' => ∃ v, e = .returned v ∧ (v = .int .u16 (m.rest / 65536) ∧ Below W.heap.size W w')) := fun W hW => (Ident_calls W (hm.on hW)).mono (fun e w' k => ⟨_, k.1, rfl, k.2⟩)
  have Q6 : Hid (∀ W, Below w2.heap.size w2 W → Calls Try.prog 26 #[.agg cM.toArray] W fun e w' => ∃ v, e = .returned v ∧ (v = .int .u16 (m.rest / 65536) ∧ Below W.heap.size W w')) := fun W hW => (RIdent_calls W (hm.on hW)).mono (fun e w' k => ⟨_, k.1, rfl, k.2⟩)
  have Q7 : Hid (∀ W, Below w2.heap.size w2 W → Calls Try.prog 27 #[.agg cM.toArray, .int .u16 id] W fun e w' => ∃ q, e = .returned q ∧ (∃ c' : List Value, q = .agg c'.toArray ∧ MsgC w' c' (withI m id) ∧ Below W.heap.size W w')) := fun W hW => by rw [← hcM]; exact RWI.out W (hx2.trans (hW.mono hx2.size))
  have Q8 : Hid (∀ W c', Below w2.heap.size w2 W → MsgC W c' (withI m id) → Calls Try.prog 19 #[.agg d.toArray, .agg c'.toArray] W fun e w' => ∃ v, e = .returned v ∧ (v = .bool true ∧ Below W.heap.size W w')) := fun W c' hW hc' => (RSame_calls W (hdd.on hW) hc').mono (fun e w' k => ⟨_, k.1, by rw [sameM_self], k.2⟩)
  have Q9 : Hid (∀ W, Below w2.heap.size w2 W → Calls Try.prog 25 #[.agg d.toArray] W fun e w' => ∃ v, e = .returned v ∧ (v = .int .u16 id ∧ Below W.heap.size W w')) := fun W hW => (Ident_calls W (hdd.on hW)).mono (fun e w' k => ⟨_, k.1, by rw [hidr.out], k.2⟩)
  have QA : Hid (∀ W, Below w2.heap.size w2 W → Calls Try.prog 28 #[.agg cM.toArray, .agg cN.toArray] W fun e w' => ∃ v, e = .returned v ∧ (v = .bool (sameM m m') ∧ Below W.heap.size W w')) := fun W hW => (Same_calls W (hm.on hW) (hm'.on hW)).mono (fun e w' k => ⟨_, k.1, rfl, k.2⟩)
  have QB : Hid (∀ W, Below w2.heap.size w2 W → Calls Try.prog 19 #[.agg cM.toArray, .agg cN.toArray] W fun e w' => ∃ v, e = .returned v ∧ (v = .bool (sameM m m') ∧ Below W.heap.size W w')) := fun W hW => (RSame_calls W (hm.on hW) (hm'.on hW)).mono (fun e w' k => ⟨_, k.1, rfl, k.2⟩)
  have QC : Hid (∀ W, Below w2.heap.size w2 W → Calls Try.prog 28 #[.agg cM.toArray, .agg cM.toArray] W fun e w' => ∃ v, e = .returned v ∧ (v = .bool true ∧ Below W.heap.size W w')) := fun W hW => (Same_calls W (hm.on hW) (hm.on hW)).mono (fun e w' k => ⟨_, k.1, by rw [sameM_self], k.2⟩)
  have QD : Hid (∀ W, Calls Try.prog 14 #[] W fun e w' => ∃ v, e = .returned v ∧ (v = .bool true ∧ Below W.heap.size W w')) := fun W => (alive_calls W).mono (fun e w' k => ⟨_, k.1, rfl, k.2⟩)
  have HF : Hid (Below w.heap.size w w2) := HB.out.trans (hx2.mono HB.out.size)
  clear hm hm' hdd hcM hcN hd b2 hb2 hb1 hst2 hx1 hx2 hx0 HLM HLN HM HM' WI RWI hidr
  generalize k4 m.ty m.code = q4 at *
  generalize k6 m.ty = q6 at *
  generalize m.rest / 65536 = qi at *
  generalize sameM m m' = qs at *
  have e4 : (q4 == q4) = true := by simp
  have e6 : (q6 == q6) = true := by simp
  have ei : (qi == qi) = true := by simp
  have ed : (id == id) = true := by simp
  have es : (qs == qs) = true := by simp
  go_wp2_with first
    | ((with_reducible show wpList _ _ _ _ _ _); refine arm_store rfl (.tmp 7) (.tmp 18) 26 rfl rfl rfl HST2.out ?_)
  have hd0 : Below w2.heap.size w2 w2.drew := (Below.refl _ w2).drew
  refine wp_region_held (S := fun W => Below w2.heap.size w2 W) (by kernel_rfl) ?_
  show wpAnyH _ _ _ _ _ 50 (Array.replicate 50 false) _ w2.drew
  refine take_one (i := 0) (d := some 19) (v := .agg cM.toArray) rfl rfl rfl (by kernel_rfl) (by kernel_rfl) (by kernel_rfl) (fun _ _ d _ _ h => by cases d <;> exact h) (fun W hS => ex_loadv (.tmp 3) 26 rfl rfl (LM.out W hS)) hd0 ?_
  simp only [Act.put, List.setIfInBounds_toArray, List.set_cons_zero, List.set_cons_succ]
  refine take_one (i := 2) (d := some 21) (v := .agg cM.toArray) rfl rfl rfl (by kernel_rfl) (by kernel_rfl) (by kernel_rfl) (fun _ _ d _ _ h => by cases d <;> exact h) (fun W hS => ex_loadv (.tmp 3) 26 rfl rfl (LM.out W hS)) hd0 ?_
  simp only [Act.put, List.setIfInBounds_toArray, List.set_cons_zero, List.set_cons_succ]
  refine all_one (i := 1) (by kernel_rfl) rfl rfl ?_
  refine wp_call (d := some 20) 21 _ rfl (by kernel_rfl) (Q1.out _ hd0) ?_
  rintro _ y1 ⟨rfl, hb1⟩
  have hy1 := hd0.trans (hb1.mono hd0.size)
  refine ⟨hy1, ?_⟩
  simp only [Act.put, List.setIfInBounds_toArray, List.set_cons_zero, List.set_cons_succ]
  refine all_one (i := 3) (by kernel_rfl) rfl rfl ?_
  refine wp_call (d := some 22) 22 _ rfl (by kernel_rfl) (Q2.out _ hy1) ?_
  rintro _ y2 ⟨rfl, hb2⟩
  have hy2 := hy1.trans (hb2.mono hy1.size)
  refine ⟨hy2, ?_⟩
  simp only [Act.put, List.setIfInBounds_toArray, List.set_cons_zero, List.set_cons_succ]
  refine take_one (i := 4) (d := some 23) (v := .bool true) rfl rfl rfl (by kernel_rfl) (by kernel_rfl) (by kernel_rfl) (fun _ _ d _ _ h => by cases d <;> exact h) (fun W hS => (by rw [ex_eqlK 20 22 rfl rfl rfl, e4])) hy2 ?_
  simp only [Act.put, List.setIfInBounds_toArray, List.set_cons_zero, List.set_cons_succ]
  refine take_one (i := 5) (d := some 24) (v := .bool true) rfl rfl rfl (by kernel_rfl) (by kernel_rfl) (by kernel_rfl) (fun _ _ d _ _ h => by cases d <;> exact h) (fun W hS => ex_move (.tmp 23) rfl rfl) hy2 ?_
  simp only [Act.put, List.setIfInBounds_toArray, List.set_cons_zero, List.set_cons_succ]
  refine take_w (i := 6) (d := some 25) (v := .agg cM.toArray) rfl (by kernel_rfl) rfl (by kernel_rfl) (by kernel_rfl) (by kernel_rfl) (fun _ _ d _ _ h => by cases d <;> exact h) (fun W hS => ex_loadv (.tmp 3) 26 rfl rfl (LM.out W hS)) hy2 ?_
  simp only [Act.put, List.setIfInBounds_toArray, List.set_cons_zero, List.set_cons_succ]
  refine take_w (i := 8) (d := some 27) (v := .agg cM.toArray) rfl (by kernel_rfl) rfl (by kernel_rfl) (by kernel_rfl) (by kernel_rfl) (fun _ _ d _ _ h => by cases d <;> exact h) (fun W hS => ex_loadv (.tmp 3) 26 rfl rfl (LM.out W hS)) hy2 ?_
  simp only [Act.put, List.setIfInBounds_toArray, List.set_cons_zero, List.set_cons_succ]
  refine all_w (i := 7) (by kernel_rfl) rfl (by kernel_rfl) ?_
  refine wp_call (d := some 26) 23 _ rfl (by kernel_rfl) (Q3.out _ hy2) ?_
  rintro _ y3 ⟨rfl, hb3⟩
  have hy3 := hy2.trans (hb3.mono hy2.size)
  refine ⟨hy3, ?_⟩
  simp only [Act.put, List.setIfInBounds_toArray, List.set_cons_zero, List.set_cons_succ]
  refine all_w (i := 9) (by kernel_rfl) rfl (by kernel_rfl) ?_
  refine wp_call (d := some 28) 24 _ rfl (by kernel_rfl) (Q4.out _ hy3) ?_
  rintro _ y4 ⟨rfl, hb4⟩
  have hy4 := hy3.trans (hb4.mono hy3.size)
  refine ⟨hy4, ?_⟩
  simp only [Act.put, List.setIfInBounds_toArray, List.set_cons_zero, List.set_cons_succ]
  refine take_w (i := 10) (d := some 29) (v := .bool true) rfl (by kernel_rfl) rfl (by kernel_rfl) (by kernel_rfl) (by kernel_rfl) (fun _ _ d _ _ h => by cases d <;> exact h) (fun W hS => (by rw [ex_eqlK 26 28 rfl rfl rfl, e6])) hy4 ?_
  simp only [Act.put, List.setIfInBounds_toArray, List.set_cons_zero, List.set_cons_succ]
  refine take_one (i := 11) (d := some 30) (v := .bool true) rfl rfl rfl (by kernel_rfl) (by kernel_rfl) (by kernel_rfl) (fun _ _ d _ _ h => by cases d <;> exact h) (fun W hS => ex_pick (.tmp 24) (.tmp 29) (.const (.bool false)) rfl rfl rfl) hy4 ?_
  simp only [Act.put, List.setIfInBounds_toArray, List.set_cons_zero, List.set_cons_succ]
  refine take_one (i := 12) (d := some 31) (v := .bool true) rfl rfl rfl (by kernel_rfl) (by kernel_rfl) (by kernel_rfl) (fun _ _ d _ _ h => by cases d <;> exact h) (fun W hS => ex_move (.tmp 30) rfl rfl) hy4 ?_
  simp only [Act.put, List.setIfInBounds_toArray, List.set_cons_zero, List.set_cons_succ]
  refine take_w (i := 13) (d := some 32) (v := .agg cM.toArray) rfl (by kernel_rfl) rfl (by kernel_rfl) (by kernel_rfl) (by kernel_rfl) (fun _ _ d _ _ h => by cases d <;> exact h) (fun W hS => ex_loadv (.tmp 3) 26 rfl rfl (LM.out W hS)) hy4 ?_
  simp only [Act.put, List.setIfInBounds_toArray, List.set_cons_zero, List.set_cons_succ]
  refine take_w (i := 15) (d := some 34) (v := .agg cM.toArray) rfl (by kernel_rfl) rfl (by kernel_rfl) (by kernel_rfl) (by kernel_rfl) (fun _ _ d _ _ h => by cases d <;> exact h) (fun W hS => ex_loadv (.tmp 3) 26 rfl rfl (LM.out W hS)) hy4 ?_
  simp only [Act.put, List.setIfInBounds_toArray, List.set_cons_zero, List.set_cons_succ]
  refine all_w (i := 14) (by kernel_rfl) rfl (by kernel_rfl) ?_
  refine wp_call (d := some 33) 25 _ rfl (by kernel_rfl) (Q5.out _ hy4) ?_
  rintro _ y5 ⟨rfl, hb5⟩
  have hy5 := hy4.trans (hb5.mono hy4.size)
  refine ⟨hy5, ?_⟩
  simp only [Act.put, List.setIfInBounds_toArray, List.set_cons_zero, List.set_cons_succ]
  refine all_w (i := 16) (by kernel_rfl) rfl (by kernel_rfl) ?_
  refine wp_call (d := some 35) 26 _ rfl (by kernel_rfl) (Q6.out _ hy5) ?_
  rintro _ y6 ⟨rfl, hb6⟩
  have hy6 := hy5.trans (hb6.mono hy5.size)
  refine ⟨hy6, ?_⟩
  simp only [Act.put, List.setIfInBounds_toArray, List.set_cons_zero, List.set_cons_succ]
  refine take_w (i := 17) (d := some 36) (v := .bool true) rfl (by kernel_rfl) rfl (by kernel_rfl) (by kernel_rfl) (by kernel_rfl) (fun _ _ d _ _ h => by cases d <;> exact h) (fun W hS => (by rw [ex_eqlW 33 35 rfl rfl rfl, ei])) hy6 ?_
  simp only [Act.put, List.setIfInBounds_toArray, List.set_cons_zero, List.set_cons_succ]
  refine take_one (i := 18) (d := some 37) (v := .bool true) rfl rfl rfl (by kernel_rfl) (by kernel_rfl) (by kernel_rfl) (fun _ _ d _ _ h => by cases d <;> exact h) (fun W hS => ex_pick (.tmp 31) (.tmp 36) (.const (.bool false)) rfl rfl rfl) hy6 ?_
  simp only [Act.put, List.setIfInBounds_toArray, List.set_cons_zero, List.set_cons_succ]
  refine take_one (i := 19) (d := some 38) (v := .bool true) rfl rfl rfl (by kernel_rfl) (by kernel_rfl) (by kernel_rfl) (fun _ _ d _ _ h => by cases d <;> exact h) (fun W hS => ex_move (.tmp 37) rfl rfl) hy6 ?_
  simp only [Act.put, List.setIfInBounds_toArray, List.set_cons_zero, List.set_cons_succ]
  refine take_w (i := 20) (d := some 39) (v := .agg d.toArray) rfl (by kernel_rfl) rfl (by kernel_rfl) (by kernel_rfl) (by kernel_rfl) (fun _ _ d _ _ h => by cases d <;> exact h) (fun W hS => ex_loadv (.tmp 7) 26 rfl rfl (LD.out W hS)) hy6 ?_
  simp only [Act.put, List.setIfInBounds_toArray, List.set_cons_zero, List.set_cons_succ]
  refine take_w (i := 21) (d := some 40) (v := .agg cM.toArray) rfl (by kernel_rfl) rfl (by kernel_rfl) (by kernel_rfl) (by kernel_rfl) (fun _ _ d _ _ h => by cases d <;> exact h) (fun W hS => ex_loadv (.tmp 3) 26 rfl rfl (LM.out W hS)) hy6 ?_
  simp only [Act.put, List.setIfInBounds_toArray, List.set_cons_zero, List.set_cons_succ]
  refine take_w (i := 22) (d := some 41) (v := .int .u16 id) rfl (by kernel_rfl) rfl (by kernel_rfl) (by kernel_rfl) (by kernel_rfl) (fun _ _ d _ _ h => by cases d <;> exact h) (fun W hS => ex_move (.tmp 2) rfl rfl) hy6 ?_
  simp only [Act.put, List.setIfInBounds_toArray, List.set_cons_zero, List.set_cons_succ]
  refine all_w (i := 23) (by kernel_rfl) rfl (by kernel_rfl) ?_
  refine wp_call (d := some 42) 27 _ rfl (by kernel_rfl) (Q7.out _ hy6) ?_
  rintro _ y7 ⟨c9, rfl, hc9, hb7⟩
  have hy7 := hy6.trans (hb7.mono hy6.size)
  refine ⟨hy7, ?_⟩
  simp only [Act.put, List.setIfInBounds_toArray, List.set_cons_zero, List.set_cons_succ]
  refine all_w (i := 24) (by kernel_rfl) rfl (by kernel_rfl) ?_
  refine wp_call (d := some 43) 19 _ rfl (by kernel_rfl) (Q8.out _ _ hy7 hc9) ?_
  rintro _ y8 ⟨rfl, hb8⟩
  have hy8 := hy7.trans (hb8.mono hy7.size)
  refine ⟨hy8, ?_⟩
  simp only [Act.put, List.setIfInBounds_toArray, List.set_cons_zero, List.set_cons_succ]
  refine take_one (i := 25) (d := some 44) (v := .bool true) rfl rfl rfl (by kernel_rfl) (by kernel_rfl) (by kernel_rfl) (fun _ _ d _ _ h => by cases d <;> exact h) (fun W hS => ex_pick (.tmp 38) (.tmp 43) (.const (.bool false)) rfl rfl rfl) hy8 ?_
  simp only [Act.put, List.setIfInBounds_toArray, List.set_cons_zero, List.set_cons_succ]
  refine take_one (i := 26) (d := some 45) (v := .bool true) rfl rfl rfl (by kernel_rfl) (by kernel_rfl) (by kernel_rfl) (fun _ _ d _ _ h => by cases d <;> exact h) (fun W hS => ex_move (.tmp 44) rfl rfl) hy8 ?_
  simp only [Act.put, List.setIfInBounds_toArray, List.set_cons_zero, List.set_cons_succ]
  refine take_w (i := 27) (d := some 46) (v := .agg d.toArray) rfl (by kernel_rfl) rfl (by kernel_rfl) (by kernel_rfl) (by kernel_rfl) (fun _ _ d _ _ h => by cases d <;> exact h) (fun W hS => ex_loadv (.tmp 7) 26 rfl rfl (LD.out W hS)) hy8 ?_
  simp only [Act.put, List.setIfInBounds_toArray, List.set_cons_zero, List.set_cons_succ]
  refine take_w (i := 29) (d := some 48) (v := .int .u16 id) rfl (by kernel_rfl) rfl (by kernel_rfl) (by kernel_rfl) (by kernel_rfl) (fun _ _ d _ _ h => by cases d <;> exact h) (fun W hS => ex_move (.tmp 2) rfl rfl) hy8 ?_
  simp only [Act.put, List.setIfInBounds_toArray, List.set_cons_zero, List.set_cons_succ]
  refine all_w (i := 28) (by kernel_rfl) rfl (by kernel_rfl) ?_
  refine wp_call (d := some 47) 25 _ rfl (by kernel_rfl) (Q9.out _ hy8) ?_
  rintro _ y9 ⟨rfl, hb9⟩
  have hy9 := hy8.trans (hb9.mono hy8.size)
  refine ⟨hy9, ?_⟩
  simp only [Act.put, List.setIfInBounds_toArray, List.set_cons_zero, List.set_cons_succ]
  refine take_w (i := 30) (d := some 49) (v := .bool true) rfl (by kernel_rfl) rfl (by kernel_rfl) (by kernel_rfl) (by kernel_rfl) (fun _ _ d _ _ h => by cases d <;> exact h) (fun W hS => (by rw [ex_eqlW 47 48 rfl rfl rfl, ed])) hy9 ?_
  simp only [Act.put, List.setIfInBounds_toArray, List.set_cons_zero, List.set_cons_succ]
  refine take_one (i := 31) (d := some 50) (v := .bool true) rfl rfl rfl (by kernel_rfl) (by kernel_rfl) (by kernel_rfl) (fun _ _ d _ _ h => by cases d <;> exact h) (fun W hS => ex_pick (.tmp 45) (.tmp 49) (.const (.bool false)) rfl rfl rfl) hy9 ?_
  simp only [Act.put, List.setIfInBounds_toArray, List.set_cons_zero, List.set_cons_succ]
  refine take_one (i := 32) (d := some 51) (v := .bool true) rfl rfl rfl (by kernel_rfl) (by kernel_rfl) (by kernel_rfl) (fun _ _ d _ _ h => by cases d <;> exact h) (fun W hS => ex_move (.tmp 50) rfl rfl) hy9 ?_
  simp only [Act.put, List.setIfInBounds_toArray, List.set_cons_zero, List.set_cons_succ]
  refine take_w (i := 33) (d := some 52) (v := .agg cM.toArray) rfl (by kernel_rfl) rfl (by kernel_rfl) (by kernel_rfl) (by kernel_rfl) (fun _ _ d _ _ h => by cases d <;> exact h) (fun W hS => ex_loadv (.tmp 3) 26 rfl rfl (LM.out W hS)) hy9 ?_
  simp only [Act.put, List.setIfInBounds_toArray, List.set_cons_zero, List.set_cons_succ]
  refine take_w (i := 34) (d := some 53) (v := .agg cN.toArray) rfl (by kernel_rfl) rfl (by kernel_rfl) (by kernel_rfl) (by kernel_rfl) (fun _ _ d _ _ h => by cases d <;> exact h) (fun W hS => ex_loadv (.tmp 4) 26 rfl rfl (LN.out W hS)) hy9 ?_
  simp only [Act.put, List.setIfInBounds_toArray, List.set_cons_zero, List.set_cons_succ]
  refine take_w (i := 36) (d := some 55) (v := .agg cM.toArray) rfl (by kernel_rfl) rfl (by kernel_rfl) (by kernel_rfl) (by kernel_rfl) (fun _ _ d _ _ h => by cases d <;> exact h) (fun W hS => ex_loadv (.tmp 3) 26 rfl rfl (LM.out W hS)) hy9 ?_
  simp only [Act.put, List.setIfInBounds_toArray, List.set_cons_zero, List.set_cons_succ]
  refine take_w (i := 37) (d := some 56) (v := .agg cN.toArray) rfl (by kernel_rfl) rfl (by kernel_rfl) (by kernel_rfl) (by kernel_rfl) (fun _ _ d _ _ h => by cases d <;> exact h) (fun W hS => ex_loadv (.tmp 4) 26 rfl rfl (LN.out W hS)) hy9 ?_
  simp only [Act.put, List.setIfInBounds_toArray, List.set_cons_zero, List.set_cons_succ]
  refine all_w (i := 35) (by kernel_rfl) rfl (by kernel_rfl) ?_
  refine wp_call (d := some 54) 28 _ rfl (by kernel_rfl) (QA.out _ hy9) ?_
  rintro _ y10 ⟨rfl, hb10⟩
  have hy10 := hy9.trans (hb10.mono hy9.size)
  refine ⟨hy10, ?_⟩
  simp only [Act.put, List.setIfInBounds_toArray, List.set_cons_zero, List.set_cons_succ]
  refine all_w (i := 38) (by kernel_rfl) rfl (by kernel_rfl) ?_
  refine wp_call (d := some 57) 19 _ rfl (by kernel_rfl) (QB.out _ hy10) ?_
  rintro _ y11 ⟨rfl, hb11⟩
  have hy11 := hy10.trans (hb11.mono hy10.size)
  refine ⟨hy11, ?_⟩
  simp only [Act.put, List.setIfInBounds_toArray, List.set_cons_zero, List.set_cons_succ]
  refine take_w (i := 39) (d := some 58) (v := .bool true) rfl (by kernel_rfl) rfl (by kernel_rfl) (by kernel_rfl) (by kernel_rfl) (fun _ _ d _ _ h => by cases d <;> exact h) (fun W hS => (by rw [ex_eqlB 54 57 rfl rfl rfl, es])) hy11 ?_
  simp only [Act.put, List.setIfInBounds_toArray, List.set_cons_zero, List.set_cons_succ]
  refine take_one (i := 40) (d := some 59) (v := .bool true) rfl rfl rfl (by kernel_rfl) (by kernel_rfl) (by kernel_rfl) (fun _ _ d _ _ h => by cases d <;> exact h) (fun W hS => ex_pick (.tmp 51) (.tmp 58) (.const (.bool false)) rfl rfl rfl) hy11 ?_
  simp only [Act.put, List.setIfInBounds_toArray, List.set_cons_zero, List.set_cons_succ]
  refine take_one (i := 41) (d := some 60) (v := .bool true) rfl rfl rfl (by kernel_rfl) (by kernel_rfl) (by kernel_rfl) (fun _ _ d _ _ h => by cases d <;> exact h) (fun W hS => ex_move (.tmp 59) rfl rfl) hy11 ?_
  simp only [Act.put, List.setIfInBounds_toArray, List.set_cons_zero, List.set_cons_succ]
  refine take_w (i := 42) (d := some 61) (v := .agg cM.toArray) rfl (by kernel_rfl) rfl (by kernel_rfl) (by kernel_rfl) (by kernel_rfl) (fun _ _ d _ _ h => by cases d <;> exact h) (fun W hS => ex_loadv (.tmp 3) 26 rfl rfl (LM.out W hS)) hy11 ?_
  simp only [Act.put, List.setIfInBounds_toArray, List.set_cons_zero, List.set_cons_succ]
  refine take_w (i := 43) (d := some 62) (v := .agg cM.toArray) rfl (by kernel_rfl) rfl (by kernel_rfl) (by kernel_rfl) (by kernel_rfl) (fun _ _ d _ _ h => by cases d <;> exact h) (fun W hS => ex_loadv (.tmp 3) 26 rfl rfl (LM.out W hS)) hy11 ?_
  simp only [Act.put, List.setIfInBounds_toArray, List.set_cons_zero, List.set_cons_succ]
  refine all_w (i := 44) (by kernel_rfl) rfl (by kernel_rfl) ?_
  refine wp_call (d := some 63) 28 _ rfl (by kernel_rfl) (QC.out _ hy11) ?_
  rintro _ y12 ⟨rfl, hb12⟩
  have hy12 := hy11.trans (hb12.mono hy11.size)
  refine ⟨hy12, ?_⟩
  simp only [Act.put, List.setIfInBounds_toArray, List.set_cons_zero, List.set_cons_succ]
  refine take_one (i := 45) (d := some 64) (v := .bool true) rfl rfl rfl (by kernel_rfl) (by kernel_rfl) (by kernel_rfl) (fun _ _ d _ _ h => by cases d <;> exact h) (fun W hS => ex_pick (.tmp 60) (.tmp 63) (.const (.bool false)) rfl rfl rfl) hy12 ?_
  simp only [Act.put, List.setIfInBounds_toArray, List.set_cons_zero, List.set_cons_succ]
  refine take_one (i := 46) (d := some 65) (v := .bool true) rfl rfl rfl (by kernel_rfl) (by kernel_rfl) (by kernel_rfl) (fun _ _ d _ _ h => by cases d <;> exact h) (fun W hS => ex_move (.tmp 64) rfl rfl) hy12 ?_
  simp only [Act.put, List.setIfInBounds_toArray, List.set_cons_zero, List.set_cons_succ]
  refine all_w (i := 47) (by kernel_rfl) rfl (by kernel_rfl) ?_
  refine wp_call (d := some 66) 14 _ rfl (by kernel_rfl) (QD.out _) ?_
  rintro _ y13 ⟨rfl, hb13⟩
  have hy13 := hy12.trans (hb13.mono hy12.size)
  refine ⟨hy13, ?_⟩
  simp only [Act.put, List.setIfInBounds_toArray, List.set_cons_zero, List.set_cons_succ]
  refine take_one (i := 48) (d := some 67) (v := .bool true) rfl rfl rfl (by kernel_rfl) (by kernel_rfl) (by kernel_rfl) (fun _ _ d _ _ h => by cases d <;> exact h) (fun W hS => ex_pick (.tmp 65) (.tmp 66) (.const (.bool false)) rfl rfl rfl) hy13 ?_
  simp only [Act.put, List.setIfInBounds_toArray, List.set_cons_zero, List.set_cons_succ]
  refine take_one (i := 49) (d := some 6) (v := .bool true) rfl rfl rfl (by kernel_rfl) (by kernel_rfl) (by kernel_rfl) (fun _ _ d _ _ h => by cases d <;> exact h) (fun W hS => ex_assign (.tmp 67) rfl rfl) hy13 ?_
  simp only [Act.put, List.setIfInBounds_toArray, List.set_cons_zero, List.set_cons_succ]
  refine wpAnyH_done (by kernel_rfl) ?_ _
  have HZ : Hid _ := HF.out.trans (hy13.mono HF.out.size)
  go_wp2
  go_ret
  exact ⟨rfl, HZ.out⟩

set_option maxRecDepth 100000 in
theorem icmpKinds_open {H : Type} {enc : TypeId × Value → H} {W : World} {base : Nat} (v0 v1 v2 : Value) {d0 d1 d2 : DataW H} {p0 p1 p2 : List MemPlace}
    (o0 : Value.okWide Try.prog W .any base 26 v0) (h0 : DataW.Trod enc Try.prog W 0 (fun _ => true) true 26 v0 d0 p0) (z0 : ∀ k ∈ d0.weights Try.prog 26, k ≤ reachBytes)
    (o1 : Value.okWide Try.prog W .any base 26 v1) (h1 : DataW.Trod enc Try.prog W 0 (fun _ => true) true 26 v1 d1 p1) (z1 : ∀ k ∈ d1.weights Try.prog 26, k ≤ reachBytes)
    (o2 : Value.okWide Try.prog W .any base 45 v2) (h2 : DataW.Trod enc Try.prog W 0 (fun _ => true) true 45 v2 d2 p2) (z2 : ∀ k ∈ d2.weights Try.prog 45, k ≤ reachBytes) :
    Calls Try.prog 5 #[v0, v1, v2] W fun e w' => e = .returned (.bool true) ∧ Below W.heap.size W w' := by
  obtain ⟨c, m, rfl, hm⟩ := open_msg h0 z0
  obtain ⟨c', m', rfl, hm'⟩ := open_msg h1 z1
  obtain ⟨n, rfl, _, _, wn⟩ := Go.ChangeShapes.open_int Try.underlying45 o2 h2
  have hq := bounds_u16 wn
  exact icmpKinds_walk c c' m m' n (by omega) W hm hm'


end Go.Proofs.Ytljmamogefgiaaa
