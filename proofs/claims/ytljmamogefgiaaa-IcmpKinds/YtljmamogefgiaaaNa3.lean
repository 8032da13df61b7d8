/-
  Write4, Write6 of package icmp.
-/
import Derived.Test.YtljmamogefgiaaaNa2
namespace Go.Proofs.Ytljmamogefgiaaa
open Go Go.RowKit Go.Shelf
set_option linter.unusedVariables false
set_option linter.unusedSimpArgs false

theorem ex_loadv {P : Program} {o : Oper} {a : Act} {W : World} (p : Operand) (t : TypeId) (hop : o.op = Op.load t p) {vp v : Value} (hp : a.eval p = vp) (hrun : (Instr.loadAt t vp).run P W = .ok v W) : (execOp a.eval o).run P W = .ok (.value v) W := by
  simp [execOp, hop, hp, hrun]
theorem ex_extract {P : Program} {o : Oper} {a : Act} {W : World} (p : Operand) (i : Nat) (hop : o.op = Op.extract p i) {vs : Array Value} {v : Value} (hp : a.eval p = .tuple vs) (hv : vs[i]? = some v) : (execOp a.eval o).run P W = .ok (.value v) W := by
  generalize a.eval = ev at *
  simp [execOp, hop, hp, hv, go_sem]
theorem ex_assign {P : Program} {o : Oper} {a : Act} {W : World} (p : Operand) (hop : o.op = Op.assign p) {v : Value} (hp : a.eval p = v) : (execOp a.eval o).run P W = .ok (.value v) W := by
  generalize a.eval = ev at *
  simp [execOp, hop, hp, go_sem]
theorem wp_call {P : Program} {o : Oper} {a : Act} {d : Option Nat} {w : World} {K : Act → World → Prop} {Q : Exit → Act → World → Prop} {R : Value → World → Prop} (f : FuncId) (vs : Array Value) (hd : o.dst = d)
    (hrun : (execOp a.eval o).run P w = .ok (.enter f vs) w) (hc : Calls P f vs w fun e w' => ∃ v, e = .returned v ∧ R v w') (hK : ∀ v w2, R v w2 → K (a.put d v) w2) : o.wp P a w K Q := by
  subst hd
  unfold Oper.wp
  rw [hrun]
  refine hc.mono ?_
  rintro e w' ⟨v, rfl, hr⟩
  exact hK v w' hr

set_option maxHeartbeats 1000000 in
set_option maxRecDepth 100000 in
theorem Write6_walk (A B : List Int) (hA : A.length = 16) (hB : B.length = 16) (fa : Fit A) (fb : Fit B) (c : List Value) (hc : c.length = 4) (w : World) {R : Ending → World → Prop}
    (hR : ∀ e w', R e w' → ∃ x y, e = .returned (.tuple #[x, y]))
    (hw : ∀ W o, Below w.heap.size w W → OverI W o (ph6I A B) → Calls Try.prog 33 #[o, .agg c.toArray] W fun e w' => R e w' ∧ Below W.heap.size W w') :
    Calls Try.prog 12 #[.agg (u8L A).toArray, .agg (u8L B).toArray, .agg c.toArray] w R := by
  obtain ⟨W0, hW0⟩ : ∃ W0, ((w.alloc (.cells (u8L A).toArray 59)).alloc (.cells (u8L B).toArray 59)).alloc (.cells c.toArray 26) = W0 := ⟨_, rfl⟩
  have b0 := blk_new w (.cells (u8L A).toArray 59)
  have b1 := blk_new (w.alloc (.cells (u8L A).toArray 59)) (.cells (u8L B).toArray 59)
  have b2 := blk_new ((w.alloc (.cells (u8L A).toArray 59)).alloc (.cells (u8L B).toArray 59)) (.cells c.toArray 26)
  have b0' := blk_alloc (blk_alloc b0 (.cells (u8L B).toArray 59)) (.cells c.toArray 26)
  have b1' := blk_alloc b1 (.cells c.toArray 26)
  have hb : Below w.heap.size w (((w.alloc (.cells (u8L A).toArray 59)).alloc (.cells (u8L B).toArray 59)).alloc (.cells c.toArray 26)) := (((Below.refl _ w).alloc (Nat.le_refl _) _).alloc (by simp) _).alloc (by simp <;> omega) _
  rw [hW0] at b0' b1' b2 hb
  have s1 : (w.alloc (.cells (u8L A).toArray 59)).heap.size = w.heap.size + 1 := by simp
  have s2 : ((w.alloc (.cells (u8L A).toArray 59)).alloc (.cells (u8L B).toArray 59)).heap.size = w.heap.size + 1 + 1 := by simp
  rw [s1] at b1'
  rw [s2] at b2
  have HA : Hid (∀ W, Below W0.heap.size W0 W → (Instr.loadAt 59 (.pointer (some ⟨w.heap.size, 0, none⟩))).run Try.prog W = .ok (.agg (u8L A).toArray) W) := fun W hS => agg_load Try.isAgg59 Try.sizeOf59 (by simp [u8L, hA]) (CellsAt.of_blk (blk_on b0' hS))
  have HB : Hid (∀ W, Below W0.heap.size W0 W → (Instr.loadAt 59 (.pointer (some ⟨w.heap.size + 1, 0, none⟩))).run Try.prog W = .ok (.agg (u8L B).toArray) W) := fun W hS => agg_load Try.isAgg59 Try.sizeOf59 (by simp [u8L, hB]) (CellsAt.of_blk (blk_on b1' hS))
  have HC : Hid (∀ W, Below W0.heap.size W0 W → (Instr.loadAt 26 (.pointer (some ⟨w.heap.size + 1 + 1, 0, none⟩))).run Try.prog W = .ok (.agg c.toArray) W) := fun W hS => agg_load Try.isAgg26 Try.sizeOf26 hc (CellsAt.of_blk (blk_on b2 hS))
  have HOV : Hid (∀ W, Calls Try.prog 37 #[.agg (u8L A).toArray, .agg (u8L B).toArray] W fun e w' => ∃ v, e = .returned v ∧ (OverI w' v (ph6I A B) ∧ Below W.heap.size W w')) := fun W => over6_calls A B hA hB fa fb W
  have HW : Hid (∀ W o, Below W0.heap.size W0 W → OverI W o (ph6I A B) → Calls Try.prog 33 #[o, .agg c.toArray] W fun e w' => ∃ v, e = .returned v ∧ (R (.returned v) w' ∧ Below W.heap.size W w')) := fun W o hW ho => (hw W o (hb.trans (hW.mono hb.size)) ho).mono (fun e w' hr => by
    obtain ⟨x, y, rfl⟩ := hR e w' hr.1
    exact ⟨_, rfl, hr⟩)
  have HR : Hid _ := hR
  have hAl : (u8L A).length = 16 := by simp [u8L, hA]
  have hBl : (u8L B).length = 16 := by simp [u8L, hB]
  clear b0 b1 b2 b0' b1' hb s1 s2 hw hR fa fb hA hB
  generalize hxA : u8L A = xA at *
  generalize hxB : u8L B = xB at *
  clear hxA hxB
  go_enter Try.func12, Try.ntmps12
  go_wp2_with fail
  refine wp_region_held (S := fun W => Below W0.heap.size W0 W) (by kernel_rfl) ?_
  show wpAnyH _ _ _ _ _ 9 (Array.replicate 9 false) _ _
  refine take_one (i := 0) (d := some 8) (v := .agg xA.toArray) rfl rfl rfl (by kernel_rfl) (by kernel_rfl) (by kernel_rfl) (fun _ _ d _ _ h => by cases d <;> exact h) (fun W hS => ex_loadv (.tmp 3) 59 rfl rfl (HA.out W hS)) ((Below.refl _ _).drew) ?_
  refine take_one (i := 1) (d := some 9) (v := .agg xB.toArray) rfl rfl rfl (by kernel_rfl) (by kernel_rfl) (by kernel_rfl) (fun _ _ d _ _ h => by cases d <;> exact h) (fun W hS => ex_loadv (.tmp 4) 59 rfl rfl (HB.out W hS)) ((Below.refl _ _).drew) ?_
  refine take_one (i := 3) (d := some 11) (v := .agg c.toArray) rfl rfl rfl (by kernel_rfl) (by kernel_rfl) (by kernel_rfl) (fun _ _ d _ _ h => by cases d <;> exact h) (fun W hS => ex_loadv (.tmp 5) 26 rfl rfl (HC.out W hS)) ((Below.refl _ _).drew) ?_
  refine all_one (i := 2) (by kernel_rfl) rfl rfl ?_
  refine wp_call (d := some 10) 37 _ rfl (by kernel_rfl) (HOV.out _) ?_
  rintro o w2 ⟨ho, hb2⟩
  have hb02 := ((Below.refl W0.heap.size W0).drew).trans (hb2.mono (Nat.le_refl _))
  refine ⟨hb02, ?_⟩
  refine all_one (i := 4) (by kernel_rfl) rfl rfl ?_
  refine wp_call (d := some 12) 33 _ rfl (by kernel_rfl) (HW.out _ _ hb02 ho) ?_
  rintro v w3 ⟨hr, hb3⟩
  obtain ⟨x, y, e⟩ := HR.out _ _ hr
  cases e
  have H : Hid (R (.returned (.tuple #[x, y])) w3) := hr
  have hb03 := hb02.trans (hb3.mono hb02.size)
  clear hr ho hb2
  refine ⟨hb03, ?_⟩
  simp only [Act.put, List.setIfInBounds_toArray, List.set_cons_zero, List.set_cons_succ]
  refine take_one (i := 5) (d := some 13) (v := x) rfl rfl rfl (by kernel_rfl) (by kernel_rfl) (by kernel_rfl) (fun _ _ d _ _ h => by cases d <;> exact h) (fun W _ => ex_extract (.tmp 12) 0 rfl rfl rfl) hb03 ?_
  refine take_one (i := 6) (d := some 14) (v := y) rfl rfl rfl (by kernel_rfl) (by kernel_rfl) (by kernel_rfl) (fun _ _ d _ _ h => by cases d <;> exact h) (fun W _ => ex_extract (.tmp 12) 1 rfl rfl rfl) hb03 ?_
  refine take_one (i := 7) (d := some 6) (v := x) rfl rfl rfl (by kernel_rfl) (by kernel_rfl) (by kernel_rfl) (fun _ _ d _ _ h => by cases d <;> exact h) (fun W _ => ex_assign (.tmp 13) rfl rfl) hb03 ?_
  refine take_one (i := 8) (d := some 7) (v := y) rfl rfl rfl (by kernel_rfl) (by kernel_rfl) (by kernel_rfl) (fun _ _ d _ _ h => by cases d <;> exact h) (fun W _ => ex_assign (.tmp 14) rfl rfl) hb03 ?_
  refine wpAnyH_done (by kernel_rfl) ?_ _
  simp only [Act.put, List.setIfInBounds_toArray, List.set_cons_zero, List.set_cons_succ]
  go_wp2
  exact H.out

def icB (ph : Int → List Int) (m : Msg) : List Int := if 8 + m.body.length ≤ 65535 then icL ph m else []
def icE (m : Msg) : Int := if 8 + m.body.length ≤ 65535 then 0 else 2
/-- What a Write answers: bytes in a row of their own, and an error. -/
def Wrote2 (w : World) (zs : List Int) (er : Int) (e : Ending) (w' : World) : Prop := ∃ v, e = .returned (.tuple #[v, .int .i64 er]) ∧ OB w.heap.size w w' v zs
theorem Wrote2.lower {w W w' : World} {zs : List Int} {er : Int} {e : Ending} (h : Wrote2 W zs er e w') (hb : Below w.heap.size w W) : Wrote2 w zs er e w' := by
  obtain ⟨v, he, ho⟩ := h
  exact ⟨v, he, ho.lower hb hb.size⟩
theorem OB.none (w w' : World) (hb : Below w.heap.size w w') : OB w.heap.size w w' (.slice none 0 0) [] := ⟨World.ownsRow_nil _ _ _ _, hb⟩
theorem write_any (o : Value) (ph : Int → List Int) (c : List Value) (m : Msg) (w : World) (ho : OverI w o ph) (hph : ∀ n : Int, 0 ≤ n ∧ n ≤ 65535 → Fit (ph n)) (hm : MsgC w c m) :
    Calls Try.prog 33 #[o, .agg c.toArray] w (Wrote2 w (icB ph m) (icE m)) := by
  unfold icB icE
  by_cases hn : 8 + m.body.length ≤ 65535
  · rw [if_pos hn, if_pos hn]
    exact write_ok o ph c m w ho hph hm hn
  · rw [if_neg hn, if_neg hn]
    exact (write_long o ph c m w ho hm (by omega)).mono (fun e w' h => ⟨_, h.1, OB.none w w' h.2⟩)
theorem Wrote2.two {w w' : World} {zs : List Int} {er : Int} {e : Ending} (h : Wrote2 w zs er e w') : ∃ x y, e = .returned (.tuple #[x, y]) := by
  obtain ⟨v, he, _⟩ := h
  exact ⟨_, _, he⟩
theorem phN_fit (n : Int) : Fit (phN n) := fun z hz => by simp [phN] at hz
theorem ph6I_fit {A B : List Int} (fa : Fit A) (fb : Fit B) (n : Int) (hn : 0 ≤ n ∧ n ≤ 65535) : Fit (ph6I A B n) := ph6_fit fa fb (by decide) hn
theorem Write6_any (A B : List Int) (hA : A.length = 16) (hB : B.length = 16) (fa : Fit A) (fb : Fit B) (c : List Value) (m : Msg) (w : World) (hm : MsgC w c m) :
    Calls Try.prog 12 #[.agg (u8L A).toArray, .agg (u8L B).toArray, .agg c.toArray] w (Wrote2 w (icB (ph6I A B) m) (icE m)) :=
  Write6_walk A B hA hB fa fb c hm.len w (fun e w' h => h.two) (fun W o hb ho => (write_any o _ c m W ho (ph6I_fit fa fb) (hm.on hb)).mono (fun e w' h => ⟨h.lower hb, by obtain ⟨v, _, hO⟩ := h; exact hO.bel⟩))
set_option maxHeartbeats 1000000 in
set_option maxRecDepth 100000 in
theorem Write4_any (c : List Value) (m : Msg) (w : World) (hm : MsgC w c m) :
    Calls Try.prog 10 #[.agg c.toArray] w (Wrote2 w (icB phN m) (icE m)) := by
  have hb0 := blk_new w (.cells c.toArray 26)
  have hB0 := (Below.refl w.heap.size w).alloc (Nat.le_refl _) (.cells c.toArray 26)
  obtain ⟨W0, hW0⟩ : ∃ W0, w.alloc (.cells c.toArray 26) = W0 := ⟨_, rfl⟩
  rw [hW0] at hb0 hB0
  have HC : Hid _ := agg_load (t := 26) Try.isAgg26 Try.sizeOf26 hm.len (CellsAt.of_blk hb0)
  have HW : Hid _ := write_any _ phN c m W0 (over4_over W0) (fun n _ => phN_fit n) (hm.on hB0)
  have HB0 : Hid _ := hB0
  clear hb0 hB0 hm
  generalize icB phN m = zs at *
  generalize icE m = er at *
  go_enter Try.func10, Try.ntmps10
  go_wp2_with first
    | ((with_reducible show wpList _ _ _ _ _ _); refine arm_load rfl (.tmp 1) 26 rfl rfl HC.out ?_)
  refine Calls.mono HW.out ?_
  rintro _ w1 ⟨v, rfl, h1⟩
  have H1 : Hid (OB w.heap.size w w1 v zs) := h1.lower HB0.out HB0.out.size
  clear h1 HW
  go_wp2
  go_ret2
  exact ⟨_, rfl, H1.out⟩

end Go.Proofs.Ytljmamogefgiaaa
