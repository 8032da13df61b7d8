/-
  WriteUDP4, WriteUDP6 of package segment.
-/
import Derived.Test.YtnlaomjhnndblaaSg5
namespace Go.Proofs.Ytnlaomjhnndblaa
open Go Go.RowKit Go.Shelf
set_option linter.unusedVariables false
set_option linter.unusedSimpArgs false

theorem ex_loadv {P : Program} {o : Oper} {a : Act} {W : World} (p : Operand) (t : TypeId) (hop : o.op = Op.load t p) {vp v : Value} (hp : a.eval p = vp) (hrun : (Instr.loadAt t vp).run P W = .ok v W) : (execOp a.eval o).run P W = .ok (.value v) W := by
  simp [execOp, hop, hp, hrun]
theorem ex_extract {P : Program} {o : Oper} {a : Act} {W : World} (p : Operand) (i : Nat) (hop : o.op = Op.extract p i) {vs : Array Value} {v : Value} (hp : a.eval p = .tuple vs) (hv : vs[i]? = some v) : (execOp a.eval o).run P W = .ok (.value v) W := by
  generalize a.eval = ev at *
  simp [execOp, hop, hp, hv, go_sem]
theorem ex_assign {P : Program} {o : Oper} {a : Act} {W : World} (p : Operand) (hop : o.op = Op.assign p) {v : Value} (hp : a.eval p = v) : (execOp a.eval o).run P W = .ok (.value v) W := by
  generalize a.eval = ev at *
  simp [execOp, hop, hp, go_sem]
theorem wp_call {P : Program} {o : Oper} {a : Act} {d : Option Nat} {w : World} {K : Act → World → Prop} {Q : Exit → Act → World → Prop} {R : Value → World → Prop} (f : FuncId) (vs : Array Value) (hd : o.dst = d)
    (hrun : (execOp a.eval o).run P w = .ok (.enter f vs) w) (hc : Calls P f vs w fun e w' => ∃ v, e = .returned v ∧ R v w') (hK : ∀ v w2, R v w2 → K (a.put d v) w2) : o.wp P a w K Q := by
  subst hd
  unfold Oper.wp
  rw [hrun]
  refine hc.mono ?_
  rintro e w' ⟨v, rfl, hr⟩
  exact hK v w' hr


set_option maxHeartbeats 1000000 in
set_option maxRecDepth 100000 in
theorem WriteUDP4_walk (A B : List Int) (hA : A.length = 4) (hB : B.length = 4) (fa : Fit A) (fb : Fit B) (c : List Value) (hc : c.length = 3) (w : World) {R : Ending → World → Prop}
    (hR : ∀ e w', R e w' → ∃ x y, e = .returned (.tuple #[x, y]))
    (hw : ∀ W o, Below w.heap.size w W → OverV W o (ph4 A B) → Calls Try.prog 41 #[o, .agg c.toArray] W fun e w' => R e w' ∧ Below W.heap.size W w') :
    Calls Try.prog 13 #[.agg (u8L A).toArray, .agg (u8L B).toArray, .agg c.toArray] w R := by
  obtain ⟨W0, hW0⟩ : ∃ W0, ((w.alloc (.cells (u8L A).toArray 23)).alloc (.cells (u8L B).toArray 23)).alloc (.cells c.toArray 31) = W0 := ⟨_, rfl⟩
  have b0 := blk_new w (.cells (u8L A).toArray 23)
  have b1 := blk_new (w.alloc (.cells (u8L A).toArray 23)) (.cells (u8L B).toArray 23)
  have b2 := blk_new ((w.alloc (.cells (u8L A).toArray 23)).alloc (.cells (u8L B).toArray 23)) (.cells c.toArray 31)
  have b0' := blk_alloc (blk_alloc b0 (.cells (u8L B).toArray 23)) (.cells c.toArray 31)
  have b1' := blk_alloc b1 (.cells c.toArray 31)
  have hb : Below w.heap.size w (((w.alloc (.cells (u8L A).toArray 23)).alloc (.cells (u8L B).toArray 23)).alloc (.cells c.toArray 31)) := (((Below.refl _ w).alloc (Nat.le_refl _) _).alloc (by simp) _).alloc (by simp <;> omega) _
  rw [hW0] at b0' b1' b2 hb
  have s1 : (w.alloc (.cells (u8L A).toArray 23)).heap.size = w.heap.size + 1 := by simp
  have s2 : ((w.alloc (.cells (u8L A).toArray 23)).alloc (.cells (u8L B).toArray 23)).heap.size = w.heap.size + 1 + 1 := by simp
  rw [s1] at b1'
  rw [s2] at b2
  have HA : Hid (∀ W, Below W0.heap.size W0 W → (Instr.loadAt 23 (.pointer (some ⟨w.heap.size, 0, none⟩))).run Try.prog W = .ok (.agg (u8L A).toArray) W) := fun W hS => agg_load Try.isAgg23 Try.sizeOf23 (by simp [u8L, hA]) (CellsAt.of_blk (blk_on b0' hS))
  have HB : Hid (∀ W, Below W0.heap.size W0 W → (Instr.loadAt 23 (.pointer (some ⟨w.heap.size + 1, 0, none⟩))).run Try.prog W = .ok (.agg (u8L B).toArray) W) := fun W hS => agg_load Try.isAgg23 Try.sizeOf23 (by simp [u8L, hB]) (CellsAt.of_blk (blk_on b1' hS))
  have HC : Hid (∀ W, Below W0.heap.size W0 W → (Instr.loadAt 31 (.pointer (some ⟨w.heap.size + 1 + 1, 0, none⟩))).run Try.prog W = .ok (.agg c.toArray) W) := fun W hS => agg_load Try.isAgg31 Try.sizeOf31 hc (CellsAt.of_blk (blk_on b2 hS))
  have HOV : Hid (∀ W, Calls Try.prog 42 #[.agg (u8L A).toArray, .agg (u8L B).toArray] W fun e w' => ∃ v, e = .returned v ∧ (OverV w' v (ph4 A B) ∧ Below W.heap.size W w')) := fun W => over4_calls A B hA hB fa fb W
  have HW : Hid (∀ W o, Below W0.heap.size W0 W → OverV W o (ph4 A B) → Calls Try.prog 41 #[o, .agg c.toArray] W fun e w' => ∃ v, e = .returned v ∧ (R (.returned v) w' ∧ Below W.heap.size W w')) := fun W o hW ho => (hw W o (hb.trans (hW.mono hb.size)) ho).mono (fun e w' hr => by
    obtain ⟨x, y, rfl⟩ := hR e w' hr.1
    exact ⟨_, rfl, hr⟩)
  have HR : Hid _ := hR
  have hAl : (u8L A).length = 4 := by simp [u8L, hA]
  have hBl : (u8L B).length = 4 := by simp [u8L, hB]
  clear b0 b1 b2 b0' b1' hb s1 s2 hw hR fa fb hA hB
  generalize hxA : u8L A = xA at *
  generalize hxB : u8L B = xB at *
  clear hxA hxB
  go_enter Try.func13, Try.ntmps13
  go_wp2_with fail
  refine wp_region_held (S := fun W => Below W0.heap.size W0 W) (by kernel_rfl) ?_
  show wpAnyH _ _ _ _ _ 9 (Array.replicate 9 false) _ _
  refine take_one (i := 0) (d := some 8) (v := .agg xA.toArray) rfl rfl rfl (by kernel_rfl) (by kernel_rfl) (by kernel_rfl) (fun _ _ d _ _ h => by cases d <;> exact h) (fun W hS => ex_loadv (.tmp 3) 23 rfl rfl (HA.out W hS)) ((Below.refl _ _).drew) ?_
  refine take_one (i := 1) (d := some 9) (v := .agg xB.toArray) rfl rfl rfl (by kernel_rfl) (by kernel_rfl) (by kernel_rfl) (fun _ _ d _ _ h => by cases d <;> exact h) (fun W hS => ex_loadv (.tmp 4) 23 rfl rfl (HB.out W hS)) ((Below.refl _ _).drew) ?_
  refine take_one (i := 3) (d := some 11) (v := .agg c.toArray) rfl rfl rfl (by kernel_rfl) (by kernel_rfl) (by kernel_rfl) (fun _ _ d _ _ h => by cases d <;> exact h) (fun W hS => ex_loadv (.tmp 5) 31 rfl rfl (HC.out W hS)) ((Below.refl _ _).drew) ?_
  refine all_one (i := 2) (by kernel_rfl) rfl rfl ?_
  refine wp_call (d := some 10) 42 _ rfl (by kernel_rfl) (HOV.out _) ?_
  rintro o w2 ⟨ho, hb2⟩
  have hb02 := ((Below.refl W0.heap.size W0).drew).trans (hb2.mono (Nat.le_refl _))
  refine ⟨hb02, ?_⟩
  refine all_one (i := 4) (by kernel_rfl) rfl rfl ?_
  refine wp_call (d := some 12) 41 _ rfl (by kernel_rfl) (HW.out _ _ hb02 ho) ?_
  rintro v w3 ⟨hr, hb3⟩
  obtain ⟨x, y, e⟩ := HR.out _ _ hr
  cases e
  have H : Hid (R (.returned (.tuple #[x, y])) w3) := hr
  have hb03 := hb02.trans (hb3.mono hb02.size)
  clear hr ho hb2
  refine ⟨hb03, ?_⟩
  simp only [Act.put, List.setIfInBounds_toArray, List.set_cons_zero, List.set_cons_succ]
  refine take_one (i := 5) (d := some 13) (v := x) rfl rfl rfl (by kernel_rfl) (by kernel_rfl) (by kernel_rfl) (fun _ _ d _ _ h => by cases d <;> exact h) (fun W _ => ex_extract (.tmp 12) 0 rfl rfl rfl) hb03 ?_
  refine take_one (i := 6) (d := some 14) (v := y) rfl rfl rfl (by kernel_rfl) (by kernel_rfl) (by kernel_rfl) (fun _ _ d _ _ h => by cases d <;> exact h) (fun W _ => ex_extract (.tmp 12) 1 rfl rfl rfl) hb03 ?_
  refine take_one (i := 7) (d := some 6) (v := x) rfl rfl rfl (by kernel_rfl) (by kernel_rfl) (by kernel_rfl) (fun _ _ d _ _ h => by cases d <;> exact h) (fun W _ => ex_assign (.tmp 13) rfl rfl) hb03 ?_
  refine take_one (i := 8) (d := some 7) (v := y) rfl rfl rfl (by kernel_rfl) (by kernel_rfl) (by kernel_rfl) (fun _ _ d _ _ h => by cases d <;> exact h) (fun W _ => ex_assign (.tmp 14) rfl rfl) hb03 ?_
  refine wpAnyH_done (by kernel_rfl) ?_ _
  simp only [Act.put, List.setIfInBounds_toArray, List.set_cons_zero, List.set_cons_succ]
  go_wp2
  exact H.out


set_option maxHeartbeats 1000000 in
set_option maxRecDepth 100000 in
theorem WriteUDP6_walk (A B : List Int) (hA : A.length = 16) (hB : B.length = 16) (fa : Fit A) (fb : Fit B) (c : List Value) (hc : c.length = 3) (w : World) {R : Ending → World → Prop}
    (hR : ∀ e w', R e w' → ∃ x y, e = .returned (.tuple #[x, y]))
    (hw : ∀ W o, Below w.heap.size w W → OverV W o (ph6 A B) → Calls Try.prog 41 #[o, .agg c.toArray] W fun e w' => R e w' ∧ Below W.heap.size W w') :
    Calls Try.prog 15 #[.agg (u8L A).toArray, .agg (u8L B).toArray, .agg c.toArray] w R := by
  obtain ⟨W0, hW0⟩ : ∃ W0, ((w.alloc (.cells (u8L A).toArray 25)).alloc (.cells (u8L B).toArray 25)).alloc (.cells c.toArray 31) = W0 := ⟨_, rfl⟩
  have b0 := blk_new w (.cells (u8L A).toArray 25)
  have b1 := blk_new (w.alloc (.cells (u8L A).toArray 25)) (.cells (u8L B).toArray 25)
  have b2 := blk_new ((w.alloc (.cells (u8L A).toArray 25)).alloc (.cells (u8L B).toArray 25)) (.cells c.toArray 31)
  have b0' := blk_alloc (blk_alloc b0 (.cells (u8L B).toArray 25)) (.cells c.toArray 31)
  have b1' := blk_alloc b1 (.cells c.toArray 31)
  have hb : Below w.heap.size w (((w.alloc (.cells (u8L A).toArray 25)).alloc (.cells (u8L B).toArray 25)).alloc (.cells c.toArray 31)) := (((Below.refl _ w).alloc (Nat.le_refl _) _).alloc (by simp) _).alloc (by simp <;> omega) _
  rw [hW0] at b0' b1' b2 hb
  have s1 : (w.alloc (.cells (u8L A).toArray 25)).heap.size = w.heap.size + 1 := by simp
  have s2 : ((w.alloc (.cells (u8L A).toArray 25)).alloc (.cells (u8L B).toArray 25)).heap.size = w.heap.size + 1 + 1 := by simp
  rw [s1] at b1'
  rw [s2] at b2
  have HA : Hid (∀ W, Below W0.heap.size W0 W → (Instr.loadAt 25 (.pointer (some ⟨w.heap.size, 0, none⟩))).run Try.prog W = .ok (.agg (u8L A).toArray) W) := fun W hS => agg_load Try.isAgg25 Try.sizeOf25 (by simp [u8L, hA]) (CellsAt.of_blk (blk_on b0' hS))
  have HB : Hid (∀ W, Below W0.heap.size W0 W → (Instr.loadAt 25 (.pointer (some ⟨w.heap.size + 1, 0, none⟩))).run Try.prog W = .ok (.agg (u8L B).toArray) W) := fun W hS => agg_load Try.isAgg25 Try.sizeOf25 (by simp [u8L, hB]) (CellsAt.of_blk (blk_on b1' hS))
  have HC : Hid (∀ W, Below W0.heap.size W0 W → (Instr.loadAt 31 (.pointer (some ⟨w.heap.size + 1 + 1, 0, none⟩))).run Try.prog W = .ok (.agg c.toArray) W) := fun W hS => agg_load Try.isAgg31 Try.sizeOf31 hc (CellsAt.of_blk (blk_on b2 hS))
  have HOV : Hid (∀ W, Calls Try.prog 45 #[.agg (u8L A).toArray, .agg (u8L B).toArray] W fun e w' => ∃ v, e = .returned v ∧ (OverV w' v (ph6 A B) ∧ Below W.heap.size W w')) := fun W => over6_calls A B hA hB fa fb W
  have HW : Hid (∀ W o, Below W0.heap.size W0 W → OverV W o (ph6 A B) → Calls Try.prog 41 #[o, .agg c.toArray] W fun e w' => ∃ v, e = .returned v ∧ (R (.returned v) w' ∧ Below W.heap.size W w')) := fun W o hW ho => (hw W o (hb.trans (hW.mono hb.size)) ho).mono (fun e w' hr => by
    obtain ⟨x, y, rfl⟩ := hR e w' hr.1
    exact ⟨_, rfl, hr⟩)
  have HR : Hid _ := hR
  have hAl : (u8L A).length = 16 := by simp [u8L, hA]
  have hBl : (u8L B).length = 16 := by simp [u8L, hB]
  clear b0 b1 b2 b0' b1' hb s1 s2 hw hR fa fb hA hB
  generalize hxA : u8L A = xA at *
  generalize hxB : u8L B = xB at *
  clear hxA hxB
  go_enter Try.func15, Try.ntmps15
  go_wp2_with fail
  refine wp_region_held (S := fun W => Below W0.heap.size W0 W) (by kernel_rfl) ?_
  show wpAnyH _ _ _ _ _ 9 (Array.replicate 9 false) _ _
  refine take_one (i := 0) (d := some 8) (v := .agg xA.toArray) rfl rfl rfl (by kernel_rfl) (by kernel_rfl) (by kernel_rfl) (fun _ _ d _ _ h => by cases d <;> exact h) (fun W hS => ex_loadv (.tmp 3) 25 rfl rfl (HA.out W hS)) ((Below.refl _ _).drew) ?_
  refine take_one (i := 1) (d := some 9) (v := .agg xB.toArray) rfl rfl rfl (by kernel_rfl) (by kernel_rfl) (by kernel_rfl) (fun _ _ d _ _ h => by cases d <;> exact h) (fun W hS => ex_loadv (.tmp 4) 25 rfl rfl (HB.out W hS)) ((Below.refl _ _).drew) ?_
  refine take_one (i := 3) (d := some 11) (v := .agg c.toArray) rfl rfl rfl (by kernel_rfl) (by kernel_rfl) (by kernel_rfl) (fun _ _ d _ _ h => by cases d <;> exact h) (fun W hS => ex_loadv (.tmp 5) 31 rfl rfl (HC.out W hS)) ((Below.refl _ _).drew) ?_
  refine all_one (i := 2) (by kernel_rfl) rfl rfl ?_
  refine wp_call (d := some 10) 45 _ rfl (by kernel_rfl) (HOV.out _) ?_
  rintro o w2 ⟨ho, hb2⟩
  have hb02 := ((Below.refl W0.heap.size W0).drew).trans (hb2.mono (Nat.le_refl _))
  refine ⟨hb02, ?_⟩
  refine all_one (i := 4) (by kernel_rfl) rfl rfl ?_
  refine wp_call (d := some 12) 41 _ rfl (by kernel_rfl) (HW.out _ _ hb02 ho) ?_
  rintro v w3 ⟨hr, hb3⟩
  obtain ⟨x, y, e⟩ := HR.out _ _ hr
  cases e
  have H : Hid (R (.returned (.tuple #[x, y])) w3) := hr
  have hb03 := hb02.trans (hb3.mono hb02.size)
  clear hr ho hb2
  refine ⟨hb03, ?_⟩
  simp only [Act.put, List.setIfInBounds_toArray, List.set_cons_zero, List.set_cons_succ]
  refine take_one (i := 5) (d := some 13) (v := x) rfl rfl rfl (by kernel_rfl) (by kernel_rfl) (by kernel_rfl) (fun _ _ d _ _ h => by cases d <;> exact h) (fun W _ => ex_extract (.tmp 12) 0 rfl rfl rfl) hb03 ?_
  refine take_one (i := 6) (d := some 14) (v := y) rfl rfl rfl (by kernel_rfl) (by kernel_rfl) (by kernel_rfl) (fun _ _ d _ _ h => by cases d <;> exact h) (fun W _ => ex_extract (.tmp 12) 1 rfl rfl rfl) hb03 ?_
  refine take_one (i := 7) (d := some 6) (v := x) rfl rfl rfl (by kernel_rfl) (by kernel_rfl) (by kernel_rfl) (fun _ _ d _ _ h => by cases d <;> exact h) (fun W _ => ex_assign (.tmp 13) rfl rfl) hb03 ?_
  refine take_one (i := 8) (d := some 7) (v := y) rfl rfl rfl (by kernel_rfl) (by kernel_rfl) (by kernel_rfl) (fun _ _ d _ _ h => by cases d <;> exact h) (fun W _ => ex_assign (.tmp 14) rfl rfl) hb03 ?_
  refine wpAnyH_done (by kernel_rfl) ?_ _
  simp only [Act.put, List.setIfInBounds_toArray, List.set_cons_zero, List.set_cons_succ]
  go_wp2
  exact H.out


def udpB (ph : Int → Int → List Int) (src dst : Int) (data : List Int) : List Int := if 8 + data.length ≤ 65535 then udpL ph src dst data else []
def udpE (data : List Int) : Int := if 8 + data.length ≤ 65535 then 0 else 2
/-- What a Write answers: bytes in a row of their own, and an error. -/
def Wrote2 (w : World) (zs : List Int) (er : Int) (e : Ending) (w' : World) : Prop := ∃ v, e = .returned (.tuple #[v, .int .i64 er]) ∧ OB w.heap.size w w' v zs
theorem Wrote2.lower {w W w' : World} {zs : List Int} {er : Int} {e : Ending} (h : Wrote2 W zs er e w') (hb : Below w.heap.size w W) : Wrote2 w zs er e w' := by
  obtain ⟨v, he, ho⟩ := h
  exact ⟨v, he, ho.lower hb hb.size⟩
theorem OB.none (w w' : World) (hb : Below w.heap.size w w') : OB w.heap.size w w' (.slice none 0 0) [] := ⟨World.ownsRow_nil _ _ _ _, hb⟩
theorem writeUDP_any (o : Value) (ph : Int → Int → List Int) (c : List Value) (src dst : Int) (data : List Int) (w : World) (ho : OverV w o ph) (hph : ∀ p n : Int, 0 ≤ p ∧ p < 256 → 0 ≤ n ∧ n ≤ 65535 → Fit (ph p n)) (hu : UdpC w c src dst data) :
    Calls Try.prog 41 #[o, .agg c.toArray] w (Wrote2 w (udpB ph src dst data) (udpE data)) := by
  unfold udpB udpE
  by_cases hn : 8 + data.length ≤ 65535
  · rw [if_pos hn, if_pos hn]
    exact writeUDP_ok o ph c src dst data w ho hph hu hn
  · rw [if_neg hn, if_neg hn]
    exact (writeUDP_long o ph c src dst data w ho hu (by omega)).mono (fun e w' h => ⟨_, h.1, OB.none w w' h.2⟩)
theorem Wrote2.two {w w' : World} {zs : List Int} {er : Int} {e : Ending} (h : Wrote2 w zs er e w') : ∃ x y, e = .returned (.tuple #[x, y]) := by
  obtain ⟨v, he, _⟩ := h
  exact ⟨_, _, he⟩
theorem UdpC.len {w : World} {c : List Value} {src dst : Int} {data : List Int} (h : UdpC w c src dst data) : c.length = 3 := by
  obtain ⟨⟨vd, rfl, _⟩, _⟩ := h
  rfl
theorem WriteUDP4_any (A B : List Int) (hA : A.length = 4) (hB : B.length = 4) (fa : Fit A) (fb : Fit B) (c : List Value) (src dst : Int) (data : List Int) (w : World) (hu : UdpC w c src dst data) :
    Calls Try.prog 13 #[.agg (u8L A).toArray, .agg (u8L B).toArray, .agg c.toArray] w (Wrote2 w (udpB (ph4 A B) src dst data) (udpE data)) :=
  WriteUDP4_walk A B hA hB fa fb c hu.len w (fun e w' h => h.two) (fun W o hb ho => (writeUDP_any o _ c src dst data W ho (fun p n hp hn => ph4_fit fa fb hp hn) (hu.on hb)).mono (fun e w' h => ⟨h.lower hb, by obtain ⟨v, _, hO⟩ := h; exact hO.bel⟩))
theorem WriteUDP6_any (A B : List Int) (hA : A.length = 16) (hB : B.length = 16) (fa : Fit A) (fb : Fit B) (c : List Value) (src dst : Int) (data : List Int) (w : World) (hu : UdpC w c src dst data) :
    Calls Try.prog 15 #[.agg (u8L A).toArray, .agg (u8L B).toArray, .agg c.toArray] w (Wrote2 w (udpB (ph6 A B) src dst data) (udpE data)) :=
  WriteUDP6_walk A B hA hB fa fb c hu.len w (fun e w' h => h.two) (fun W o hb ho => (writeUDP_any o _ c src dst data W ho (fun p n hp hn => ph6_fit fa fb hp hn) (hu.on hb)).mono (fun e w' h => ⟨h.lower hb, by obtain ⟨v, _, hO⟩ := h; exact hO.bel⟩))
end Go.Proofs.Ytnlaomjhnndblaa
