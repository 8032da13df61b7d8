/-
  The longest prefix that covers both.
-/
import Derived.Test.YtabmkbhmgfneiaaTb1
namespace Go.Proofs.Ytabmkbhmgfneiaa
open Go Go.RowKit Go.Shelf
set_option linter.unusedVariables false
set_option linter.unusedSimpArgs false

theorem wp_effX {P : Program} {o : Oper} {a : Act} {d : Option Nat} {w w2 : World} {v : Value} {K : Act → World → Prop} {Q : Exit → Act → World → Prop} (hd : o.dst = d) (hrun : (execOp a.eval o).run P w = .ok (.value v) w2) (hK : K (a.put d v) w2) : o.wp P a w K Q := by
  subst hd
  unfold Oper.wp
  rw [hrun]
  exact hK
/-- A new box. -/
theorem wp_newX {P : Program} {o : Oper} {a : Act} {d : Option Nat} {w : World} {v : Nat → Value} {z : Obj} {K : Act → World → Prop} {Q : Exit → Act → World → Prop} (hd : o.dst = d) (hrun : (execOp a.eval o).run P w = .ok (.value (v w.heap.size)) (w.alloc z))
    (hK : ∀ c W', c = w.heap.size → W'.heap[c]? = some z → Below w.heap.size w W' → K (a.put d (v c)) W') : o.wp P a w K Q :=
  wp_effX hd hrun (hK _ _ rfl (blk_new w z) ((Below.refl _ w).alloc (Nat.le_refl _) _))
theorem callR {P : Program} {f : FuncId} {vs : Array Value} {w : World} {v : Value} {B : World → Prop} (h : Calls P f vs w fun e w' => e = .returned v ∧ B w') : Calls P f vs w fun e w' => ∃ v', e = .returned v' ∧ (v' = v ∧ B w') :=
  h.mono (fun _ _ g => ⟨_, g.1, rfl, g.2⟩)
theorem ex_min3 {o : Oper} {a : Act} {W : World} (i j k : Nat) {x y z m : Nat} (hop : o.op = Op.call { callee := Callee.builtin Builtin.min, args := #[.tmp i, .tmp j, .tmp k], argTypes := #[3, 3, 3] }) (hi : a.eval (.tmp i) = .int .i64 (x : Int)) (hj : a.eval (.tmp j) = .int .i64 (y : Int)) (hk : a.eval (.tmp k) = .int .i64 (z : Int)) (hm : min (min x y) z = m) :
    (execOp a.eval o).run Try.prog W = .ok (.value (.int .i64 (m : Int))) W := by
  subst hm
  generalize a.eval = ev at *
  by_cases h : x ≤ y
  · rw [Nat.min_eq_left h]
    by_cases g : x ≤ z
    · rw [Nat.min_eq_left g]
      simp [execOp, hop, resolve, invoke, builtin, hi, hj, hk, Builtin.min_, Builtin.min2, go_sem, Result.andThen, h, g, show ¬ y < x by omega, show ¬ z < x by omega]
    · rw [Nat.min_eq_right (by omega)]
      simp [execOp, hop, resolve, invoke, builtin, hi, hj, hk, Builtin.min_, Builtin.min2, go_sem, Result.andThen, h, g, show ¬ y < x by omega, show z < x by omega]
  · rw [Nat.min_eq_right (by omega : y ≤ x)]
    by_cases g : y ≤ z
    · rw [Nat.min_eq_left g]
      simp [execOp, hop, resolve, invoke, builtin, hi, hj, hk, Builtin.min_, Builtin.min2, go_sem, Result.andThen, h, g, show y < x by omega, show ¬ z < y by omega]
    · rw [Nat.min_eq_right (by omega)]
      simp [execOp, hop, resolve, invoke, builtin, hi, hj, hk, Builtin.min_, Builtin.min2, go_sem, Result.andThen, h, g, show y < x by omega, show z < y by omega]

def CmS (w : World) (p q : Bs) (X : World) : Prop := X.heap[w.heap.size]? = some (.cells (kC p).toArray 39) ∧ X.heap[w.heap.size + 1]? = some (.cells (kC q).toArray 39) ∧ X.heap[w.heap.size + 2]? = some (.cells zK.toArray 39)
theorem CmS.keep {w : World} {p q : Bs} {X X' : World} (h : CmS w p q X) (hb : Below X.heap.size X X') : CmS w p q X' := ⟨blk_kept h.1 hb, blk_kept h.2.1 hb, blk_kept h.2.2 hb⟩

set_option maxHeartbeats 4000000 in
set_option maxRecDepth 100000 in
theorem common_any (p q : Bs) (hp : p.length ≤ 128) (hq : q.length ≤ 128) (w : World) :
    Calls Try.prog 83 #[KV p, KV q] w fun e w' => e = .returned (KV (lcp p q)) ∧ Below w.heap.size w w' := by
  generalize hQ : (fun (e : Ending) (w' : World) => e = .returned (KV (lcp p q)) ∧ Below w.heap.size w w') = Q
  have HQ : Hid _ := hQ
  clear hQ
  have HL : Hid (∀ W, Calls Try.prog 85 #[A6 (bytN 16 p), A6 (bytN 16 q)] W fun e w' => ∃ v, e = .returned v ∧ ∃ L : Nat, v = .int .i64 (L : Nat) ∧ min (min p.length q.length) L = (lcp p q).length ∧ Below W.heap.size W w') := by
    intro W
    refine (lead_any p q W).mono ?_
    rintro e w' ⟨L, rfl, h1, h2, h3, h4⟩
    exact ⟨_, rfl, L, rfl, (lcp_min hp hq h1 h2 h3).1, h4⟩
  have HC : Hid (∀ W, Calls Try.prog 79 #[A6 (bytN 16 p), .int .i64 ((lcp p q).length : Nat)] W fun e w' => e = .returned (.tuple #[KV (lcp p q), .int .i64 0]) ∧ Below W.heap.size W w') := by
    intro W
    have hl := (lcp_fst p q).length_le
    have := Cut6_yes (bytN 16 p) (lcp p q).length W (bytN_fit _ _) (bytN_length _ _) ⟨by omega, by omega⟩
    rwa [blR_bytN, ← List.prefix_iff_eq_take.1 (lcp_fst p q)] at this
  have hB : Below w.heap.size w (((w.alloc (.cells (kC p).toArray 39)).alloc (.cells (kC q).toArray 39)).alloc (.cells zK.toArray 39)) := (((Below.refl _ w).alloc (Nat.le_refl _) _).alloc (by simp) _).alloc (by simp; omega) _
  have b0 := blk_alloc (blk_alloc (blk_new w (.cells (kC p).toArray 39)) (.cells (kC q).toArray 39)) (.cells zK.toArray 39)
  have b1 := blk_alloc (blk_new (w.alloc (.cells (kC p).toArray 39)) (.cells (kC q).toArray 39)) (.cells zK.toArray 39)
  have b2 := blk_new ((w.alloc (.cells (kC p).toArray 39)).alloc (.cells (kC q).toArray 39)) (.cells zK.toArray 39)
  rw [show (w.alloc (.cells (kC p).toArray 39)).heap.size = w.heap.size + 1 by simp] at b1
  rw [show ((w.alloc (.cells (kC p).toArray 39)).alloc (.cells (kC q).toArray 39)).heap.size = w.heap.size + 2 by simp] at b2
  generalize hW : (((w.alloc (.cells (kC p).toArray 39)).alloc (.cells (kC q).toArray 39)).alloc (.cells zK.toArray 39)) = W at *
  have HW : Hid (((w.alloc (.cells (kC p).toArray 39)).alloc (.cells (kC q).toArray 39)).alloc (.cells zK.toArray 39) = W) := hW
  have HI : Hid _ := And.intro b0 (And.intro b1 b2)
  have HB : Hid _ := hB
  clear hW hB b0 b1 b2
  go_enter Try.func83, Try.ntmps83
  go_wp2_with fail
  rw [HW.out]
  refine wp_region_held (S := CmS w p q) (by kernel_rfl) ?_
  show wpAnyH _ _ _ _ _ 19 (Array.replicate 19 false) _ W.drew
  have hS0 : CmS w p q W.drew := HI.out
  have kB0 : Below w.heap.size w W.drew := HB.out.trans ((Below.refl _ W).drew.mono HB.out.size)
  generalize W.drew = X0 at *
  refine take_one (i := 0) (d := some 8) (v := .pointer (some ⟨w.heap.size, 0, none⟩)) rfl rfl rfl (by kernel_rfl) (by kernel_rfl) (by kernel_rfl) (fun _ _ d _ _ h => by cases d <;> exact h) (fun W hS => by kernel_rfl) hS0 ?_
  simp only [Act.put, List.setIfInBounds_toArray, List.set_cons_zero, List.set_cons_succ]
  refine take_one (i := 1) (d := some 9) (v := A6 (bytN 16 p)) rfl rfl rfl (by kernel_rfl) (by kernel_rfl) (by kernel_rfl) (fun _ _ d _ _ h => by cases d <;> exact h) (fun W hS => ex_loadA (.tmp 8) 37 rfl rfl (kb_addr (kb0 hS.1))) hS0 ?_
  simp only [Act.put, List.setIfInBounds_toArray, List.set_cons_zero, List.set_cons_succ]
  refine take_one (i := 2) (d := some 10) (v := .pointer (some ⟨w.heap.size, 16, none⟩)) rfl rfl rfl (by kernel_rfl) (by kernel_rfl) (by kernel_rfl) (fun _ _ d _ _ h => by cases d <;> exact h) (fun W hS => by kernel_rfl) hS0 ?_
  simp only [Act.put, List.setIfInBounds_toArray, List.set_cons_zero, List.set_cons_succ]
  refine take_one (i := 3) (d := some 11) (v := .int .i64 (p.length : Int)) rfl rfl rfl (by kernel_rfl) (by kernel_rfl) (by kernel_rfl) (fun _ _ d _ _ h => by cases d <;> exact h) (fun W hS => ex_loadA (.tmp 10) 3 rfl rfl (by have := kb_len (kb0 hS.1); simp [Instr.loadAt, go_sem, this])) hS0 ?_
  simp only [Act.put, List.setIfInBounds_toArray, List.set_cons_zero, List.set_cons_succ]
  refine take_one (i := 4) (d := some 12) (v := .pointer (some ⟨w.heap.size + 1, 16, none⟩)) rfl rfl rfl (by kernel_rfl) (by kernel_rfl) (by kernel_rfl) (fun _ _ d _ _ h => by cases d <;> exact h) (fun W hS => by kernel_rfl) hS0 ?_
  simp only [Act.put, List.setIfInBounds_toArray, List.set_cons_zero, List.set_cons_succ]
  refine take_one (i := 5) (d := some 13) (v := .int .i64 (q.length : Int)) rfl rfl rfl (by kernel_rfl) (by kernel_rfl) (by kernel_rfl) (fun _ _ d _ _ h => by cases d <;> exact h) (fun W hS => ex_loadA (.tmp 12) 3 rfl rfl (by have := kb_len (kb0 hS.2.1); simp [Instr.loadAt, go_sem, this])) hS0 ?_
  simp only [Act.put, List.setIfInBounds_toArray, List.set_cons_zero, List.set_cons_succ]
  refine take_one (i := 6) (d := some 14) (v := .pointer (some ⟨w.heap.size, 0, none⟩)) rfl rfl rfl (by kernel_rfl) (by kernel_rfl) (by kernel_rfl) (fun _ _ d _ _ h => by cases d <;> exact h) (fun W hS => by kernel_rfl) hS0 ?_
  simp only [Act.put, List.setIfInBounds_toArray, List.set_cons_zero, List.set_cons_succ]
  refine take_one (i := 7) (d := some 15) (v := A6 (bytN 16 p)) rfl rfl rfl (by kernel_rfl) (by kernel_rfl) (by kernel_rfl) (fun _ _ d _ _ h => by cases d <;> exact h) (fun W hS => ex_loadA (.tmp 14) 37 rfl rfl (kb_addr (kb0 hS.1))) hS0 ?_
  simp only [Act.put, List.setIfInBounds_toArray, List.set_cons_zero, List.set_cons_succ]
  refine take_one (i := 8) (d := some 16) (v := .pointer (some ⟨w.heap.size + 1, 0, none⟩)) rfl rfl rfl (by kernel_rfl) (by kernel_rfl) (by kernel_rfl) (fun _ _ d _ _ h => by cases d <;> exact h) (fun W hS => by kernel_rfl) hS0 ?_
  simp only [Act.put, List.setIfInBounds_toArray, List.set_cons_zero, List.set_cons_succ]
  refine take_one (i := 9) (d := some 17) (v := A6 (bytN 16 q)) rfl rfl rfl (by kernel_rfl) (by kernel_rfl) (by kernel_rfl) (fun _ _ d _ _ h => by cases d <;> exact h) (fun W hS => ex_loadA (.tmp 16) 37 rfl rfl (kb_addr (kb0 hS.2.1))) hS0 ?_
  simp only [Act.put, List.setIfInBounds_toArray, List.set_cons_zero, List.set_cons_succ]
  refine all_two (i1 := 10) (i2 := 16) (by kernel_rfl) rfl rfl rfl rfl ?_ ?_
  · refine wp_call (d := some 18) 85 _ rfl (by kernel_rfl) (HL.out _) ?_
    rintro _ X1 ⟨L, rfl, hm, hb1⟩
    have hS1 := CmS.keep hS0 hb1
    have kB1 := kB0.trans (hb1.mono kB0.size)
    refine ⟨hS1, ?_⟩
    simp only [Act.put, List.setIfInBounds_toArray, List.set_cons_zero, List.set_cons_succ]
    refine all_two (i1 := 11) (i2 := 16) (by kernel_rfl) rfl rfl rfl rfl ?_ ?_
    · refine wp_effX (d := some 19) (v := .int .i64 ((lcp p q).length : Nat)) rfl (ex_min3 11 13 18 rfl rfl rfl rfl hm) ⟨hS1, ?_⟩
      simp only [Act.put, List.setIfInBounds_toArray, List.set_cons_zero, List.set_cons_succ]
      refine all_two (i1 := 12) (i2 := 16) (by kernel_rfl) rfl rfl rfl rfl ?_ ?_
      · refine wp_call (d := some 20) 79 _ rfl (by kernel_rfl) (callR (HC.out _)) ?_
        rintro _ X2 ⟨rfl, hb2⟩
        have hS2 := CmS.keep hS1 hb2
        have kB2 := kB1.trans (hb2.mono kB1.size)
        refine ⟨hS2, ?_⟩
        simp only [Act.put, List.setIfInBounds_toArray, List.set_cons_zero, List.set_cons_succ]
        refine take_one (i := 13) (d := some 7) (v := .tuple #[KV (lcp p q), .int .i64 0]) rfl rfl rfl (by kernel_rfl) (by kernel_rfl) (by kernel_rfl) (fun _ _ d _ _ h => by cases d <;> exact h) (fun W hS => ex_moveA (.tmp 20) rfl rfl) hS2 ?_
        simp only [Act.put, List.setIfInBounds_toArray, List.set_cons_zero, List.set_cons_succ]
        refine take_one (i := 14) (d := some 21) (v := KV (lcp p q)) rfl rfl rfl (by kernel_rfl) (by kernel_rfl) (by kernel_rfl) (fun _ _ d _ _ h => by cases d <;> exact h) (fun W hS => by kernel_rfl) hS2 ?_
        simp only [Act.put, List.setIfInBounds_toArray, List.set_cons_zero, List.set_cons_succ]
        refine take_one (i := 15) (d := some 22) (v := .int .i64 0) rfl rfl rfl (by kernel_rfl) (by kernel_rfl) (by kernel_rfl) (fun _ _ d _ _ h => by cases d <;> exact h) (fun W hS => by kernel_rfl) hS2 ?_
        simp only [Act.put, List.setIfInBounds_toArray, List.set_cons_zero, List.set_cons_succ]
        refine all_one (i := 16) (by kernel_rfl) rfl rfl ?_
        refine wp_newX (d := some 5) (v := fun c => .pointer (some ⟨c, 0, none⟩)) (z := .cells zK.toArray 39) rfl (by kernel_rfl) ?_
        rintro c X3 hc hz3 hb3
        have hcn : w.heap.size + 2 < c := by rw [hc]; exact (Array.getElem?_eq_some_iff.1 hS2.2.2).1
        have hS3 := CmS.keep hS2 hb3
        have kB3 := kB2.trans (hb3.mono kB2.size)
        refine ⟨hS3, ?_⟩
        simp only [Act.put, List.setIfInBounds_toArray, List.set_cons_zero, List.set_cons_succ]
        obtain ⟨Xe, hst, bE, onE⟩ := box_store (ty := 39) (n := 17) (fun w => by kernel_rfl) hz3 rfl (kC (lcp p q)) (kC_length _) (kC_one _)
        have hSE : CmS w p q Xe := ⟨(onE.other _ (by omega)).trans hS3.1, (onE.other _ (by omega)).trans hS3.2.1, (onE.other _ (by omega)).trans hS3.2.2⟩
        refine all_one (i := 17) (by kernel_rfl) rfl rfl ?_
        refine wp_storeA (.tmp 5) (.tmp 21) 39 rfl rfl rfl rfl hst ⟨hSE, ?_⟩
        refine take_one (i := 18) (d := some 6) (v := .int .i64 0) rfl rfl rfl (by kernel_rfl) (by kernel_rfl) (by kernel_rfl) (fun _ _ d _ _ h => by cases d <;> exact h) (fun W hS => ex_asgT 22 rfl rfl) hSE ?_
        simp only [Act.put, List.setIfInBounds_toArray, List.set_cons_zero, List.set_cons_succ]
        refine wpAnyH_done (by kernel_rfl) ?_ _
        obtain ⟨Xf, hst2, bF, onF⟩ := box_store (ty := 39) (n := 17) (fun w => by kernel_rfl) hSE.2.2 rfl (kC (lcp p q)) (kC_length _) (kC_one _)
        have HLD : Hid _ := kb_key (kb0 bE)
        have HST : Hid _ := hst2
        have HLV : Hid ((loadVar 39 ⟨w.heap.size + 2, 0, none⟩).run Try.prog Xf = .ok (KV (lcp p q)) Xf) := agg_loadVar (n := 17) (fun w => by kernel_rfl) (fun w => by kernel_rfl) (kC_length _) (CellsAt.of_blk bF)
        have HKB : Hid (Below w.heap.size w Xf) := (kB3.trans (onE.below (by omega))).trans (onF.below (by omega))
        clear onE onF bE bF hst hst2 hSE HL HC
        go_show
        go_wp2_with first
          | ((with_reducible show wpList _ _ _ _ _ _); refine armLv (.tmp 5) 39 rfl rfl rfl HLD.out ?_)
          | ((with_reducible show wpList _ _ _ _ _ _); refine armS (.tmp 4) (.tmp 23) 39 rfl rfl rfl rfl HST.out ?_)
        refine bodyPost_ret (res_cell1 Try.results83 rfl HLV.out) rfl ?_
        rw [← HQ.out]
        exact ⟨rfl, HKB.out⟩
      · refine wp_newX (d := some 5) (v := fun c => .pointer (some ⟨c, 0, none⟩)) (z := .cells zK.toArray 39) rfl (by kernel_rfl) ?_
        rintro c X2 hc hz2 hb2
        have hcn : w.heap.size + 2 < c := by rw [hc]; exact (Array.getElem?_eq_some_iff.1 hS1.2.2).1
        have hS2 := CmS.keep hS1 hb2
        have kB2 := kB1.trans (hb2.mono kB1.size)
        refine ⟨hS2, ?_⟩
        simp only [Act.put, List.setIfInBounds_toArray, List.set_cons_zero, List.set_cons_succ]
        refine all_one (i := 12) (by kernel_rfl) rfl rfl ?_
        refine wp_call (d := some 20) 79 _ rfl (by kernel_rfl) (callR (HC.out _)) ?_
        rintro _ X3 ⟨rfl, hb3⟩
        have hS3 := CmS.keep hS2 hb3
        have kB3 := kB2.trans (hb3.mono kB2.size)
        have hz3 := blk_kept hz2 hb3
        refine ⟨hS3, ?_⟩
        simp only [Act.put, List.setIfInBounds_toArray, List.set_cons_zero, List.set_cons_succ]
        refine take_one (i := 13) (d := some 7) (v := .tuple #[KV (lcp p q), .int .i64 0]) rfl rfl rfl (by kernel_rfl) (by kernel_rfl) (by kernel_rfl) (fun _ _ d _ _ h => by cases d <;> exact h) (fun W hS => ex_moveA (.tmp 20) rfl rfl) hS3 ?_
        simp only [Act.put, List.setIfInBounds_toArray, List.set_cons_zero, List.set_cons_succ]
        refine take_one (i := 14) (d := some 21) (v := KV (lcp p q)) rfl rfl rfl (by kernel_rfl) (by kernel_rfl) (by kernel_rfl) (fun _ _ d _ _ h => by cases d <;> exact h) (fun W hS => by kernel_rfl) hS3 ?_
        simp only [Act.put, List.setIfInBounds_toArray, List.set_cons_zero, List.set_cons_succ]
        refine take_one (i := 15) (d := some 22) (v := .int .i64 0) rfl rfl rfl (by kernel_rfl) (by kernel_rfl) (by kernel_rfl) (fun _ _ d _ _ h => by cases d <;> exact h) (fun W hS => by kernel_rfl) hS3 ?_
        simp only [Act.put, List.setIfInBounds_toArray, List.set_cons_zero, List.set_cons_succ]
        obtain ⟨Xe, hst, bE, onE⟩ := box_store (ty := 39) (n := 17) (fun w => by kernel_rfl) hz3 rfl (kC (lcp p q)) (kC_length _) (kC_one _)
        have hSE : CmS w p q Xe := ⟨(onE.other _ (by omega)).trans hS3.1, (onE.other _ (by omega)).trans hS3.2.1, (onE.other _ (by omega)).trans hS3.2.2⟩
        refine all_one (i := 17) (by kernel_rfl) rfl rfl ?_
        refine wp_storeA (.tmp 5) (.tmp 21) 39 rfl rfl rfl rfl hst ⟨hSE, ?_⟩
        refine take_one (i := 18) (d := some 6) (v := .int .i64 0) rfl rfl rfl (by kernel_rfl) (by kernel_rfl) (by kernel_rfl) (fun _ _ d _ _ h => by cases d <;> exact h) (fun W hS => ex_asgT 22 rfl rfl) hSE ?_
        simp only [Act.put, List.setIfInBounds_toArray, List.set_cons_zero, List.set_cons_succ]
        refine wpAnyH_done (by kernel_rfl) ?_ _
        obtain ⟨Xf, hst2, bF, onF⟩ := box_store (ty := 39) (n := 17) (fun w => by kernel_rfl) hSE.2.2 rfl (kC (lcp p q)) (kC_length _) (kC_one _)
        have HLD : Hid _ := kb_key (kb0 bE)
        have HST : Hid _ := hst2
        have HLV : Hid ((loadVar 39 ⟨w.heap.size + 2, 0, none⟩).run Try.prog Xf = .ok (KV (lcp p q)) Xf) := agg_loadVar (n := 17) (fun w => by kernel_rfl) (fun w => by kernel_rfl) (kC_length _) (CellsAt.of_blk bF)
        have HKB : Hid (Below w.heap.size w Xf) := (kB3.trans (onE.below (by omega))).trans (onF.below (by omega))
        clear onE onF bE bF hst hst2 hSE HL HC
        go_show
        go_wp2_with first
          | ((with_reducible show wpList _ _ _ _ _ _); refine armLv (.tmp 5) 39 rfl rfl rfl HLD.out ?_)
          | ((with_reducible show wpList _ _ _ _ _ _); refine armS (.tmp 4) (.tmp 23) 39 rfl rfl rfl rfl HST.out ?_)
        refine bodyPost_ret (res_cell1 Try.results83 rfl HLV.out) rfl ?_
        rw [← HQ.out]
        exact ⟨rfl, HKB.out⟩
    · refine wp_newX (d := some 5) (v := fun c => .pointer (some ⟨c, 0, none⟩)) (z := .cells zK.toArray 39) rfl (by kernel_rfl) ?_
      rintro c X2 hc hz2 hb2
      have hcn : w.heap.size + 2 < c := by rw [hc]; exact (Array.getElem?_eq_some_iff.1 hS1.2.2).1
      have hS2 := CmS.keep hS1 hb2
      have kB2 := kB1.trans (hb2.mono kB1.size)
      refine ⟨hS2, ?_⟩
      simp only [Act.put, List.setIfInBounds_toArray, List.set_cons_zero, List.set_cons_succ]
      refine all_one (i := 11) (by kernel_rfl) rfl rfl ?_
      refine wp_effX (d := some 19) (v := .int .i64 ((lcp p q).length : Nat)) rfl (ex_min3 11 13 18 rfl rfl rfl rfl hm) ⟨hS2, ?_⟩
      simp only [Act.put, List.setIfInBounds_toArray, List.set_cons_zero, List.set_cons_succ]
      refine all_one (i := 12) (by kernel_rfl) rfl rfl ?_
      refine wp_call (d := some 20) 79 _ rfl (by kernel_rfl) (callR (HC.out _)) ?_
      rintro _ X3 ⟨rfl, hb3⟩
      have hS3 := CmS.keep hS2 hb3
      have kB3 := kB2.trans (hb3.mono kB2.size)
      have hz3 := blk_kept hz2 hb3
      refine ⟨hS3, ?_⟩
      simp only [Act.put, List.setIfInBounds_toArray, List.set_cons_zero, List.set_cons_succ]
      refine take_one (i := 13) (d := some 7) (v := .tuple #[KV (lcp p q), .int .i64 0]) rfl rfl rfl (by kernel_rfl) (by kernel_rfl) (by kernel_rfl) (fun _ _ d _ _ h => by cases d <;> exact h) (fun W hS => ex_moveA (.tmp 20) rfl rfl) hS3 ?_
      simp only [Act.put, List.setIfInBounds_toArray, List.set_cons_zero, List.set_cons_succ]
      refine take_one (i := 14) (d := some 21) (v := KV (lcp p q)) rfl rfl rfl (by kernel_rfl) (by kernel_rfl) (by kernel_rfl) (fun _ _ d _ _ h => by cases d <;> exact h) (fun W hS => by kernel_rfl) hS3 ?_
      simp only [Act.put, List.setIfInBounds_toArray, List.set_cons_zero, List.set_cons_succ]
      refine take_one (i := 15) (d := some 22) (v := .int .i64 0) rfl rfl rfl (by kernel_rfl) (by kernel_rfl) (by kernel_rfl) (fun _ _ d _ _ h => by cases d <;> exact h) (fun W hS => by kernel_rfl) hS3 ?_
      simp only [Act.put, List.setIfInBounds_toArray, List.set_cons_zero, List.set_cons_succ]
      obtain ⟨Xe, hst, bE, onE⟩ := box_store (ty := 39) (n := 17) (fun w => by kernel_rfl) hz3 rfl (kC (lcp p q)) (kC_length _) (kC_one _)
      have hSE : CmS w p q Xe := ⟨(onE.other _ (by omega)).trans hS3.1, (onE.other _ (by omega)).trans hS3.2.1, (onE.other _ (by omega)).trans hS3.2.2⟩
      refine all_one (i := 17) (by kernel_rfl) rfl rfl ?_
      refine wp_storeA (.tmp 5) (.tmp 21) 39 rfl rfl rfl rfl hst ⟨hSE, ?_⟩
      refine take_one (i := 18) (d := some 6) (v := .int .i64 0) rfl rfl rfl (by kernel_rfl) (by kernel_rfl) (by kernel_rfl) (fun _ _ d _ _ h => by cases d <;> exact h) (fun W hS => ex_asgT 22 rfl rfl) hSE ?_
      simp only [Act.put, List.setIfInBounds_toArray, List.set_cons_zero, List.set_cons_succ]
      refine wpAnyH_done (by kernel_rfl) ?_ _
      obtain ⟨Xf, hst2, bF, onF⟩ := box_store (ty := 39) (n := 17) (fun w => by kernel_rfl) hSE.2.2 rfl (kC (lcp p q)) (kC_length _) (kC_one _)
      have HLD : Hid _ := kb_key (kb0 bE)
      have HST : Hid _ := hst2
      have HLV : Hid ((loadVar 39 ⟨w.heap.size + 2, 0, none⟩).run Try.prog Xf = .ok (KV (lcp p q)) Xf) := agg_loadVar (n := 17) (fun w => by kernel_rfl) (fun w => by kernel_rfl) (kC_length _) (CellsAt.of_blk bF)
      have HKB : Hid (Below w.heap.size w Xf) := (kB3.trans (onE.below (by omega))).trans (onF.below (by omega))
      clear onE onF bE bF hst hst2 hSE HL HC
      go_show
      go_wp2_with first
        | ((with_reducible show wpList _ _ _ _ _ _); refine armLv (.tmp 5) 39 rfl rfl rfl HLD.out ?_)
        | ((with_reducible show wpList _ _ _ _ _ _); refine armS (.tmp 4) (.tmp 23) 39 rfl rfl rfl rfl HST.out ?_)
      refine bodyPost_ret (res_cell1 Try.results83 rfl HLV.out) rfl ?_
      rw [← HQ.out]
      exact ⟨rfl, HKB.out⟩
  · refine wp_newX (d := some 5) (v := fun c => .pointer (some ⟨c, 0, none⟩)) (z := .cells zK.toArray 39) rfl (by kernel_rfl) ?_
    rintro c X1 hc hz1 hb1
    have hcn : w.heap.size + 2 < c := by rw [hc]; exact (Array.getElem?_eq_some_iff.1 hS0.2.2).1
    have hS1 := CmS.keep hS0 hb1
    have kB1 := kB0.trans (hb1.mono kB0.size)
    refine ⟨hS1, ?_⟩
    simp only [Act.put, List.setIfInBounds_toArray, List.set_cons_zero, List.set_cons_succ]
    refine all_one (i := 10) (by kernel_rfl) rfl rfl ?_
    refine wp_call (d := some 18) 85 _ rfl (by kernel_rfl) (HL.out _) ?_
    rintro _ X2 ⟨L, rfl, hm, hb2⟩
    have hS2 := CmS.keep hS1 hb2
    have kB2 := kB1.trans (hb2.mono kB1.size)
    have hz2 := blk_kept hz1 hb2
    refine ⟨hS2, ?_⟩
    simp only [Act.put, List.setIfInBounds_toArray, List.set_cons_zero, List.set_cons_succ]
    refine all_one (i := 11) (by kernel_rfl) rfl rfl ?_
    refine wp_effX (d := some 19) (v := .int .i64 ((lcp p q).length : Nat)) rfl (ex_min3 11 13 18 rfl rfl rfl rfl hm) ⟨hS2, ?_⟩
    simp only [Act.put, List.setIfInBounds_toArray, List.set_cons_zero, List.set_cons_succ]
    refine all_one (i := 12) (by kernel_rfl) rfl rfl ?_
    refine wp_call (d := some 20) 79 _ rfl (by kernel_rfl) (callR (HC.out _)) ?_
    rintro _ X3 ⟨rfl, hb3⟩
    have hS3 := CmS.keep hS2 hb3
    have kB3 := kB2.trans (hb3.mono kB2.size)
    have hz3 := blk_kept hz2 hb3
    refine ⟨hS3, ?_⟩
    simp only [Act.put, List.setIfInBounds_toArray, List.set_cons_zero, List.set_cons_succ]
    refine take_one (i := 13) (d := some 7) (v := .tuple #[KV (lcp p q), .int .i64 0]) rfl rfl rfl (by kernel_rfl) (by kernel_rfl) (by kernel_rfl) (fun _ _ d _ _ h => by cases d <;> exact h) (fun W hS => ex_moveA (.tmp 20) rfl rfl) hS3 ?_
    simp only [Act.put, List.setIfInBounds_toArray, List.set_cons_zero, List.set_cons_succ]
    refine take_one (i := 14) (d := some 21) (v := KV (lcp p q)) rfl rfl rfl (by kernel_rfl) (by kernel_rfl) (by kernel_rfl) (fun _ _ d _ _ h => by cases d <;> exact h) (fun W hS => by kernel_rfl) hS3 ?_
    simp only [Act.put, List.setIfInBounds_toArray, List.set_cons_zero, List.set_cons_succ]
    refine take_one (i := 15) (d := some 22) (v := .int .i64 0) rfl rfl rfl (by kernel_rfl) (by kernel_rfl) (by kernel_rfl) (fun _ _ d _ _ h => by cases d <;> exact h) (fun W hS => by kernel_rfl) hS3 ?_
    simp only [Act.put, List.setIfInBounds_toArray, List.set_cons_zero, List.set_cons_succ]
    obtain ⟨Xe, hst, bE, onE⟩ := box_store (ty := 39) (n := 17) (fun w => by kernel_rfl) hz3 rfl (kC (lcp p q)) (kC_length _) (kC_one _)
    have hSE : CmS w p q Xe := ⟨(onE.other _ (by omega)).trans hS3.1, (onE.other _ (by omega)).trans hS3.2.1, (onE.other _ (by omega)).trans hS3.2.2⟩
    refine all_one (i := 17) (by kernel_rfl) rfl rfl ?_
    refine wp_storeA (.tmp 5) (.tmp 21) 39 rfl rfl rfl rfl hst ⟨hSE, ?_⟩
    refine take_one (i := 18) (d := some 6) (v := .int .i64 0) rfl rfl rfl (by kernel_rfl) (by kernel_rfl) (by kernel_rfl) (fun _ _ d _ _ h => by cases d <;> exact h) (fun W hS => ex_asgT 22 rfl rfl) hSE ?_
    simp only [Act.put, List.setIfInBounds_toArray, List.set_cons_zero, List.set_cons_succ]
    refine wpAnyH_done (by kernel_rfl) ?_ _
    obtain ⟨Xf, hst2, bF, onF⟩ := box_store (ty := 39) (n := 17) (fun w => by kernel_rfl) hSE.2.2 rfl (kC (lcp p q)) (kC_length _) (kC_one _)
    have HLD : Hid _ := kb_key (kb0 bE)
    have HST : Hid _ := hst2
    have HLV : Hid ((loadVar 39 ⟨w.heap.size + 2, 0, none⟩).run Try.prog Xf = .ok (KV (lcp p q)) Xf) := agg_loadVar (n := 17) (fun w => by kernel_rfl) (fun w => by kernel_rfl) (kC_length _) (CellsAt.of_blk bF)
    have HKB : Hid (Below w.heap.size w Xf) := (kB3.trans (onE.below (by omega))).trans (onF.below (by omega))
    clear onE onF bE bF hst hst2 hSE HL HC
    go_show
    go_wp2_with first
      | ((with_reducible show wpList _ _ _ _ _ _); refine armLv (.tmp 5) 39 rfl rfl rfl HLD.out ?_)
      | ((with_reducible show wpList _ _ _ _ _ _); refine armS (.tmp 4) (.tmp 23) 39 rfl rfl rfl rfl HST.out ?_)
    refine bodyPost_ret (res_cell1 Try.results83 rfl HLV.out) rfl ?_
    rw [← HQ.out]
    exact ⟨rfl, HKB.out⟩
end Go.Proofs.Ytabmkbhmgfneiaa
