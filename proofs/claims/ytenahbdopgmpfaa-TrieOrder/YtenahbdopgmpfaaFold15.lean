/-
  The longest prefix that covers both.
  A tree and an entry for which it has no place, below a fork.
-/
import Derived.Test.YtenahbdopgmpfaaFold14
namespace Go.Proofs.Ytenahbdopgmpfaa
open Go Go.RowKit Go.Shelf
set_option linter.unusedVariables false
set_option linter.unusedSimpArgs false

theorem wp_effX {P : Program} {o : Oper} {a : Act} {d : Option Nat} {w w2 : World} {v : Value} {K : Act → World → Prop} {Q : Exit → Act → World → Prop} (hd : o.dst = d) (hrun : (execOp a.eval o).run P w = .ok (.value v) w2) (hK : K (a.put d v) w2) : o.wp P a w K Q := by
  subst hd
  unfold Oper.wp
  rw [hrun]
  exact hK
/-- A new box. -/
theorem wp_newX {P : Program} {o : Oper} {a : Act} {d : Option Nat} {w : World} {v : Nat → Value} {z : Obj} {K : Act → World → Prop} {Q : Exit → Act → World → Prop} (hd : o.dst = d) (hrun : (execOp a.eval o).run P w = .ok (.value (v w.heap.size)) (w.alloc z))
    (hK : ∀ c W', c = w.heap.size → W'.heap[c]? = some z → Below w.heap.size w W' → K (a.put d (v c)) W') : o.wp P a w K Q :=
  wp_effX hd hrun (hK _ _ rfl (blk_new w z) ((Below.refl _ w).alloc (Nat.le_refl _) _))
theorem callR {P : Program} {f : FuncId} {vs : Array Value} {w : World} {v : Value} {B : World → Prop} (h : Calls P f vs w fun e w' => e = .returned v ∧ B w') : Calls P f vs w fun e w' => ∃ v', e = .returned v' ∧ (v' = v ∧ B w') :=
  h.mono (fun _ _ g => ⟨_, g.1, rfl, g.2⟩)
theorem ex_min3 {o : Oper} {a : Act} {W : World} (i j k : Nat) {x y z m : Nat} (hop : o.op = Op.call { callee := Callee.builtin Builtin.min, args := #[.tmp i, .tmp j, .tmp k], argTypes := #[3, 3, 3] }) (hi : a.eval (.tmp i) = .int .i64 (x : Int)) (hj : a.eval (.tmp j) = .int .i64 (y : Int)) (hk : a.eval (.tmp k) = .int .i64 (z : Int)) (hm : min (min x y) z = m) :
    (execOp a.eval o).run Try.prog W = .ok (.value (.int .i64 (m : Int))) W := by
  subst hm
  generalize a.eval = ev at *
  by_cases h : x ≤ y
  · rw [Nat.min_eq_left h]
    by_cases g : x ≤ z
    · rw [Nat.min_eq_left g]
      simp [execOp, hop, resolve, invoke, builtin, hi, hj, hk, Builtin.min_, Builtin.min2, go_sem, Result.andThen, h, g, show ¬ y < x by omega, show ¬ z < x by omega]
    · rw [Nat.min_eq_right (by omega)]
      simp [execOp, hop, resolve, invoke, builtin, hi, hj, hk, Builtin.min_, Builtin.min2, go_sem, Result.andThen, h, g, show ¬ y < x by omega, show z < x by omega]
  · rw [Nat.min_eq_right (by omega : y ≤ x)]
    by_cases g : y ≤ z
    · rw [Nat.min_eq_left g]
      simp [execOp, hop, resolve, invoke, builtin, hi, hj, hk, Builtin.min_, Builtin.min2, go_sem, Result.andThen, h, g, show y < x by omega, show ¬ z < y by omega]
    · rw [Nat.min_eq_right (by omega)]
      simp [execOp, hop, resolve, invoke, builtin, hi, hj, hk, Builtin.min_, Builtin.min2, go_sem, Result.andThen, h, g, show y < x by omega, show z < y by omega]

def CmS (w : World) (p q : Bs) (X : World) : Prop := X.heap[w.heap.size]? = some (.cells (kC p).toArray 39) ∧ X.heap[w.heap.size + 1]? = some (.cells (kC q).toArray 39) ∧ X.heap[w.heap.size + 2]? = some (.cells zK.toArray 39)
theorem CmS.keep {w : World} {p q : Bs} {X X' : World} (h : CmS w p q X) (hb : Below X.heap.size X X') : CmS w p q X' := ⟨blk_kept h.1 hb, blk_kept h.2.1 hb, blk_kept h.2.2 hb⟩

set_option maxHeartbeats 4000000 in
set_option maxRecDepth 100000 in
theorem common_any (p q : Bs) (hp : p.length ≤ 128) (hq : q.length ≤ 128) (w : World) :
    Calls Try.prog 83 #[KV p, KV q] w fun e w' => e = .returned (KV (lcp p q)) ∧ Below w.heap.size w w' := by
  generalize hQ : (fun (e : Ending) (w' : World) => e = .returned (KV (lcp p q)) ∧ Below w.heap.size w w') = Q
  have HQ : Hid _ := hQ
  clear hQ
  have HL : Hid (∀ W, Calls Try.prog 85 #[A6 (bytN 16 p), A6 (bytN 16 q)] W fun e w' => ∃ v, e = .returned v ∧ ∃ L : Nat, v = .int .i64 (L : Nat) ∧ min (min p.length q.length) L = (lcp p q).length ∧ Below W.heap.size W w') := by
    intro W
    refine (lead_any p q W).mono ?_
    rintro e w' ⟨L, rfl, h1, h2, h3, h4⟩
    exact ⟨_, rfl, L, rfl, (lcp_min hp hq h1 h2 h3).1, h4⟩
  have HC : Hid (∀ W, Calls Try.prog 79 #[A6 (bytN 16 p), .int .i64 ((lcp p q).length : Nat)] W fun e w' => e = .returned (.tuple #[KV (lcp p q), .int .i64 0]) ∧ Below W.heap.size W w') := by
    intro W
    have hl := (lcp_fst p q).length_le
    have := Cut6_yes (bytN 16 p) (lcp p q).length W (bytN_fit _ _) (bytN_length _ _) ⟨by omega, by omega⟩
    rwa [blR_bytN, ← List.prefix_iff_eq_take.1 (lcp_fst p q)] at this
  have hB : Below w.heap.size w (((w.alloc (.cells (kC p).toArray 39)).alloc (.cells (kC q).toArray 39)).alloc (.cells zK.toArray 39)) := (((Below.refl _ w).alloc (Nat.le_refl _) _).alloc (by simp) _).alloc (by simp; omega) _
  have b0 := blk_alloc (blk_alloc (blk_new w (.cells (kC p).toArray 39)) (.cells (kC q).toArray 39)) (.cells zK.toArray 39)
  have b1 := blk_alloc (blk_new (w.alloc (.cells (kC p).toArray 39)) (.cells (kC q).toArray 39)) (.cells zK.toArray 39)
  have b2 := blk_new ((w.alloc (.cells (kC p).toArray 39)).alloc (.cells (kC q).toArray 39)) (.cells zK.toArray 39)
  rw [show (w.alloc (.cells (kC p).toArray 39)).heap.size = w.heap.size + 1 by simp] at b1
  rw [show ((w.alloc (.cells (kC p).toArray 39)).alloc (.cells (kC q).toArray 39)).heap.size = w.heap.size + 2 by simp] at b2
  generalize hW : (((w.alloc (.cells (kC p).toArray 39)).alloc (.cells (kC q).toArray 39)).alloc (.cells zK.toArray 39)) = W at *
  have HW : Hid (((w.alloc (.cells (kC p).toArray 39)).alloc (.cells (kC q).toArray 39)).alloc (.cells zK.toArray 39) = W) := hW
  have HI : Hid _ := And.intro b0 (And.intro b1 b2)
  have HB : Hid _ := hB
  clear hW hB b0 b1 b2
  go_enter Try.func83, Try.ntmps83
  go_wp2_with fail
  rw [HW.out]
  refine wp_region_held (S := CmS w p q) (by kernel_rfl) ?_
  show wpAnyH _ _ _ _ _ 19 (Array.replicate 19 false) _ W.drew
  have hS0 : CmS w p q W.drew := HI.out
  have kB0 : Below w.heap.size w W.drew := HB.out.trans ((Below.refl _ W).drew.mono HB.out.size)
  generalize W.drew = X0 at *
  refine take_one (i := 0) (d := some 8) (v := .pointer (some ⟨w.heap.size, 0, none⟩)) rfl rfl rfl (by kernel_rfl) (by kernel_rfl) (by kernel_rfl) (fun _ _ d _ _ h => by cases d <;> exact h) (fun W hS => by kernel_rfl) hS0 ?_
  simp only [Act.put, List.setIfInBounds_toArray, List.set_cons_zero, List.set_cons_succ]
  refine take_one (i := 1) (d := some 9) (v := A6 (bytN 16 p)) rfl rfl rfl (by kernel_rfl) (by kernel_rfl) (by kernel_rfl) (fun _ _ d _ _ h => by cases d <;> exact h) (fun W hS => ex_loadA (.tmp 8) 37 rfl rfl (kb_addr (kb0 hS.1))) hS0 ?_
  simp only [Act.put, List.setIfInBounds_toArray, List.set_cons_zero, List.set_cons_succ]
  refine take_one (i := 2) (d := some 10) (v := .pointer (some ⟨w.heap.size, 16, none⟩)) rfl rfl rfl (by kernel_rfl) (by kernel_rfl) (by kernel_rfl) (fun _ _ d _ _ h => by cases d <;> exact h) (fun W hS => by kernel_rfl) hS0 ?_
  simp only [Act.put, List.setIfInBounds_toArray, List.set_cons_zero, List.set_cons_succ]
  refine take_one (i := 3) (d := some 11) (v := .int .i64 (p.length : Int)) rfl rfl rfl (by kernel_rfl) (by kernel_rfl) (by kernel_rfl) (fun _ _ d _ _ h => by cases d <;> exact h) (fun W hS => ex_loadA (.tmp 10) 3 rfl rfl (by have := kb_len (kb0 hS.1); simp [Instr.loadAt, go_sem, this])) hS0 ?_
  simp only [Act.put, List.setIfInBounds_toArray, List.set_cons_zero, List.set_cons_succ]
  refine take_one (i := 4) (d := some 12) (v := .pointer (some ⟨w.heap.size + 1, 16, none⟩)) rfl rfl rfl (by kernel_rfl) (by kernel_rfl) (by kernel_rfl) (fun _ _ d _ _ h => by cases d <;> exact h) (fun W hS => by kernel_rfl) hS0 ?_
  simp only [Act.put, List.setIfInBounds_toArray, List.set_cons_zero, List.set_cons_succ]
  refine take_one (i := 5) (d := some 13) (v := .int .i64 (q.length : Int)) rfl rfl rfl (by kernel_rfl) (by kernel_rfl) (by kernel_rfl) (fun _ _ d _ _ h => by cases d <;> exact h) (fun W hS => ex_loadA (.tmp 12) 3 rfl rfl (by have := kb_len (kb0 hS.2.1); simp [Instr.loadAt, go_sem, this])) hS0 ?_
  simp only [Act.put, List.setIfInBounds_toArray, List.set_cons_zero, List.set_cons_succ]
  refine take_one (i := 6) (d := some 14) (v := .pointer (some ⟨w.heap.size, 0, none⟩)) rfl rfl rfl (by kernel_rfl) (by kernel_rfl) (by kernel_rfl) (fun _ _ d _ _ h => by cases d <;> exact h) (fun W hS => by kernel_rfl) hS0 ?_
  simp only [Act.put, List.setIfInBounds_toArray, List.set_cons_zero, List.set_cons_succ]
  refine take_one (i := 7) (d := some 15) (v := A6 (bytN 16 p)) rfl rfl rfl (by kernel_rfl) (by kernel_rfl) (by kernel_rfl) (fun _ _ d _ _ h => by cases d <;> exact h) (fun W hS => ex_loadA (.tmp 14) 37 rfl rfl (kb_addr (kb0 hS.1))) hS0 ?_
  simp only [Act.put, List.setIfInBounds_toArray, List.set_cons_zero, List.set_cons_succ]
  refine take_one (i := 8) (d := some 16) (v := .pointer (some ⟨w.heap.size + 1, 0, none⟩)) rfl rfl rfl (by kernel_rfl) (by kernel_rfl) (by kernel_rfl) (fun _ _ d _ _ h => by cases d <;> exact h) (fun W hS => by kernel_rfl) hS0 ?_
  simp only [Act.put, List.setIfInBounds_toArray, List.set_cons_zero, List.set_cons_succ]
  refine take_one (i := 9) (d := some 17) (v := A6 (bytN 16 q)) rfl rfl rfl (by kernel_rfl) (by kernel_rfl) (by kernel_rfl) (fun _ _ d _ _ h => by cases d <;> exact h) (fun W hS => ex_loadA (.tmp 16) 37 rfl rfl (kb_addr (kb0 hS.2.1))) hS0 ?_
  simp only [Act.put, List.setIfInBounds_toArray, List.set_cons_zero, List.set_cons_succ]
  refine all_two (i1 := 10) (i2 := 16) (by kernel_rfl) rfl rfl rfl rfl ?_ ?_
  · refine wp_call (d := some 18) 85 _ rfl (by kernel_rfl) (HL.out _) ?_
    rintro _ X1 ⟨L, rfl, hm, hb1⟩
    have hS1 := CmS.keep hS0 hb1
    have kB1 := kB0.trans (hb1.mono kB0.size)
    refine ⟨hS1, ?_⟩
    simp only [Act.put, List.setIfInBounds_toArray, List.set_cons_zero, List.set_cons_succ]
    refine all_two (i1 := 11) (i2 := 16) (by kernel_rfl) rfl rfl rfl rfl ?_ ?_
    · refine wp_effX (d := some 19) (v := .int .i64 ((lcp p q).length : Nat)) rfl (ex_min3 11 13 18 rfl rfl rfl rfl hm) ⟨hS1, ?_⟩
      simp only [Act.put, List.setIfInBounds_toArray, List.set_cons_zero, List.set_cons_succ]
      refine all_two (i1 := 12) (i2 := 16) (by kernel_rfl) rfl rfl rfl rfl ?_ ?_
      · refine wp_call (d := some 20) 79 _ rfl (by kernel_rfl) (callR (HC.out _)) ?_
        rintro _ X2 ⟨rfl, hb2⟩
        have hS2 := CmS.keep hS1 hb2
        have kB2 := kB1.trans (hb2.mono kB1.size)
        refine ⟨hS2, ?_⟩
        simp only [Act.put, List.setIfInBounds_toArray, List.set_cons_zero, List.set_cons_succ]
        refine take_one (i := 13) (d := some 7) (v := .tuple #[KV (lcp p q), .int .i64 0]) rfl rfl rfl (by kernel_rfl) (by kernel_rfl) (by kernel_rfl) (fun _ _ d _ _ h => by cases d <;> exact h) (fun W hS => ex_moveA (.tmp 20) rfl rfl) hS2 ?_
        simp only [Act.put, List.setIfInBounds_toArray, List.set_cons_zero, List.set_cons_succ]
        refine take_one (i := 14) (d := some 21) (v := KV (lcp p q)) rfl rfl rfl (by kernel_rfl) (by kernel_rfl) (by kernel_rfl) (fun _ _ d _ _ h => by cases d <;> exact h) (fun W hS => by kernel_rfl) hS2 ?_
        simp only [Act.put, List.setIfInBounds_toArray, List.set_cons_zero, List.set_cons_succ]
        refine take_one (i := 15) (d := some 22) (v := .int .i64 0) rfl rfl rfl (by kernel_rfl) (by kernel_rfl) (by kernel_rfl) (fun _ _ d _ _ h => by cases d <;> exact h) (fun W hS => by kernel_rfl) hS2 ?_
        simp only [Act.put, List.setIfInBounds_toArray, List.set_cons_zero, List.set_cons_succ]
        refine all_one (i := 16) (by kernel_rfl) rfl rfl ?_
        refine wp_newX (d := some 5) (v := fun c => .pointer (some ⟨c, 0, none⟩)) (z := .cells zK.toArray 39) rfl (by kernel_rfl) ?_
        rintro c X3 hc hz3 hb3
        have hcn : w.heap.size + 2 < c := by rw [hc]; exact (Array.getElem?_eq_some_iff.1 hS2.2.2).1
        have hS3 := CmS.keep hS2 hb3
        have kB3 := kB2.trans (hb3.mono kB2.size)
        refine ⟨hS3, ?_⟩
        simp only [Act.put, List.setIfInBounds_toArray, List.set_cons_zero, List.set_cons_succ]
        obtain ⟨Xe, hst, bE, onE⟩ := box_store (ty := 39) (n := 17) (fun w => by kernel_rfl) hz3 rfl (kC (lcp p q)) (kC_length _) (kC_one _)
        have hSE : CmS w p q Xe := ⟨(onE.other _ (by omega)).trans hS3.1, (onE.other _ (by omega)).trans hS3.2.1, (onE.other _ (by omega)).trans hS3.2.2⟩
        refine all_one (i := 17) (by kernel_rfl) rfl rfl ?_
        refine wp_storeA (.tmp 5) (.tmp 21) 39 rfl rfl rfl rfl hst ⟨hSE, ?_⟩
        refine take_one (i := 18) (d := some 6) (v := .int .i64 0) rfl rfl rfl (by kernel_rfl) (by kernel_rfl) (by kernel_rfl) (fun _ _ d _ _ h => by cases d <;> exact h) (fun W hS => ex_asgT 22 rfl rfl) hSE ?_
        simp only [Act.put, List.setIfInBounds_toArray, List.set_cons_zero, List.set_cons_succ]
        refine wpAnyH_done (by kernel_rfl) ?_ _
        obtain ⟨Xf, hst2, bF, onF⟩ := box_store (ty := 39) (n := 17) (fun w => by kernel_rfl) hSE.2.2 rfl (kC (lcp p q)) (kC_length _) (kC_one _)
        have HLD : Hid _ := kb_key (kb0 bE)
        have HST : Hid _ := hst2
        have HLV : Hid ((loadVar 39 ⟨w.heap.size + 2, 0, none⟩).run Try.prog Xf = .ok (KV (lcp p q)) Xf) := agg_loadVar (n := 17) (fun w => by kernel_rfl) (fun w => by kernel_rfl) (kC_length _) (CellsAt.of_blk bF)
        have HKB : Hid (Below w.heap.size w Xf) := (kB3.trans (onE.below (by omega))).trans (onF.below (by omega))
        clear onE onF bE bF hst hst2 hSE HL HC
        go_show
        go_wp2_with first
          | ((with_reducible show wpList _ _ _ _ _ _); refine armLv (.tmp 5) 39 rfl rfl rfl HLD.out ?_)
          | ((with_reducible show wpList _ _ _ _ _ _); refine armS (.tmp 4) (.tmp 23) 39 rfl rfl rfl rfl HST.out ?_)
        refine bodyPost_ret (res_cell1 Try.results83 rfl HLV.out) rfl ?_
        rw [← HQ.out]
        exact ⟨rfl, HKB.out⟩
      · refine wp_newX (d := some 5) (v := fun c => .pointer (some ⟨c, 0, none⟩)) (z := .cells zK.toArray 39) rfl (by kernel_rfl) ?_
        rintro c X2 hc hz2 hb2
        have hcn : w.heap.size + 2 < c := by rw [hc]; exact (Array.getElem?_eq_some_iff.1 hS1.2.2).1
        have hS2 := CmS.keep hS1 hb2
        have kB2 := kB1.trans (hb2.mono kB1.size)
        refine ⟨hS2, ?_⟩
        simp only [Act.put, List.setIfInBounds_toArray, List.set_cons_zero, List.set_cons_succ]
        refine all_one (i := 12) (by kernel_rfl) rfl rfl ?_
        refine wp_call (d := some 20) 79 _ rfl (by kernel_rfl) (callR (HC.out _)) ?_
        rintro _ X3 ⟨rfl, hb3⟩
        have hS3 := CmS.keep hS2 hb3
        have kB3 := kB2.trans (hb3.mono kB2.size)
        have hz3 := blk_kept hz2 hb3
        refine ⟨hS3, ?_⟩
        simp only [Act.put, List.setIfInBounds_toArray, List.set_cons_zero, List.set_cons_succ]
        refine take_one (i := 13) (d := some 7) (v := .tuple #[KV (lcp p q), .int .i64 0]) rfl rfl rfl (by kernel_rfl) (by kernel_rfl) (by kernel_rfl) (fun _ _ d _ _ h => by cases d <;> exact h) (fun W hS => ex_moveA (.tmp 20) rfl rfl) hS3 ?_
        simp only [Act.put, List.setIfInBounds_toArray, List.set_cons_zero, List.set_cons_succ]
        refine take_one (i := 14) (d := some 21) (v := KV (lcp p q)) rfl rfl rfl (by kernel_rfl) (by kernel_rfl) (by kernel_rfl) (fun _ _ d _ _ h => by cases d <;> exact h) (fun W hS => by kernel_rfl) hS3 ?_
        simp only [Act.put, List.setIfInBounds_toArray, List.set_cons_zero, List.set_cons_succ]
        refine take_one (i := 15) (d := some 22) (v := .int .i64 0) rfl rfl rfl (by kernel_rfl) (by kernel_rfl) (by kernel_rfl) (fun _ _ d _ _ h => by cases d <;> exact h) (fun W hS => by kernel_rfl) hS3 ?_
        simp only [Act.put, List.setIfInBounds_toArray, List.set_cons_zero, List.set_cons_succ]
        obtain ⟨Xe, hst, bE, onE⟩ := box_store (ty := 39) (n := 17) (fun w => by kernel_rfl) hz3 rfl (kC (lcp p q)) (kC_length _) (kC_one _)
        have hSE : CmS w p q Xe := ⟨(onE.other _ (by omega)).trans hS3.1, (onE.other _ (by omega)).trans hS3.2.1, (onE.other _ (by omega)).trans hS3.2.2⟩
        refine all_one (i := 17) (by kernel_rfl) rfl rfl ?_
        refine wp_storeA (.tmp 5) (.tmp 21) 39 rfl rfl rfl rfl hst ⟨hSE, ?_⟩
        refine take_one (i := 18) (d := some 6) (v := .int .i64 0) rfl rfl rfl (by kernel_rfl) (by kernel_rfl) (by kernel_rfl) (fun _ _ d _ _ h => by cases d <;> exact h) (fun W hS => ex_asgT 22 rfl rfl) hSE ?_
        simp only [Act.put, List.setIfInBounds_toArray, List.set_cons_zero, List.set_cons_succ]
        refine wpAnyH_done (by kernel_rfl) ?_ _
        obtain ⟨Xf, hst2, bF, onF⟩ := box_store (ty := 39) (n := 17) (fun w => by kernel_rfl) hSE.2.2 rfl (kC (lcp p q)) (kC_length _) (kC_one _)
        have HLD : Hid _ := kb_key (kb0 bE)
        have HST : Hid _ := hst2
        have HLV : Hid ((loadVar 39 ⟨w.heap.size + 2, 0, none⟩).run Try.prog Xf = .ok (KV (lcp p q)) Xf) := agg_loadVar (n := 17) (fun w => by kernel_rfl) (fun w => by kernel_rfl) (kC_length _) (CellsAt.of_blk bF)
        have HKB : Hid (Below w.heap.size w Xf) := (kB3.trans (onE.below (by omega))).trans (onF.below (by omega))
        clear onE onF bE bF hst hst2 hSE HL HC
        go_show
        go_wp2_with first
          | ((with_reducible show wpList _ _ _ _ _ _); refine armLv (.tmp 5) 39 rfl rfl rfl HLD.out ?_)
          | ((with_reducible show wpList _ _ _ _ _ _); refine armS (.tmp 4) (.tmp 23) 39 rfl rfl rfl rfl HST.out ?_)
        refine bodyPost_ret (res_cell1 Try.results83 rfl HLV.out) rfl ?_
        rw [← HQ.out]
        exact ⟨rfl, HKB.out⟩
    · refine wp_newX (d := some 5) (v := fun c => .pointer (some ⟨c, 0, none⟩)) (z := .cells zK.toArray 39) rfl (by kernel_rfl) ?_
      rintro c X2 hc hz2 hb2
      have hcn : w.heap.size + 2 < c := by rw [hc]; exact (Array.getElem?_eq_some_iff.1 hS1.2.2).1
      have hS2 := CmS.keep hS1 hb2
      have kB2 := kB1.trans (hb2.mono kB1.size)
      refine ⟨hS2, ?_⟩
      simp only [Act.put, List.setIfInBounds_toArray, List.set_cons_zero, List.set_cons_succ]
      refine all_one (i := 11) (by kernel_rfl) rfl rfl ?_
      refine wp_effX (d := some 19) (v := .int .i64 ((lcp p q).length : Nat)) rfl (ex_min3 11 13 18 rfl rfl rfl rfl hm) ⟨hS2, ?_⟩
      simp only [Act.put, List.setIfInBounds_toArray, List.set_cons_zero, List.set_cons_succ]
      refine all_one (i := 12) (by kernel_rfl) rfl rfl ?_
      refine wp_call (d := some 20) 79 _ rfl (by kernel_rfl) (callR (HC.out _)) ?_
      rintro _ X3 ⟨rfl, hb3⟩
      have hS3 := CmS.keep hS2 hb3
      have kB3 := kB2.trans (hb3.mono kB2.size)
      have hz3 := blk_kept hz2 hb3
      refine ⟨hS3, ?_⟩
      simp only [Act.put, List.setIfInBounds_toArray, List.set_cons_zero, List.set_cons_succ]
      refine take_one (i := 13) (d := some 7) (v := .tuple #[KV (lcp p q), .int .i64 0]) rfl rfl rfl (by kernel_rfl) (by kernel_rfl) (by kernel_rfl) (fun _ _ d _ _ h => by cases d <;> exact h) (fun W hS => ex_moveA (.tmp 20) rfl rfl) hS3 ?_
      simp only [Act.put, List.setIfInBounds_toArray, List.set_cons_zero, List.set_cons_succ]
      refine take_one (i := 14) (d := some 21) (v := KV (lcp p q)) rfl rfl rfl (by kernel_rfl) (by kernel_rfl) (by kernel_rfl) (fun _ _ d _ _ h => by cases d <;> exact h) (fun W hS => by kernel_rfl) hS3 ?_
      simp only [Act.put, List.setIfInBounds_toArray, List.set_cons_zero, List.set_cons_succ]
      refine take_one (i := 15) (d := some 22) (v := .int .i64 0) rfl rfl rfl (by kernel_rfl) (by kernel_rfl) (by kernel_rfl) (fun _ _ d _ _ h => by cases d <;> exact h) (fun W hS => by kernel_rfl) hS3 ?_
      simp only [Act.put, List.setIfInBounds_toArray, List.set_cons_zero, List.set_cons_succ]
      obtain ⟨Xe, hst, bE, onE⟩ := box_store (ty := 39) (n := 17) (fun w => by kernel_rfl) hz3 rfl (kC (lcp p q)) (kC_length _) (kC_one _)
      have hSE : CmS w p q Xe := ⟨(onE.other _ (by omega)).trans hS3.1, (onE.other _ (by omega)).trans hS3.2.1, (onE.other _ (by omega)).trans hS3.2.2⟩
      refine all_one (i := 17) (by kernel_rfl) rfl rfl ?_
      refine wp_storeA (.tmp 5) (.tmp 21) 39 rfl rfl rfl rfl hst ⟨hSE, ?_⟩
      refine take_one (i := 18) (d := some 6) (v := .int .i64 0) rfl rfl rfl (by kernel_rfl) (by kernel_rfl) (by kernel_rfl) (fun _ _ d _ _ h => by cases d <;> exact h) (fun W hS => ex_asgT 22 rfl rfl) hSE ?_
      simp only [Act.put, List.setIfInBounds_toArray, List.set_cons_zero, List.set_cons_succ]
      refine wpAnyH_done (by kernel_rfl) ?_ _
      obtain ⟨Xf, hst2, bF, onF⟩ := box_store (ty := 39) (n := 17) (fun w => by kernel_rfl) hSE.2.2 rfl (kC (lcp p q)) (kC_length _) (kC_one _)
      have HLD : Hid _ := kb_key (kb0 bE)
      have HST : Hid _ := hst2
      have HLV : Hid ((loadVar 39 ⟨w.heap.size + 2, 0, none⟩).run Try.prog Xf = .ok (KV (lcp p q)) Xf) := agg_loadVar (n := 17) (fun w => by kernel_rfl) (fun w => by kernel_rfl) (kC_length _) (CellsAt.of_blk bF)
      have HKB : Hid (Below w.heap.size w Xf) := (kB3.trans (onE.below (by omega))).trans (onF.below (by omega))
      clear onE onF bE bF hst hst2 hSE HL HC
      go_show
      go_wp2_with first
        | ((with_reducible show wpList _ _ _ _ _ _); refine armLv (.tmp 5) 39 rfl rfl rfl HLD.out ?_)
        | ((with_reducible show wpList _ _ _ _ _ _); refine armS (.tmp 4) (.tmp 23) 39 rfl rfl rfl rfl HST.out ?_)
      refine bodyPost_ret (res_cell1 Try.results83 rfl HLV.out) rfl ?_
      rw [← HQ.out]
      exact ⟨rfl, HKB.out⟩
  · refine wp_newX (d := some 5) (v := fun c => .pointer (some ⟨c, 0, none⟩)) (z := .cells zK.toArray 39) rfl (by kernel_rfl) ?_
    rintro c X1 hc hz1 hb1
    have hcn : w.heap.size + 2 < c := by rw [hc]; exact (Array.getElem?_eq_some_iff.1 hS0.2.2).1
    have hS1 := CmS.keep hS0 hb1
    have kB1 := kB0.trans (hb1.mono kB0.size)
    refine ⟨hS1, ?_⟩
    simp only [Act.put, List.setIfInBounds_toArray, List.set_cons_zero, List.set_cons_succ]
    refine all_one (i := 10) (by kernel_rfl) rfl rfl ?_
    refine wp_call (d := some 18) 85 _ rfl (by kernel_rfl) (HL.out _) ?_
    rintro _ X2 ⟨L, rfl, hm, hb2⟩
    have hS2 := CmS.keep hS1 hb2
    have kB2 := kB1.trans (hb2.mono kB1.size)
    have hz2 := blk_kept hz1 hb2
    refine ⟨hS2, ?_⟩
    simp only [Act.put, List.setIfInBounds_toArray, List.set_cons_zero, List.set_cons_succ]
    refine all_one (i := 11) (by kernel_rfl) rfl rfl ?_
    refine wp_effX (d := some 19) (v := .int .i64 ((lcp p q).length : Nat)) rfl (ex_min3 11 13 18 rfl rfl rfl rfl hm) ⟨hS2, ?_⟩
    simp only [Act.put, List.setIfInBounds_toArray, List.set_cons_zero, List.set_cons_succ]
    refine all_one (i := 12) (by kernel_rfl) rfl rfl ?_
    refine wp_call (d := some 20) 79 _ rfl (by kernel_rfl) (callR (HC.out _)) ?_
    rintro _ X3 ⟨rfl, hb3⟩
    have hS3 := CmS.keep hS2 hb3
    have kB3 := kB2.trans (hb3.mono kB2.size)
    have hz3 := blk_kept hz2 hb3
    refine ⟨hS3, ?_⟩
    simp only [Act.put, List.setIfInBounds_toArray, List.set_cons_zero, List.set_cons_succ]
    refine take_one (i := 13) (d := some 7) (v := .tuple #[KV (lcp p q), .int .i64 0]) rfl rfl rfl (by kernel_rfl) (by kernel_rfl) (by kernel_rfl) (fun _ _ d _ _ h => by cases d <;> exact h) (fun W hS => ex_moveA (.tmp 20) rfl rfl) hS3 ?_
    simp only [Act.put, List.setIfInBounds_toArray, List.set_cons_zero, List.set_cons_succ]
    refine take_one (i := 14) (d := some 21) (v := KV (lcp p q)) rfl rfl rfl (by kernel_rfl) (by kernel_rfl) (by kernel_rfl) (fun _ _ d _ _ h => by cases d <;> exact h) (fun W hS => by kernel_rfl) hS3 ?_
    simp only [Act.put, List.setIfInBounds_toArray, List.set_cons_zero, List.set_cons_succ]
    refine take_one (i := 15) (d := some 22) (v := .int .i64 0) rfl rfl rfl (by kernel_rfl) (by kernel_rfl) (by kernel_rfl) (fun _ _ d _ _ h => by cases d <;> exact h) (fun W hS => by kernel_rfl) hS3 ?_
    simp only [Act.put, List.setIfInBounds_toArray, List.set_cons_zero, List.set_cons_succ]
    obtain ⟨Xe, hst, bE, onE⟩ := box_store (ty := 39) (n := 17) (fun w => by kernel_rfl) hz3 rfl (kC (lcp p q)) (kC_length _) (kC_one _)
    have hSE : CmS w p q Xe := ⟨(onE.other _ (by omega)).trans hS3.1, (onE.other _ (by omega)).trans hS3.2.1, (onE.other _ (by omega)).trans hS3.2.2⟩
    refine all_one (i := 17) (by kernel_rfl) rfl rfl ?_
    refine wp_storeA (.tmp 5) (.tmp 21) 39 rfl rfl rfl rfl hst ⟨hSE, ?_⟩
    refine take_one (i := 18) (d := some 6) (v := .int .i64 0) rfl rfl rfl (by kernel_rfl) (by kernel_rfl) (by kernel_rfl) (fun _ _ d _ _ h => by cases d <;> exact h) (fun W hS => ex_asgT 22 rfl rfl) hSE ?_
    simp only [Act.put, List.setIfInBounds_toArray, List.set_cons_zero, List.set_cons_succ]
    refine wpAnyH_done (by kernel_rfl) ?_ _
    obtain ⟨Xf, hst2, bF, onF⟩ := box_store (ty := 39) (n := 17) (fun w => by kernel_rfl) hSE.2.2 rfl (kC (lcp p q)) (kC_length _) (kC_one _)
    have HLD : Hid _ := kb_key (kb0 bE)
    have HST : Hid _ := hst2
    have HLV : Hid ((loadVar 39 ⟨w.heap.size + 2, 0, none⟩).run Try.prog Xf = .ok (KV (lcp p q)) Xf) := agg_loadVar (n := 17) (fun w => by kernel_rfl) (fun w => by kernel_rfl) (kC_length _) (CellsAt.of_blk bF)
    have HKB : Hid (Below w.heap.size w Xf) := (kB3.trans (onE.below (by omega))).trans (onF.below (by omega))
    clear onE onF bE bF hst hst2 hSE HL HC
    go_show
    go_wp2_with first
      | ((with_reducible show wpList _ _ _ _ _ _); refine armLv (.tmp 5) 39 rfl rfl rfl HLD.out ?_)
      | ((with_reducible show wpList _ _ _ _ _ _); refine armS (.tmp 4) (.tmp 23) 39 rfl rfl rfl rfl HST.out ?_)
    refine bodyPost_ret (res_cell1 Try.results83 rfl HLV.out) rfl ?_
    rw [← HQ.out]
    exact ⟨rfl, HKB.out⟩
end Go.Proofs.Ytenahbdopgmpfaa

namespace Go.Proofs.Ytenahbdopgmpfaa
open Go Go.RowKit Go.Shelf
set_option linter.unusedVariables false
set_option linter.unusedSimpArgs false

theorem build_fk (k : Bs) (w : World) : (Instr.build 117 #[(0, KV k)]).run Try.prog w = .ok (FK k .nilIface .nilIface .nilIface) w := by kernel_rfl
def NodeV (v : Value) : Prop := v = .nilIface ∨ ∃ t x, v = .iface t x
theorem enc_node (t : Tr) : NodeV (enc t) := by
  cases t with
  | nil => exact .inl rfl
  | leaf k v => exact .inr ⟨_, _, rfl⟩
  | fork k a b c => exact .inr ⟨_, _, rfl⟩
theorem st_node {W : World} {b j : Nat} {c : List Value} {t : TypeId} (h : W.heap[b]? = some (.cells c.toArray t)) (hj : j < c.length) {v : Value} (hv : NodeV v) : (Instr.storeAt 74 (.pointer (some ⟨b, j, none⟩)) v).run Try.prog W = .ok () (W.setCell ⟨b, j, none⟩ v) := by
  have h1 : W.cell? ⟨b, j, none⟩ = some (c[j]'hj) := blk_cell h (by simp)
  have h2 := blk_open h j
  rcases hv with rfl | ⟨x, y, rfl⟩ <;> simp [Instr.storeAt, go_sem, h1, h2]
theorem fk_set {W : World} {b s : Nat} {k : Bs} {x y z : Value} {t : TypeId} (h : W.heap[b]? = some (.cells (fkC k x y z).toArray t)) (hs : s < 3) (u : Value) :
    (W.setCell ⟨b, 17 + s, none⟩ u).heap[b]? = some (.cells (fkC k (if s = 0 then u else x) (if s = 1 then u else y) (if s = 2 then u else z)).toArray t) := by
  rw [blk_set h]
  have e : (fkC k x y z).set (17 + s) u = fkC k (if s = 0 then u else x) (if s = 1 then u else y) (if s = 2 then u else z) := by
    unfold fkC
    rw [List.set_append_right _ _ (by rw [kC_length]; omega), kC_length]
    rcases (by omega : s = 0 ∨ s = 1 ∨ s = 2) with rfl | rfl | rfl <;> rfl
  rw [e]
theorem ex_ixK {o : Oper} {a : Act} {W : World} (i j : Nat) {b n : Nat} (hop : o.op = Op.indexAddr 115 (.tmp i) (.tmp j)) (hi : a.eval (.tmp i) = .pointer (some ⟨b, 17, none⟩)) (hj : a.eval (.tmp j) = .int .i64 (n : Int)) (hn : n < 3) :
    (execOp a.eval o).run Try.prog W = .ok (.value (.pointer (some ⟨b, 17 + n, none⟩))) W := by
  generalize a.eval = ev at *
  rcases (by omega : n = 0 ∨ n = 1 ∨ n = 2) with rfl | rfl | rfl <;> (simp only [execOp, hop, hi, hj]; kernel_rfl)
def TopOf (N : Value) (k : Bs) : Prop := ∃ g vs, (∀ (o : Oper) (a : Act) (W : World) (i : Nat), o.op = Op.call { callee := Callee.invoke (.tmp i) "ferryman/trie.top", args := #[], argTypes := #[] } → a.eval (.tmp i) = N → (execOp a.eval o).run Try.prog W = .ok (.enter g vs) W) ∧ ∀ W, Calls Try.prog g vs W fun e w' => e = .returned (KV k) ∧ Below W.heap.size W w'
theorem top_of (t : Tr) (h : t.isNil = false) : TopOf (enc t) t.top := by
  cases t with
  | nil => simp [Tr.isNil] at h
  | leaf k v =>
    refine ⟨105, #[LF k v], fun o a W i hop hi => ?_, fun W => leaf_top k v W⟩
    generalize a.eval = ev at *
    simp [execOp, hop, hi, resolve, invoke, enc, Result.andThen]
    kernel_rfl
  | fork k a b c =>
    refine ⟨106, #[FK k (enc a) (enc b) (enc c)], fun o a W i hop hi => ?_, fun W => fork_top k _ _ _ W⟩
    generalize a.eval = ev at *
    simp [execOp, hop, hi, resolve, invoke, enc, Result.andThen]
    kernel_rfl

set_option maxHeartbeats 8000000 in
set_option maxRecDepth 100000 in
theorem parted_calls (N : Value) (T : Bs) (hN : NodeV N) (hT : TopOf N T) (hl : T.length ≤ 128) (k : Bs) (v : Int) (hk : k.length ≤ 128) (w : World) :
    Calls Try.prog 78 #[N, LF k v] w fun e w' => e = .returned (.iface 117 (FK (lcp T k)
      (if Tr.sd (lcp T k) k = 0 then .iface 85 (LF k v) else if Tr.sd (lcp T k) T = 0 then N else .nilIface) (if Tr.sd (lcp T k) k = 1 then .iface 85 (LF k v) else if Tr.sd (lcp T k) T = 1 then N else .nilIface) (if Tr.sd (lcp T k) k = 2 then .iface 85 (LF k v) else if Tr.sd (lcp T k) T = 2 then N else .nilIface))) ∧ Below w.heap.size w w' := by
  have l1 := (lcp_fst T k).length_le
  have l2 := (lcp_snd T k).length_le
  have HC : Hid _ := fun W => common_any T k hl hk W
  have HD1 : Hid _ := fun x y z W => side_any (lcp T k) T x y z hl (by omega) (fun h => by omega) W
  have HD2 : Hid _ := fun x y z W => side_any (lcp T k) k x y z hk (by omega) (fun h => by omega) W
  have hs1 := Tr.sd_lt (lcp T k) T
  have hs2 := Tr.sd_lt (lcp T k) k
  generalize Tr.sd (lcp T k) T = s1 at *
  generalize Tr.sd (lcp T k) k = s2 at *
  generalize lcp T k = F at *
  clear l1 l2 hl hk
  obtain ⟨g, vs, hinv, ht⟩ := hT
  have HT : Hid _ := ht
  clear ht
  generalize hQ : (fun (e : Ending) (w' : World) => e = .returned (.iface 117 (FK F (if s2 = 0 then .iface 85 (LF k v) else if s1 = 0 then N else .nilIface) (if s2 = 1 then .iface 85 (LF k v) else if s1 = 1 then N else .nilIface) (if s2 = 2 then .iface 85 (LF k v) else if s1 = 2 then N else .nilIface))) ∧ Below w.heap.size w w') = Q
  have HQ : Hid ((fun (e : Ending) (w' : World) => e = .returned (.iface 117 (FK F (if s2 = 0 then .iface 85 (LF k v) else if s1 = 0 then N else .nilIface) (if s2 = 1 then .iface 85 (LF k v) else if s1 = 1 then N else .nilIface) (if s2 = 2 then .iface 85 (LF k v) else if s1 = 2 then N else .nilIface))) ∧ Below w.heap.size w w') = Q) := hQ
  clear hQ
  have hB : Below w.heap.size w (w.alloc (.cells (lfC k v).toArray 85)) := (Below.refl _ w).alloc (Nat.le_refl _) _
  have b0 := blk_new w (.cells (lfC k v).toArray 85)
  generalize hW : w.alloc (.cells (lfC k v).toArray 85) = W at *
  have HW : Hid (w.alloc (.cells (lfC k v).toArray 85) = W) := hW
  have HI : Hid _ := b0
  have HB : Hid _ := hB
  clear hW hB b0
  go_enter Try.func78, Try.ntmps78
  go_wp2_with fail
  rw [HW.out]
  refine wp_region_held (S := fun X => X.heap[w.heap.size]? = some (.cells (lfC k v).toArray 85)) (by kernel_rfl) ?_
  show wpAnyH _ _ _ _ _ 8 (Array.replicate 8 false) _ W.drew
  have hS0 : W.drew.heap[w.heap.size]? = some (.cells (lfC k v).toArray 85) := HI.out
  have kB0 : Below w.heap.size w W.drew := HB.out.trans ((Below.refl _ W).drew.mono HB.out.size)
  generalize W.drew = X0 at *
  refine take_one (i := 0) (d := some 6) (v := N) rfl rfl rfl (by kernel_rfl) (by kernel_rfl) (by kernel_rfl) (fun _ _ d _ _ h => by cases d <;> exact h) (fun W hS => ex_moveA (.tmp 0) rfl rfl) hS0 ?_
  simp only [Act.put, List.setIfInBounds_toArray, List.set_cons_zero, List.set_cons_succ]
  refine take_one (i := 2) (d := some 8) (v := .pointer (some ⟨w.heap.size, 0, none⟩)) rfl rfl rfl (by kernel_rfl) (by kernel_rfl) (by kernel_rfl) (fun _ _ d _ _ h => by cases d <;> exact h) (fun W hS => by kernel_rfl) hS0 ?_
  simp only [Act.put, List.setIfInBounds_toArray, List.set_cons_zero, List.set_cons_succ]
  refine take_one (i := 3) (d := some 9) (v := KV k) rfl rfl rfl (by kernel_rfl) (by kernel_rfl) (by kernel_rfl) (fun _ _ d _ _ h => by cases d <;> exact h) (fun W hS => ex_loadA (.tmp 8) 39 rfl rfl (kb_key (r := [.int .i64 v]) hS)) hS0 ?_
  simp only [Act.put, List.setIfInBounds_toArray, List.set_cons_zero, List.set_cons_succ]
  refine all_two (i1 := 1) (i2 := 6) (by kernel_rfl) rfl rfl rfl rfl ?_ ?_
  · refine wp_call (d := some 7) g vs rfl (hinv _ _ _ 6 rfl rfl) (callR (HT.out _)) ?_
    rintro _ X1 ⟨rfl, hb1⟩
    have hS1 := blk_kept hS0 hb1
    have kB1 := kB0.trans (hb1.mono kB0.size)
    refine ⟨hS1, ?_⟩
    simp only [Act.put, List.setIfInBounds_toArray, List.set_cons_zero, List.set_cons_succ]
    refine all_two (i1 := 4) (i2 := 6) (by kernel_rfl) rfl rfl rfl rfl ?_ ?_
    · refine wp_call (d := some 10) 83 _ rfl (by kernel_rfl) (callR (HC.out _)) ?_
      rintro _ X2 ⟨rfl, hb2⟩
      have hS2 := blk_kept hS1 hb2
      have kB2 := kB1.trans (hb2.mono kB1.size)
      refine ⟨hS2, ?_⟩
      simp only [Act.put, List.setIfInBounds_toArray, List.set_cons_zero, List.set_cons_succ]
      refine take_one (i := 5) (d := some 11) (v := FK F .nilIface .nilIface .nilIface) rfl rfl rfl (by kernel_rfl) (by kernel_rfl) (by kernel_rfl) (fun _ _ d _ _ h => by cases d <;> exact h) (fun W hS => ex_buildA 117 [(0, .tmp 10)] rfl rfl (build_fk F W)) hS2 ?_
      simp only [Act.put, List.setIfInBounds_toArray, List.set_cons_zero, List.set_cons_succ]
      refine all_one (i := 6) (by kernel_rfl) rfl rfl ?_
      refine wp_newX (d := some 5) (v := fun c => .pointer (some ⟨c, 0, none⟩)) (z := .cells zF.toArray 117) rfl (by kernel_rfl) ?_
      rintro c X3 hc hz3 hb3
      have hcn : w.heap.size < c := by rw [hc]; exact (Array.getElem?_eq_some_iff.1 hS2).1
      have hS3 := blk_kept hS2 hb3
      have kB3 := kB2.trans (hb3.mono kB2.size)
      refine ⟨hS3, ?_⟩
      simp only [Act.put, List.setIfInBounds_toArray, List.set_cons_zero, List.set_cons_succ]
      obtain ⟨Xe, hst, bE, onE⟩ := box_store (ty := 117) (n := 20) (fun w => by kernel_rfl) hz3 rfl (fkC F .nilIface .nilIface .nilIface) (fkC_length _ _ _ _) (fkC_one _ rfl rfl rfl)
      have hSE := (onE.other w.heap.size (by omega)).trans hS3
      have kBE := kB3.trans (onE.below (show w.heap.size ≤ c by omega))
      refine all_one (i := 7) (by kernel_rfl) rfl rfl ?_
      refine wp_storeA (.tmp 5) (.tmp 11) 117 rfl rfl rfl rfl hst ⟨hSE, ?_⟩
      refine wpAnyH_done (by kernel_rfl) ?_ _
      have HSE : Hid _ := hSE
      have HBE : Hid _ := bE
      have HKE : Hid _ := kBE
      clear onE hst bE hSE kBE
      go_show
      go_wp2_with fail
      refine wp_region_held (S := (fun X => X.heap[w.heap.size]? = some (.cells (lfC k v).toArray 85) ∧ ∃ x y z, X.heap[c]? = some (.cells (fkC F x y z).toArray 117))) (by kernel_rfl) ?_
      show wpAnyH _ _ _ _ _ 8 (Array.replicate 8 false) _ Xe.drew
      have hL0 : Xe.drew.heap[w.heap.size]? = some (.cells (lfC k v).toArray 85) := HSE.out
      have hF0 : Xe.drew.heap[c]? = some (.cells (fkC F .nilIface .nilIface .nilIface).toArray 117) := HBE.out
      have kA0 : Below w.heap.size w Xe.drew := HKE.out.trans ((Below.refl _ Xe).drew.mono HKE.out.size)
      generalize Xe.drew = Y0 at *
      refine take_one (i := 1) (d := some 13) (v := N) rfl rfl rfl (by kernel_rfl) (by kernel_rfl) (by kernel_rfl) (fun _ _ d _ _ h => by cases d <;> exact h) (fun W hS => ex_moveA (.tmp 0) rfl rfl) ⟨hL0, _, _, _, hF0⟩ ?_
      simp only [Act.put, List.setIfInBounds_toArray, List.set_cons_zero, List.set_cons_succ]
      refine take_one (i := 4) (d := some 16) (v := N) rfl rfl rfl (by kernel_rfl) (by kernel_rfl) (by kernel_rfl) (fun _ _ d _ _ h => by cases d <;> exact h) (fun W hS => ex_moveA (.tmp 0) rfl rfl) ⟨hL0, _, _, _, hF0⟩ ?_
      simp only [Act.put, List.setIfInBounds_toArray, List.set_cons_zero, List.set_cons_succ]
      refine take_one (i := 5) (d := some 17) (v := .pointer (some ⟨c, 17, none⟩)) rfl rfl rfl (by kernel_rfl) (by kernel_rfl) (by kernel_rfl) (fun _ _ d _ _ h => by cases d <;> exact h) (fun W hS => by kernel_rfl) ⟨hL0, _, _, _, hF0⟩ ?_
      simp only [Act.put, List.setIfInBounds_toArray, List.set_cons_zero, List.set_cons_succ]
      refine all_two (i1 := 0) (i2 := 2) (by kernel_rfl) rfl rfl rfl rfl ?_ ?_
      · refine wp_effX (d := some 12) (v := FK F .nilIface .nilIface .nilIface) rfl (ex_loadA (.tmp 5) 117 rfl rfl (fk_load hF0)) ⟨⟨hL0, _, _, _, hF0⟩, ?_⟩
        simp only [Act.put, List.setIfInBounds_toArray, List.set_cons_zero, List.set_cons_succ]
        refine all_one (i := 2) (by kernel_rfl) rfl rfl ?_
        refine wp_call (d := some 14) g vs rfl (hinv _ _ _ 13 rfl rfl) (callR (HT.out _)) ?_
        rintro _ Y1 ⟨rfl, hy1⟩
        have hL1 := blk_kept hL0 hy1
        have hF1 := blk_kept hF0 hy1
        have kA1 := kA0.trans (hy1.mono kA0.size)
        refine ⟨⟨hL1, _, _, _, hF1⟩, ?_⟩
        simp only [Act.put, List.setIfInBounds_toArray, List.set_cons_zero, List.set_cons_succ]
        refine all_one (i := 3) (by kernel_rfl) rfl rfl ?_
        refine wp_call (d := some 15) 77 _ rfl (by kernel_rfl) (callR (HD1.out .nilIface .nilIface .nilIface _)) ?_
        rintro _ Y2 ⟨rfl, hy2⟩
        have hL2 := blk_kept hL1 hy2
        have hF2 := blk_kept hF1 hy2
        have kA2 := kA1.trans (hy2.mono kA1.size)
        refine ⟨⟨hL2, _, _, _, hF2⟩, ?_⟩
        simp only [Act.put, List.setIfInBounds_toArray, List.set_cons_zero, List.set_cons_succ]
        refine take_one (i := 6) (d := some 18) (v := .pointer (some ⟨c, 17 + s1, none⟩)) rfl rfl rfl (by kernel_rfl) (by kernel_rfl) (by kernel_rfl) (fun _ _ d _ _ h => by cases d <;> exact h) (fun W hS => ex_ixK 17 15 rfl rfl rfl hs1) ⟨hL2, _, _, _, hF2⟩ ?_
        simp only [Act.put, List.setIfInBounds_toArray, List.set_cons_zero, List.set_cons_succ]
        have hst3 := st_node hF2 (show 17 + s1 < _ by rw [fkC_length]; omega) hN
        have bG := fk_set hF2 hs1 N
        have onG : Only c Y2 (Y2.setCell ⟨c, 17 + s1, none⟩ N) := (Only.refl _ Y2).set _ _
        have hSG := (onG.other w.heap.size (by omega)).trans hL2
        have kG := kA2.trans (onG.below (show w.heap.size ≤ c by omega))
        refine all_one (i := 7) (by kernel_rfl) rfl rfl ?_
        refine wp_storeA (.tmp 18) (.tmp 16) 74 rfl rfl rfl rfl hst3 ⟨⟨hSG, _, _, _, bG⟩, ?_⟩
        refine wpAnyH_done (by kernel_rfl) ?_ _
        generalize Y2.setCell ⟨c, 17 + s1, none⟩ N = Z at *
        have HSG : Hid _ := hSG
        have HBG : Hid _ := bG
        have HKG : Hid _ := kG
        clear hst3 onG bG hSG kG
        generalize (if s1 = 0 then N else Value.nilIface) = x1 at *
        generalize (if s1 = 1 then N else Value.nilIface) = y1 at *
        generalize (if s1 = 2 then N else Value.nilIface) = z1 at *
        go_show
        go_wp2_with fail
        refine wp_region_held (S := (fun X => X.heap[w.heap.size]? = some (.cells (lfC k v).toArray 85) ∧ ∃ x y z, X.heap[c]? = some (.cells (fkC F x y z).toArray 117))) (by kernel_rfl) ?_
        show wpAnyH _ _ _ _ _ 9 (Array.replicate 9 false) _ Z.drew
        have mL : Z.drew.heap[w.heap.size]? = some (.cells (lfC k v).toArray 85) := HSG.out
        have mF : Z.drew.heap[c]? = some (.cells (fkC F x1 y1 z1).toArray 117) := HBG.out
        have mB : Below w.heap.size w Z.drew := HKG.out.trans ((Below.refl _ Z).drew.mono HKG.out.size)
        generalize Z.drew = U0 at *
        refine take_one (i := 1) (d := some 20) (v := .pointer (some ⟨w.heap.size, 0, none⟩)) rfl rfl rfl (by kernel_rfl) (by kernel_rfl) (by kernel_rfl) (fun _ _ d _ _ h => by cases d <;> exact h) (fun W hS => by kernel_rfl) ⟨mL, _, _, _, mF⟩ ?_
        simp only [Act.put, List.setIfInBounds_toArray, List.set_cons_zero, List.set_cons_succ]
        refine take_one (i := 2) (d := some 21) (v := KV k) rfl rfl rfl (by kernel_rfl) (by kernel_rfl) (by kernel_rfl) (fun _ _ d _ _ h => by cases d <;> exact h) (fun W hS => ex_loadA (.tmp 20) 39 rfl rfl (kb_key (r := [.int .i64 v]) hS.1)) ⟨mL, _, _, _, mF⟩ ?_
        simp only [Act.put, List.setIfInBounds_toArray, List.set_cons_zero, List.set_cons_succ]
        refine take_one (i := 4) (d := some 23) (v := LF k v) rfl rfl rfl (by kernel_rfl) (by kernel_rfl) (by kernel_rfl) (fun _ _ d _ _ h => by cases d <;> exact h) (fun W hS => ex_loadA (.tmp 3) 85 rfl rfl (lf_load hS.1)) ⟨mL, _, _, _, mF⟩ ?_
        simp only [Act.put, List.setIfInBounds_toArray, List.set_cons_zero, List.set_cons_succ]
        refine take_one (i := 5) (d := some 24) (v := .iface 85 (LF k v)) rfl rfl rfl (by kernel_rfl) (by kernel_rfl) (by kernel_rfl) (fun _ _ d _ _ h => by cases d <;> exact h) (fun W hS => by kernel_rfl) ⟨mL, _, _, _, mF⟩ ?_
        simp only [Act.put, List.setIfInBounds_toArray, List.set_cons_zero, List.set_cons_succ]
        refine take_one (i := 6) (d := some 25) (v := .pointer (some ⟨c, 17, none⟩)) rfl rfl rfl (by kernel_rfl) (by kernel_rfl) (by kernel_rfl) (fun _ _ d _ _ h => by cases d <;> exact h) (fun W hS => by kernel_rfl) ⟨mL, _, _, _, mF⟩ ?_
        simp only [Act.put, List.setIfInBounds_toArray, List.set_cons_zero, List.set_cons_succ]
        refine all_one (i := 0) (by kernel_rfl) rfl rfl ?_
        refine wp_effX (d := some 19) (v := FK F x1 y1 z1) rfl (ex_loadA (.tmp 5) 117 rfl rfl (fk_load mF)) ⟨⟨mL, _, _, _, mF⟩, ?_⟩
        simp only [Act.put, List.setIfInBounds_toArray, List.set_cons_zero, List.set_cons_succ]
        refine all_one (i := 3) (by kernel_rfl) rfl rfl ?_
        refine wp_call (d := some 22) 77 _ rfl (by kernel_rfl) (callR (HD2.out x1 y1 z1 _)) ?_
        rintro _ U1 ⟨rfl, hu1⟩
        have mL1 := blk_kept mL hu1
        have mF1 := blk_kept mF hu1
        have mB1 := mB.trans (hu1.mono mB.size)
        refine ⟨⟨mL1, _, _, _, mF1⟩, ?_⟩
        simp only [Act.put, List.setIfInBounds_toArray, List.set_cons_zero, List.set_cons_succ]
        refine take_one (i := 7) (d := some 26) (v := .pointer (some ⟨c, 17 + s2, none⟩)) rfl rfl rfl (by kernel_rfl) (by kernel_rfl) (by kernel_rfl) (fun _ _ d _ _ h => by cases d <;> exact h) (fun W hS => ex_ixK 25 22 rfl rfl rfl hs2) ⟨mL1, _, _, _, mF1⟩ ?_
        simp only [Act.put, List.setIfInBounds_toArray, List.set_cons_zero, List.set_cons_succ]
        have hst4 := st_node mF1 (show 17 + s2 < _ by rw [fkC_length]; omega) (show NodeV (.iface 85 (LF k v)) from .inr ⟨_, _, rfl⟩)
        have bH := fk_set mF1 hs2 (.iface 85 (LF k v))
        have onH : Only c U1 (U1.setCell ⟨c, 17 + s2, none⟩ (.iface 85 (LF k v))) := (Only.refl _ U1).set _ _
        have hSH := (onH.other w.heap.size (by omega)).trans mL1
        have kH := mB1.trans (onH.below (show w.heap.size ≤ c by omega))
        refine all_one (i := 8) (by kernel_rfl) rfl rfl ?_
        refine wp_storeA (.tmp 26) (.tmp 24) 74 rfl rfl rfl rfl hst4 ⟨⟨hSH, _, _, _, bH⟩, ?_⟩
        refine wpAnyH_done (by kernel_rfl) ?_ _
        generalize U1.setCell ⟨c, 17 + s2, none⟩ (.iface 85 (LF k v)) = V at *
        have HLD : Hid _ := fk_load bH
        have HKH : Hid _ := kH
        clear hst4 onH bH hSH kH
        generalize (if s2 = 0 then Value.iface 85 (LF k v) else x1) = x2 at *
        generalize (if s2 = 1 then Value.iface 85 (LF k v) else y1) = y2 at *
        generalize (if s2 = 2 then Value.iface 85 (LF k v) else z1) = z2 at *
        go_show
        go_wp2_with first
          | ((with_reducible show wpList _ _ _ _ _ _); refine armLv (.tmp 5) 117 rfl rfl rfl HLD.out ?_)
        try go_ret
        rw [← HQ.out]
        exact ⟨rfl, HKH.out⟩
      · refine wp_call (d := some 14) g vs rfl (hinv _ _ _ 13 rfl rfl) (callR (HT.out _)) ?_
        rintro _ Y1 ⟨rfl, hy1⟩
        have hL1 := blk_kept hL0 hy1
        have hF1 := blk_kept hF0 hy1
        have kA1 := kA0.trans (hy1.mono kA0.size)
        refine ⟨⟨hL1, _, _, _, hF1⟩, ?_⟩
        simp only [Act.put, List.setIfInBounds_toArray, List.set_cons_zero, List.set_cons_succ]
        refine all_one (i := 0) (by kernel_rfl) rfl rfl ?_
        refine wp_effX (d := some 12) (v := FK F .nilIface .nilIface .nilIface) rfl (ex_loadA (.tmp 5) 117 rfl rfl (fk_load hF1)) ⟨⟨hL1, _, _, _, hF1⟩, ?_⟩
        simp only [Act.put, List.setIfInBounds_toArray, List.set_cons_zero, List.set_cons_succ]
        refine all_one (i := 3) (by kernel_rfl) rfl rfl ?_
        refine wp_call (d := some 15) 77 _ rfl (by kernel_rfl) (callR (HD1.out .nilIface .nilIface .nilIface _)) ?_
        rintro _ Y2 ⟨rfl, hy2⟩
        have hL2 := blk_kept hL1 hy2
        have hF2 := blk_kept hF1 hy2
        have kA2 := kA1.trans (hy2.mono kA1.size)
        refine ⟨⟨hL2, _, _, _, hF2⟩, ?_⟩
        simp only [Act.put, List.setIfInBounds_toArray, List.set_cons_zero, List.set_cons_succ]
        refine take_one (i := 6) (d := some 18) (v := .pointer (some ⟨c, 17 + s1, none⟩)) rfl rfl rfl (by kernel_rfl) (by kernel_rfl) (by kernel_rfl) (fun _ _ d _ _ h => by cases d <;> exact h) (fun W hS => ex_ixK 17 15 rfl rfl rfl hs1) ⟨hL2, _, _, _, hF2⟩ ?_
        simp only [Act.put, List.setIfInBounds_toArray, List.set_cons_zero, List.set_cons_succ]
        have hst3 := st_node hF2 (show 17 + s1 < _ by rw [fkC_length]; omega) hN
        have bG := fk_set hF2 hs1 N
        have onG : Only c Y2 (Y2.setCell ⟨c, 17 + s1, none⟩ N) := (Only.refl _ Y2).set _ _
        have hSG := (onG.other w.heap.size (by omega)).trans hL2
        have kG := kA2.trans (onG.below (show w.heap.size ≤ c by omega))
        refine all_one (i := 7) (by kernel_rfl) rfl rfl ?_
        refine wp_storeA (.tmp 18) (.tmp 16) 74 rfl rfl rfl rfl hst3 ⟨⟨hSG, _, _, _, bG⟩, ?_⟩
        refine wpAnyH_done (by kernel_rfl) ?_ _
        generalize Y2.setCell ⟨c, 17 + s1, none⟩ N = Z at *
        have HSG : Hid _ := hSG
        have HBG : Hid _ := bG
        have HKG : Hid _ := kG
        clear hst3 onG bG hSG kG
        generalize (if s1 = 0 then N else Value.nilIface) = x1 at *
        generalize (if s1 = 1 then N else Value.nilIface) = y1 at *
        generalize (if s1 = 2 then N else Value.nilIface) = z1 at *
        go_show
        go_wp2_with fail
        refine wp_region_held (S := (fun X => X.heap[w.heap.size]? = some (.cells (lfC k v).toArray 85) ∧ ∃ x y z, X.heap[c]? = some (.cells (fkC F x y z).toArray 117))) (by kernel_rfl) ?_
        show wpAnyH _ _ _ _ _ 9 (Array.replicate 9 false) _ Z.drew
        have mL : Z.drew.heap[w.heap.size]? = some (.cells (lfC k v).toArray 85) := HSG.out
        have mF : Z.drew.heap[c]? = some (.cells (fkC F x1 y1 z1).toArray 117) := HBG.out
        have mB : Below w.heap.size w Z.drew := HKG.out.trans ((Below.refl _ Z).drew.mono HKG.out.size)
        generalize Z.drew = U0 at *
        refine take_one (i := 1) (d := some 20) (v := .pointer (some ⟨w.heap.size, 0, none⟩)) rfl rfl rfl (by kernel_rfl) (by kernel_rfl) (by kernel_rfl) (fun _ _ d _ _ h => by cases d <;> exact h) (fun W hS => by kernel_rfl) ⟨mL, _, _, _, mF⟩ ?_
        simp only [Act.put, List.setIfInBounds_toArray, List.set_cons_zero, List.set_cons_succ]
        refine take_one (i := 2) (d := some 21) (v := KV k) rfl rfl rfl (by kernel_rfl) (by kernel_rfl) (by kernel_rfl) (fun _ _ d _ _ h => by cases d <;> exact h) (fun W hS => ex_loadA (.tmp 20) 39 rfl rfl (kb_key (r := [.int .i64 v]) hS.1)) ⟨mL, _, _, _, mF⟩ ?_
        simp only [Act.put, List.setIfInBounds_toArray, List.set_cons_zero, List.set_cons_succ]
        refine take_one (i := 4) (d := some 23) (v := LF k v) rfl rfl rfl (by kernel_rfl) (by kernel_rfl) (by kernel_rfl) (fun _ _ d _ _ h => by cases d <;> exact h) (fun W hS => ex_loadA (.tmp 3) 85 rfl rfl (lf_load hS.1)) ⟨mL, _, _, _, mF⟩ ?_
        simp only [Act.put, List.setIfInBounds_toArray, List.set_cons_zero, List.set_cons_succ]
        refine take_one (i := 5) (d := some 24) (v := .iface 85 (LF k v)) rfl rfl rfl (by kernel_rfl) (by kernel_rfl) (by kernel_rfl) (fun _ _ d _ _ h => by cases d <;> exact h) (fun W hS => by kernel_rfl) ⟨mL, _, _, _, mF⟩ ?_
        simp only [Act.put, List.setIfInBounds_toArray, List.set_cons_zero, List.set_cons_succ]
        refine take_one (i := 6) (d := some 25) (v := .pointer (some ⟨c, 17, none⟩)) rfl rfl rfl (by kernel_rfl) (by kernel_rfl) (by kernel_rfl) (fun _ _ d _ _ h => by cases d <;> exact h) (fun W hS => by kernel_rfl) ⟨mL, _, _, _, mF⟩ ?_
        simp only [Act.put, List.setIfInBounds_toArray, List.set_cons_zero, List.set_cons_succ]
        refine all_one (i := 0) (by kernel_rfl) rfl rfl ?_
        refine wp_effX (d := some 19) (v := FK F x1 y1 z1) rfl (ex_loadA (.tmp 5) 117 rfl rfl (fk_load mF)) ⟨⟨mL, _, _, _, mF⟩, ?_⟩
        simp only [Act.put, List.setIfInBounds_toArray, List.set_cons_zero, List.set_cons_succ]
        refine all_one (i := 3) (by kernel_rfl) rfl rfl ?_
        refine wp_call (d := some 22) 77 _ rfl (by kernel_rfl) (callR (HD2.out x1 y1 z1 _)) ?_
        rintro _ U1 ⟨rfl, hu1⟩
        have mL1 := blk_kept mL hu1
        have mF1 := blk_kept mF hu1
        have mB1 := mB.trans (hu1.mono mB.size)
        refine ⟨⟨mL1, _, _, _, mF1⟩, ?_⟩
        simp only [Act.put, List.setIfInBounds_toArray, List.set_cons_zero, List.set_cons_succ]
        refine take_one (i := 7) (d := some 26) (v := .pointer (some ⟨c, 17 + s2, none⟩)) rfl rfl rfl (by kernel_rfl) (by kernel_rfl) (by kernel_rfl) (fun _ _ d _ _ h => by cases d <;> exact h) (fun W hS => ex_ixK 25 22 rfl rfl rfl hs2) ⟨mL1, _, _, _, mF1⟩ ?_
        simp only [Act.put, List.setIfInBounds_toArray, List.set_cons_zero, List.set_cons_succ]
        have hst4 := st_node mF1 (show 17 + s2 < _ by rw [fkC_length]; omega) (show NodeV (.iface 85 (LF k v)) from .inr ⟨_, _, rfl⟩)
        have bH := fk_set mF1 hs2 (.iface 85 (LF k v))
        have onH : Only c U1 (U1.setCell ⟨c, 17 + s2, none⟩ (.iface 85 (LF k v))) := (Only.refl _ U1).set _ _
        have hSH := (onH.other w.heap.size (by omega)).trans mL1
        have kH := mB1.trans (onH.below (show w.heap.size ≤ c by omega))
        refine all_one (i := 8) (by kernel_rfl) rfl rfl ?_
        refine wp_storeA (.tmp 26) (.tmp 24) 74 rfl rfl rfl rfl hst4 ⟨⟨hSH, _, _, _, bH⟩, ?_⟩
        refine wpAnyH_done (by kernel_rfl) ?_ _
        generalize U1.setCell ⟨c, 17 + s2, none⟩ (.iface 85 (LF k v)) = V at *
        have HLD : Hid _ := fk_load bH
        have HKH : Hid _ := kH
        clear hst4 onH bH hSH kH
        generalize (if s2 = 0 then Value.iface 85 (LF k v) else x1) = x2 at *
        generalize (if s2 = 1 then Value.iface 85 (LF k v) else y1) = y2 at *
        generalize (if s2 = 2 then Value.iface 85 (LF k v) else z1) = z2 at *
        go_show
        go_wp2_with first
          | ((with_reducible show wpList _ _ _ _ _ _); refine armLv (.tmp 5) 117 rfl rfl rfl HLD.out ?_)
        try go_ret
        rw [← HQ.out]
        exact ⟨rfl, HKH.out⟩
    · refine wp_newX (d := some 5) (v := fun c => .pointer (some ⟨c, 0, none⟩)) (z := .cells zF.toArray 117) rfl (by kernel_rfl) ?_
      rintro c X2 hc hz2 hb2
      have hcn : w.heap.size < c := by rw [hc]; exact (Array.getElem?_eq_some_iff.1 hS1).1
      have hS2 := blk_kept hS1 hb2
      have kB2 := kB1.trans (hb2.mono kB1.size)
      refine ⟨hS2, ?_⟩
      simp only [Act.put, List.setIfInBounds_toArray, List.set_cons_zero, List.set_cons_succ]
      refine all_one (i := 4) (by kernel_rfl) rfl rfl ?_
      refine wp_call (d := some 10) 83 _ rfl (by kernel_rfl) (callR (HC.out _)) ?_
      rintro _ X3 ⟨rfl, hb3⟩
      have hS3 := blk_kept hS2 hb3
      have kB3 := kB2.trans (hb3.mono kB2.size)
      have hz3 := blk_kept hz2 hb3
      refine ⟨hS3, ?_⟩
      simp only [Act.put, List.setIfInBounds_toArray, List.set_cons_zero, List.set_cons_succ]
      refine take_one (i := 5) (d := some 11) (v := FK F .nilIface .nilIface .nilIface) rfl rfl rfl (by kernel_rfl) (by kernel_rfl) (by kernel_rfl) (fun _ _ d _ _ h => by cases d <;> exact h) (fun W hS => ex_buildA 117 [(0, .tmp 10)] rfl rfl (build_fk F W)) hS3 ?_
      simp only [Act.put, List.setIfInBounds_toArray, List.set_cons_zero, List.set_cons_succ]
      obtain ⟨Xe, hst, bE, onE⟩ := box_store (ty := 117) (n := 20) (fun w => by kernel_rfl) hz3 rfl (fkC F .nilIface .nilIface .nilIface) (fkC_length _ _ _ _) (fkC_one _ rfl rfl rfl)
      have hSE := (onE.other w.heap.size (by omega)).trans hS3
      have kBE := kB3.trans (onE.below (show w.heap.size ≤ c by omega))
      refine all_one (i := 7) (by kernel_rfl) rfl rfl ?_
      refine wp_storeA (.tmp 5) (.tmp 11) 117 rfl rfl rfl rfl hst ⟨hSE, ?_⟩
      refine wpAnyH_done (by kernel_rfl) ?_ _
      have HSE : Hid _ := hSE
      have HBE : Hid _ := bE
      have HKE : Hid _ := kBE
      clear onE hst bE hSE kBE
      go_show
      go_wp2_with fail
      refine wp_region_held (S := (fun X => X.heap[w.heap.size]? = some (.cells (lfC k v).toArray 85) ∧ ∃ x y z, X.heap[c]? = some (.cells (fkC F x y z).toArray 117))) (by kernel_rfl) ?_
      show wpAnyH _ _ _ _ _ 8 (Array.replicate 8 false) _ Xe.drew
      have hL0 : Xe.drew.heap[w.heap.size]? = some (.cells (lfC k v).toArray 85) := HSE.out
      have hF0 : Xe.drew.heap[c]? = some (.cells (fkC F .nilIface .nilIface .nilIface).toArray 117) := HBE.out
      have kA0 : Below w.heap.size w Xe.drew := HKE.out.trans ((Below.refl _ Xe).drew.mono HKE.out.size)
      generalize Xe.drew = Y0 at *
      refine take_one (i := 1) (d := some 13) (v := N) rfl rfl rfl (by kernel_rfl) (by kernel_rfl) (by kernel_rfl) (fun _ _ d _ _ h => by cases d <;> exact h) (fun W hS => ex_moveA (.tmp 0) rfl rfl) ⟨hL0, _, _, _, hF0⟩ ?_
      simp only [Act.put, List.setIfInBounds_toArray, List.set_cons_zero, List.set_cons_succ]
      refine take_one (i := 4) (d := some 16) (v := N) rfl rfl rfl (by kernel_rfl) (by kernel_rfl) (by kernel_rfl) (fun _ _ d _ _ h => by cases d <;> exact h) (fun W hS => ex_moveA (.tmp 0) rfl rfl) ⟨hL0, _, _, _, hF0⟩ ?_
      simp only [Act.put, List.setIfInBounds_toArray, List.set_cons_zero, List.set_cons_succ]
      refine take_one (i := 5) (d := some 17) (v := .pointer (some ⟨c, 17, none⟩)) rfl rfl rfl (by kernel_rfl) (by kernel_rfl) (by kernel_rfl) (fun _ _ d _ _ h => by cases d <;> exact h) (fun W hS => by kernel_rfl) ⟨hL0, _, _, _, hF0⟩ ?_
      simp only [Act.put, List.setIfInBounds_toArray, List.set_cons_zero, List.set_cons_succ]
      refine all_two (i1 := 0) (i2 := 2) (by kernel_rfl) rfl rfl rfl rfl ?_ ?_
      · refine wp_effX (d := some 12) (v := FK F .nilIface .nilIface .nilIface) rfl (ex_loadA (.tmp 5) 117 rfl rfl (fk_load hF0)) ⟨⟨hL0, _, _, _, hF0⟩, ?_⟩
        simp only [Act.put, List.setIfInBounds_toArray, List.set_cons_zero, List.set_cons_succ]
        refine all_one (i := 2) (by kernel_rfl) rfl rfl ?_
        refine wp_call (d := some 14) g vs rfl (hinv _ _ _ 13 rfl rfl) (callR (HT.out _)) ?_
        rintro _ Y1 ⟨rfl, hy1⟩
        have hL1 := blk_kept hL0 hy1
        have hF1 := blk_kept hF0 hy1
        have kA1 := kA0.trans (hy1.mono kA0.size)
        refine ⟨⟨hL1, _, _, _, hF1⟩, ?_⟩
        simp only [Act.put, List.setIfInBounds_toArray, List.set_cons_zero, List.set_cons_succ]
        refine all_one (i := 3) (by kernel_rfl) rfl rfl ?_
        refine wp_call (d := some 15) 77 _ rfl (by kernel_rfl) (callR (HD1.out .nilIface .nilIface .nilIface _)) ?_
        rintro _ Y2 ⟨rfl, hy2⟩
        have hL2 := blk_kept hL1 hy2
        have hF2 := blk_kept hF1 hy2
        have kA2 := kA1.trans (hy2.mono kA1.size)
        refine ⟨⟨hL2, _, _, _, hF2⟩, ?_⟩
        simp only [Act.put, List.setIfInBounds_toArray, List.set_cons_zero, List.set_cons_succ]
        refine take_one (i := 6) (d := some 18) (v := .pointer (some ⟨c, 17 + s1, none⟩)) rfl rfl rfl (by kernel_rfl) (by kernel_rfl) (by kernel_rfl) (fun _ _ d _ _ h => by cases d <;> exact h) (fun W hS => ex_ixK 17 15 rfl rfl rfl hs1) ⟨hL2, _, _, _, hF2⟩ ?_
        simp only [Act.put, List.setIfInBounds_toArray, List.set_cons_zero, List.set_cons_succ]
        have hst3 := st_node hF2 (show 17 + s1 < _ by rw [fkC_length]; omega) hN
        have bG := fk_set hF2 hs1 N
        have onG : Only c Y2 (Y2.setCell ⟨c, 17 + s1, none⟩ N) := (Only.refl _ Y2).set _ _
        have hSG := (onG.other w.heap.size (by omega)).trans hL2
        have kG := kA2.trans (onG.below (show w.heap.size ≤ c by omega))
        refine all_one (i := 7) (by kernel_rfl) rfl rfl ?_
        refine wp_storeA (.tmp 18) (.tmp 16) 74 rfl rfl rfl rfl hst3 ⟨⟨hSG, _, _, _, bG⟩, ?_⟩
        refine wpAnyH_done (by kernel_rfl) ?_ _
        generalize Y2.setCell ⟨c, 17 + s1, none⟩ N = Z at *
        have HSG : Hid _ := hSG
        have HBG : Hid _ := bG
        have HKG : Hid _ := kG
        clear hst3 onG bG hSG kG
        generalize (if s1 = 0 then N else Value.nilIface) = x1 at *
        generalize (if s1 = 1 then N else Value.nilIface) = y1 at *
        generalize (if s1 = 2 then N else Value.nilIface) = z1 at *
        go_show
        go_wp2_with fail
        refine wp_region_held (S := (fun X => X.heap[w.heap.size]? = some (.cells (lfC k v).toArray 85) ∧ ∃ x y z, X.heap[c]? = some (.cells (fkC F x y z).toArray 117))) (by kernel_rfl) ?_
        show wpAnyH _ _ _ _ _ 9 (Array.replicate 9 false) _ Z.drew
        have mL : Z.drew.heap[w.heap.size]? = some (.cells (lfC k v).toArray 85) := HSG.out
        have mF : Z.drew.heap[c]? = some (.cells (fkC F x1 y1 z1).toArray 117) := HBG.out
        have mB : Below w.heap.size w Z.drew := HKG.out.trans ((Below.refl _ Z).drew.mono HKG.out.size)
        generalize Z.drew = U0 at *
        refine take_one (i := 1) (d := some 20) (v := .pointer (some ⟨w.heap.size, 0, none⟩)) rfl rfl rfl (by kernel_rfl) (by kernel_rfl) (by kernel_rfl) (fun _ _ d _ _ h => by cases d <;> exact h) (fun W hS => by kernel_rfl) ⟨mL, _, _, _, mF⟩ ?_
        simp only [Act.put, List.setIfInBounds_toArray, List.set_cons_zero, List.set_cons_succ]
        refine take_one (i := 2) (d := some 21) (v := KV k) rfl rfl rfl (by kernel_rfl) (by kernel_rfl) (by kernel_rfl) (fun _ _ d _ _ h => by cases d <;> exact h) (fun W hS => ex_loadA (.tmp 20) 39 rfl rfl (kb_key (r := [.int .i64 v]) hS.1)) ⟨mL, _, _, _, mF⟩ ?_
        simp only [Act.put, List.setIfInBounds_toArray, List.set_cons_zero, List.set_cons_succ]
        refine take_one (i := 4) (d := some 23) (v := LF k v) rfl rfl rfl (by kernel_rfl) (by kernel_rfl) (by kernel_rfl) (fun _ _ d _ _ h => by cases d <;> exact h) (fun W hS => ex_loadA (.tmp 3) 85 rfl rfl (lf_load hS.1)) ⟨mL, _, _, _, mF⟩ ?_
        simp only [Act.put, List.setIfInBounds_toArray, List.set_cons_zero, List.set_cons_succ]
        refine take_one (i := 5) (d := some 24) (v := .iface 85 (LF k v)) rfl rfl rfl (by kernel_rfl) (by kernel_rfl) (by kernel_rfl) (fun _ _ d _ _ h => by cases d <;> exact h) (fun W hS => by kernel_rfl) ⟨mL, _, _, _, mF⟩ ?_
        simp only [Act.put, List.setIfInBounds_toArray, List.set_cons_zero, List.set_cons_succ]
        refine take_one (i := 6) (d := some 25) (v := .pointer (some ⟨c, 17, none⟩)) rfl rfl rfl (by kernel_rfl) (by kernel_rfl) (by kernel_rfl) (fun _ _ d _ _ h => by cases d <;> exact h) (fun W hS => by kernel_rfl) ⟨mL, _, _, _, mF⟩ ?_
        simp only [Act.put, List.setIfInBounds_toArray, List.set_cons_zero, List.set_cons_succ]
        refine all_one (i := 0) (by kernel_rfl) rfl rfl ?_
        refine wp_effX (d := some 19) (v := FK F x1 y1 z1) rfl (ex_loadA (.tmp 5) 117 rfl rfl (fk_load mF)) ⟨⟨mL, _, _, _, mF⟩, ?_⟩
        simp only [Act.put, List.setIfInBounds_toArray, List.set_cons_zero, List.set_cons_succ]
        refine all_one (i := 3) (by kernel_rfl) rfl rfl ?_
        refine wp_call (d := some 22) 77 _ rfl (by kernel_rfl) (callR (HD2.out x1 y1 z1 _)) ?_
        rintro _ U1 ⟨rfl, hu1⟩
        have mL1 := blk_kept mL hu1
        have mF1 := blk_kept mF hu1
        have mB1 := mB.trans (hu1.mono mB.size)
        refine ⟨⟨mL1, _, _, _, mF1⟩, ?_⟩
        simp only [Act.put, List.setIfInBounds_toArray, List.set_cons_zero, List.set_cons_succ]
        refine take_one (i := 7) (d := some 26) (v := .pointer (some ⟨c, 17 + s2, none⟩)) rfl rfl rfl (by kernel_rfl) (by kernel_rfl) (by kernel_rfl) (fun _ _ d _ _ h => by cases d <;> exact h) (fun W hS => ex_ixK 25 22 rfl rfl rfl hs2) ⟨mL1, _, _, _, mF1⟩ ?_
        simp only [Act.put, List.setIfInBounds_toArray, List.set_cons_zero, List.set_cons_succ]
        have hst4 := st_node mF1 (show 17 + s2 < _ by rw [fkC_length]; omega) (show NodeV (.iface 85 (LF k v)) from .inr ⟨_, _, rfl⟩)
        have bH := fk_set mF1 hs2 (.iface 85 (LF k v))
        have onH : Only c U1 (U1.setCell ⟨c, 17 + s2, none⟩ (.iface 85 (LF k v))) := (Only.refl _ U1).set _ _
        have hSH := (onH.other w.heap.size (by omega)).trans mL1
        have kH := mB1.trans (onH.below (show w.heap.size ≤ c by omega))
        refine all_one (i := 8) (by kernel_rfl) rfl rfl ?_
        refine wp_storeA (.tmp 26) (.tmp 24) 74 rfl rfl rfl rfl hst4 ⟨⟨hSH, _, _, _, bH⟩, ?_⟩
        refine wpAnyH_done (by kernel_rfl) ?_ _
        generalize U1.setCell ⟨c, 17 + s2, none⟩ (.iface 85 (LF k v)) = V at *
        have HLD : Hid _ := fk_load bH
        have HKH : Hid _ := kH
        clear hst4 onH bH hSH kH
        generalize (if s2 = 0 then Value.iface 85 (LF k v) else x1) = x2 at *
        generalize (if s2 = 1 then Value.iface 85 (LF k v) else y1) = y2 at *
        generalize (if s2 = 2 then Value.iface 85 (LF k v) else z1) = z2 at *
        go_show
        go_wp2_with first
          | ((with_reducible show wpList _ _ _ _ _ _); refine armLv (.tmp 5) 117 rfl rfl rfl HLD.out ?_)
        try go_ret
        rw [← HQ.out]
        exact ⟨rfl, HKH.out⟩
      · refine wp_call (d := some 14) g vs rfl (hinv _ _ _ 13 rfl rfl) (callR (HT.out _)) ?_
        rintro _ Y1 ⟨rfl, hy1⟩
        have hL1 := blk_kept hL0 hy1
        have hF1 := blk_kept hF0 hy1
        have kA1 := kA0.trans (hy1.mono kA0.size)
        refine ⟨⟨hL1, _, _, _, hF1⟩, ?_⟩
        simp only [Act.put, List.setIfInBounds_toArray, List.set_cons_zero, List.set_cons_succ]
        refine all_one (i := 0) (by kernel_rfl) rfl rfl ?_
        refine wp_effX (d := some 12) (v := FK F .nilIface .nilIface .nilIface) rfl (ex_loadA (.tmp 5) 117 rfl rfl (fk_load hF1)) ⟨⟨hL1, _, _, _, hF1⟩, ?_⟩
        simp only [Act.put, List.setIfInBounds_toArray, List.set_cons_zero, List.set_cons_succ]
        refine all_one (i := 3) (by kernel_rfl) rfl rfl ?_
        refine wp_call (d := some 15) 77 _ rfl (by kernel_rfl) (callR (HD1.out .nilIface .nilIface .nilIface _)) ?_
        rintro _ Y2 ⟨rfl, hy2⟩
        have hL2 := blk_kept hL1 hy2
        have hF2 := blk_kept hF1 hy2
        have kA2 := kA1.trans (hy2.mono kA1.size)
        refine ⟨⟨hL2, _, _, _, hF2⟩, ?_⟩
        simp only [Act.put, List.setIfInBounds_toArray, List.set_cons_zero, List.set_cons_succ]
        refine take_one (i := 6) (d := some 18) (v := .pointer (some ⟨c, 17 + s1, none⟩)) rfl rfl rfl (by kernel_rfl) (by kernel_rfl) (by kernel_rfl) (fun _ _ d _ _ h => by cases d <;> exact h) (fun W hS => ex_ixK 17 15 rfl rfl rfl hs1) ⟨hL2, _, _, _, hF2⟩ ?_
        simp only [Act.put, List.setIfInBounds_toArray, List.set_cons_zero, List.set_cons_succ]
        have hst3 := st_node hF2 (show 17 + s1 < _ by rw [fkC_length]; omega) hN
        have bG := fk_set hF2 hs1 N
        have onG : Only c Y2 (Y2.setCell ⟨c, 17 + s1, none⟩ N) := (Only.refl _ Y2).set _ _
        have hSG := (onG.other w.heap.size (by omega)).trans hL2
        have kG := kA2.trans (onG.below (show w.heap.size ≤ c by omega))
        refine all_one (i := 7) (by kernel_rfl) rfl rfl ?_
        refine wp_storeA (.tmp 18) (.tmp 16) 74 rfl rfl rfl rfl hst3 ⟨⟨hSG, _, _, _, bG⟩, ?_⟩
        refine wpAnyH_done (by kernel_rfl) ?_ _
        generalize Y2.setCell ⟨c, 17 + s1, none⟩ N = Z at *
        have HSG : Hid _ := hSG
        have HBG : Hid _ := bG
        have HKG : Hid _ := kG
        clear hst3 onG bG hSG kG
        generalize (if s1 = 0 then N else Value.nilIface) = x1 at *
        generalize (if s1 = 1 then N else Value.nilIface) = y1 at *
        generalize (if s1 = 2 then N else Value.nilIface) = z1 at *
        go_show
        go_wp2_with fail
        refine wp_region_held (S := (fun X => X.heap[w.heap.size]? = some (.cells (lfC k v).toArray 85) ∧ ∃ x y z, X.heap[c]? = some (.cells (fkC F x y z).toArray 117))) (by kernel_rfl) ?_
        show wpAnyH _ _ _ _ _ 9 (Array.replicate 9 false) _ Z.drew
        have mL : Z.drew.heap[w.heap.size]? = some (.cells (lfC k v).toArray 85) := HSG.out
        have mF : Z.drew.heap[c]? = some (.cells (fkC F x1 y1 z1).toArray 117) := HBG.out
        have mB : Below w.heap.size w Z.drew := HKG.out.trans ((Below.refl _ Z).drew.mono HKG.out.size)
        generalize Z.drew = U0 at *
        refine take_one (i := 1) (d := some 20) (v := .pointer (some ⟨w.heap.size, 0, none⟩)) rfl rfl rfl (by kernel_rfl) (by kernel_rfl) (by kernel_rfl) (fun _ _ d _ _ h => by cases d <;> exact h) (fun W hS => by kernel_rfl) ⟨mL, _, _, _, mF⟩ ?_
        simp only [Act.put, List.setIfInBounds_toArray, List.set_cons_zero, List.set_cons_succ]
        refine take_one (i := 2) (d := some 21) (v := KV k) rfl rfl rfl (by kernel_rfl) (by kernel_rfl) (by kernel_rfl) (fun _ _ d _ _ h => by cases d <;> exact h) (fun W hS => ex_loadA (.tmp 20) 39 rfl rfl (kb_key (r := [.int .i64 v]) hS.1)) ⟨mL, _, _, _, mF⟩ ?_
        simp only [Act.put, List.setIfInBounds_toArray, List.set_cons_zero, List.set_cons_succ]
        refine take_one (i := 4) (d := some 23) (v := LF k v) rfl rfl rfl (by kernel_rfl) (by kernel_rfl) (by kernel_rfl) (fun _ _ d _ _ h => by cases d <;> exact h) (fun W hS => ex_loadA (.tmp 3) 85 rfl rfl (lf_load hS.1)) ⟨mL, _, _, _, mF⟩ ?_
        simp only [Act.put, List.setIfInBounds_toArray, List.set_cons_zero, List.set_cons_succ]
        refine take_one (i := 5) (d := some 24) (v := .iface 85 (LF k v)) rfl rfl rfl (by kernel_rfl) (by kernel_rfl) (by kernel_rfl) (fun _ _ d _ _ h => by cases d <;> exact h) (fun W hS => by kernel_rfl) ⟨mL, _, _, _, mF⟩ ?_
        simp only [Act.put, List.setIfInBounds_toArray, List.set_cons_zero, List.set_cons_succ]
        refine take_one (i := 6) (d := some 25) (v := .pointer (some ⟨c, 17, none⟩)) rfl rfl rfl (by kernel_rfl) (by kernel_rfl) (by kernel_rfl) (fun _ _ d _ _ h => by cases d <;> exact h) (fun W hS => by kernel_rfl) ⟨mL, _, _, _, mF⟩ ?_
        simp only [Act.put, List.setIfInBounds_toArray, List.set_cons_zero, List.set_cons_succ]
        refine all_one (i := 0) (by kernel_rfl) rfl rfl ?_
        refine wp_effX (d := some 19) (v := FK F x1 y1 z1) rfl (ex_loadA (.tmp 5) 117 rfl rfl (fk_load mF)) ⟨⟨mL, _, _, _, mF⟩, ?_⟩
        simp only [Act.put, List.setIfInBounds_toArray, List.set_cons_zero, List.set_cons_succ]
        refine all_one (i := 3) (by kernel_rfl) rfl rfl ?_
        refine wp_call (d := some 22) 77 _ rfl (by kernel_rfl) (callR (HD2.out x1 y1 z1 _)) ?_
        rintro _ U1 ⟨rfl, hu1⟩
        have mL1 := blk_kept mL hu1
        have mF1 := blk_kept mF hu1
        have mB1 := mB.trans (hu1.mono mB.size)
        refine ⟨⟨mL1, _, _, _, mF1⟩, ?_⟩
        simp only [Act.put, List.setIfInBounds_toArray, List.set_cons_zero, List.set_cons_succ]
        refine take_one (i := 7) (d := some 26) (v := .pointer (some ⟨c, 17 + s2, none⟩)) rfl rfl rfl (by kernel_rfl) (by kernel_rfl) (by kernel_rfl) (fun _ _ d _ _ h => by cases d <;> exact h) (fun W hS => ex_ixK 25 22 rfl rfl rfl hs2) ⟨mL1, _, _, _, mF1⟩ ?_
        simp only [Act.put, List.setIfInBounds_toArray, List.set_cons_zero, List.set_cons_succ]
        have hst4 := st_node mF1 (show 17 + s2 < _ by rw [fkC_length]; omega) (show NodeV (.iface 85 (LF k v)) from .inr ⟨_, _, rfl⟩)
        have bH := fk_set mF1 hs2 (.iface 85 (LF k v))
        have onH : Only c U1 (U1.setCell ⟨c, 17 + s2, none⟩ (.iface 85 (LF k v))) := (Only.refl _ U1).set _ _
        have hSH := (onH.other w.heap.size (by omega)).trans mL1
        have kH := mB1.trans (onH.below (show w.heap.size ≤ c by omega))
        refine all_one (i := 8) (by kernel_rfl) rfl rfl ?_
        refine wp_storeA (.tmp 26) (.tmp 24) 74 rfl rfl rfl rfl hst4 ⟨⟨hSH, _, _, _, bH⟩, ?_⟩
        refine wpAnyH_done (by kernel_rfl) ?_ _
        generalize U1.setCell ⟨c, 17 + s2, none⟩ (.iface 85 (LF k v)) = V at *
        have HLD : Hid _ := fk_load bH
        have HKH : Hid _ := kH
        clear hst4 onH bH hSH kH
        generalize (if s2 = 0 then Value.iface 85 (LF k v) else x1) = x2 at *
        generalize (if s2 = 1 then Value.iface 85 (LF k v) else y1) = y2 at *
        generalize (if s2 = 2 then Value.iface 85 (LF k v) else z1) = z2 at *
        go_show
        go_wp2_with first
          | ((with_reducible show wpList _ _ _ _ _ _); refine armLv (.tmp 5) 117 rfl rfl rfl HLD.out ?_)
        try go_ret
        rw [← HQ.out]
        exact ⟨rfl, HKH.out⟩
  · refine wp_newX (d := some 5) (v := fun c => .pointer (some ⟨c, 0, none⟩)) (z := .cells zF.toArray 117) rfl (by kernel_rfl) ?_
    rintro c X1 hc hz1 hb1
    have hcn : w.heap.size < c := by rw [hc]; exact (Array.getElem?_eq_some_iff.1 hS0).1
    have hS1 := blk_kept hS0 hb1
    have kB1 := kB0.trans (hb1.mono kB0.size)
    refine ⟨hS1, ?_⟩
    simp only [Act.put, List.setIfInBounds_toArray, List.set_cons_zero, List.set_cons_succ]
    refine all_one (i := 1) (by kernel_rfl) rfl rfl ?_
    refine wp_call (d := some 7) g vs rfl (hinv _ _ _ 6 rfl rfl) (callR (HT.out _)) ?_
    rintro _ X2 ⟨rfl, hb2⟩
    have hS2 := blk_kept hS1 hb2
    have kB2 := kB1.trans (hb2.mono kB1.size)
    have hz2 := blk_kept hz1 hb2
    refine ⟨hS2, ?_⟩
    simp only [Act.put, List.setIfInBounds_toArray, List.set_cons_zero, List.set_cons_succ]
    refine all_one (i := 4) (by kernel_rfl) rfl rfl ?_
    refine wp_call (d := some 10) 83 _ rfl (by kernel_rfl) (callR (HC.out _)) ?_
    rintro _ X3 ⟨rfl, hb3⟩
    have hS3 := blk_kept hS2 hb3
    have kB3 := kB2.trans (hb3.mono kB2.size)
    have hz3 := blk_kept hz2 hb3
    refine ⟨hS3, ?_⟩
    simp only [Act.put, List.setIfInBounds_toArray, List.set_cons_zero, List.set_cons_succ]
    refine take_one (i := 5) (d := some 11) (v := FK F .nilIface .nilIface .nilIface) rfl rfl rfl (by kernel_rfl) (by kernel_rfl) (by kernel_rfl) (fun _ _ d _ _ h => by cases d <;> exact h) (fun W hS => ex_buildA 117 [(0, .tmp 10)] rfl rfl (build_fk F W)) hS3 ?_
    simp only [Act.put, List.setIfInBounds_toArray, List.set_cons_zero, List.set_cons_succ]
    obtain ⟨Xe, hst, bE, onE⟩ := box_store (ty := 117) (n := 20) (fun w => by kernel_rfl) hz3 rfl (fkC F .nilIface .nilIface .nilIface) (fkC_length _ _ _ _) (fkC_one _ rfl rfl rfl)
    have hSE := (onE.other w.heap.size (by omega)).trans hS3
    have kBE := kB3.trans (onE.below (show w.heap.size ≤ c by omega))
    refine all_one (i := 7) (by kernel_rfl) rfl rfl ?_
    refine wp_storeA (.tmp 5) (.tmp 11) 117 rfl rfl rfl rfl hst ⟨hSE, ?_⟩
    refine wpAnyH_done (by kernel_rfl) ?_ _
    have HSE : Hid _ := hSE
    have HBE : Hid _ := bE
    have HKE : Hid _ := kBE
    clear onE hst bE hSE kBE
    go_show
    go_wp2_with fail
    refine wp_region_held (S := (fun X => X.heap[w.heap.size]? = some (.cells (lfC k v).toArray 85) ∧ ∃ x y z, X.heap[c]? = some (.cells (fkC F x y z).toArray 117))) (by kernel_rfl) ?_
    show wpAnyH _ _ _ _ _ 8 (Array.replicate 8 false) _ Xe.drew
    have hL0 : Xe.drew.heap[w.heap.size]? = some (.cells (lfC k v).toArray 85) := HSE.out
    have hF0 : Xe.drew.heap[c]? = some (.cells (fkC F .nilIface .nilIface .nilIface).toArray 117) := HBE.out
    have kA0 : Below w.heap.size w Xe.drew := HKE.out.trans ((Below.refl _ Xe).drew.mono HKE.out.size)
    generalize Xe.drew = Y0 at *
    refine take_one (i := 1) (d := some 13) (v := N) rfl rfl rfl (by kernel_rfl) (by kernel_rfl) (by kernel_rfl) (fun _ _ d _ _ h => by cases d <;> exact h) (fun W hS => ex_moveA (.tmp 0) rfl rfl) ⟨hL0, _, _, _, hF0⟩ ?_
    simp only [Act.put, List.setIfInBounds_toArray, List.set_cons_zero, List.set_cons_succ]
    refine take_one (i := 4) (d := some 16) (v := N) rfl rfl rfl (by kernel_rfl) (by kernel_rfl) (by kernel_rfl) (fun _ _ d _ _ h => by cases d <;> exact h) (fun W hS => ex_moveA (.tmp 0) rfl rfl) ⟨hL0, _, _, _, hF0⟩ ?_
    simp only [Act.put, List.setIfInBounds_toArray, List.set_cons_zero, List.set_cons_succ]
    refine take_one (i := 5) (d := some 17) (v := .pointer (some ⟨c, 17, none⟩)) rfl rfl rfl (by kernel_rfl) (by kernel_rfl) (by kernel_rfl) (fun _ _ d _ _ h => by cases d <;> exact h) (fun W hS => by kernel_rfl) ⟨hL0, _, _, _, hF0⟩ ?_
    simp only [Act.put, List.setIfInBounds_toArray, List.set_cons_zero, List.set_cons_succ]
    refine all_two (i1 := 0) (i2 := 2) (by kernel_rfl) rfl rfl rfl rfl ?_ ?_
    · refine wp_effX (d := some 12) (v := FK F .nilIface .nilIface .nilIface) rfl (ex_loadA (.tmp 5) 117 rfl rfl (fk_load hF0)) ⟨⟨hL0, _, _, _, hF0⟩, ?_⟩
      simp only [Act.put, List.setIfInBounds_toArray, List.set_cons_zero, List.set_cons_succ]
      refine all_one (i := 2) (by kernel_rfl) rfl rfl ?_
      refine wp_call (d := some 14) g vs rfl (hinv _ _ _ 13 rfl rfl) (callR (HT.out _)) ?_
      rintro _ Y1 ⟨rfl, hy1⟩
      have hL1 := blk_kept hL0 hy1
      have hF1 := blk_kept hF0 hy1
      have kA1 := kA0.trans (hy1.mono kA0.size)
      refine ⟨⟨hL1, _, _, _, hF1⟩, ?_⟩
      simp only [Act.put, List.setIfInBounds_toArray, List.set_cons_zero, List.set_cons_succ]
      refine all_one (i := 3) (by kernel_rfl) rfl rfl ?_
      refine wp_call (d := some 15) 77 _ rfl (by kernel_rfl) (callR (HD1.out .nilIface .nilIface .nilIface _)) ?_
      rintro _ Y2 ⟨rfl, hy2⟩
      have hL2 := blk_kept hL1 hy2
      have hF2 := blk_kept hF1 hy2
      have kA2 := kA1.trans (hy2.mono kA1.size)
      refine ⟨⟨hL2, _, _, _, hF2⟩, ?_⟩
      simp only [Act.put, List.setIfInBounds_toArray, List.set_cons_zero, List.set_cons_succ]
      refine take_one (i := 6) (d := some 18) (v := .pointer (some ⟨c, 17 + s1, none⟩)) rfl rfl rfl (by kernel_rfl) (by kernel_rfl) (by kernel_rfl) (fun _ _ d _ _ h => by cases d <;> exact h) (fun W hS => ex_ixK 17 15 rfl rfl rfl hs1) ⟨hL2, _, _, _, hF2⟩ ?_
      simp only [Act.put, List.setIfInBounds_toArray, List.set_cons_zero, List.set_cons_succ]
      have hst3 := st_node hF2 (show 17 + s1 < _ by rw [fkC_length]; omega) hN
      have bG := fk_set hF2 hs1 N
      have onG : Only c Y2 (Y2.setCell ⟨c, 17 + s1, none⟩ N) := (Only.refl _ Y2).set _ _
      have hSG := (onG.other w.heap.size (by omega)).trans hL2
      have kG := kA2.trans (onG.below (show w.heap.size ≤ c by omega))
      refine all_one (i := 7) (by kernel_rfl) rfl rfl ?_
      refine wp_storeA (.tmp 18) (.tmp 16) 74 rfl rfl rfl rfl hst3 ⟨⟨hSG, _, _, _, bG⟩, ?_⟩
      refine wpAnyH_done (by kernel_rfl) ?_ _
      generalize Y2.setCell ⟨c, 17 + s1, none⟩ N = Z at *
      have HSG : Hid _ := hSG
      have HBG : Hid _ := bG
      have HKG : Hid _ := kG
      clear hst3 onG bG hSG kG
      generalize (if s1 = 0 then N else Value.nilIface) = x1 at *
      generalize (if s1 = 1 then N else Value.nilIface) = y1 at *
      generalize (if s1 = 2 then N else Value.nilIface) = z1 at *
      go_show
      go_wp2_with fail
      refine wp_region_held (S := (fun X => X.heap[w.heap.size]? = some (.cells (lfC k v).toArray 85) ∧ ∃ x y z, X.heap[c]? = some (.cells (fkC F x y z).toArray 117))) (by kernel_rfl) ?_
      show wpAnyH _ _ _ _ _ 9 (Array.replicate 9 false) _ Z.drew
      have mL : Z.drew.heap[w.heap.size]? = some (.cells (lfC k v).toArray 85) := HSG.out
      have mF : Z.drew.heap[c]? = some (.cells (fkC F x1 y1 z1).toArray 117) := HBG.out
      have mB : Below w.heap.size w Z.drew := HKG.out.trans ((Below.refl _ Z).drew.mono HKG.out.size)
      generalize Z.drew = U0 at *
      refine take_one (i := 1) (d := some 20) (v := .pointer (some ⟨w.heap.size, 0, none⟩)) rfl rfl rfl (by kernel_rfl) (by kernel_rfl) (by kernel_rfl) (fun _ _ d _ _ h => by cases d <;> exact h) (fun W hS => by kernel_rfl) ⟨mL, _, _, _, mF⟩ ?_
      simp only [Act.put, List.setIfInBounds_toArray, List.set_cons_zero, List.set_cons_succ]
      refine take_one (i := 2) (d := some 21) (v := KV k) rfl rfl rfl (by kernel_rfl) (by kernel_rfl) (by kernel_rfl) (fun _ _ d _ _ h => by cases d <;> exact h) (fun W hS => ex_loadA (.tmp 20) 39 rfl rfl (kb_key (r := [.int .i64 v]) hS.1)) ⟨mL, _, _, _, mF⟩ ?_
      simp only [Act.put, List.setIfInBounds_toArray, List.set_cons_zero, List.set_cons_succ]
      refine take_one (i := 4) (d := some 23) (v := LF k v) rfl rfl rfl (by kernel_rfl) (by kernel_rfl) (by kernel_rfl) (fun _ _ d _ _ h => by cases d <;> exact h) (fun W hS => ex_loadA (.tmp 3) 85 rfl rfl (lf_load hS.1)) ⟨mL, _, _, _, mF⟩ ?_
      simp only [Act.put, List.setIfInBounds_toArray, List.set_cons_zero, List.set_cons_succ]
      refine take_one (i := 5) (d := some 24) (v := .iface 85 (LF k v)) rfl rfl rfl (by kernel_rfl) (by kernel_rfl) (by kernel_rfl) (fun _ _ d _ _ h => by cases d <;> exact h) (fun W hS => by kernel_rfl) ⟨mL, _, _, _, mF⟩ ?_
      simp only [Act.put, List.setIfInBounds_toArray, List.set_cons_zero, List.set_cons_succ]
      refine take_one (i := 6) (d := some 25) (v := .pointer (some ⟨c, 17, none⟩)) rfl rfl rfl (by kernel_rfl) (by kernel_rfl) (by kernel_rfl) (fun _ _ d _ _ h => by cases d <;> exact h) (fun W hS => by kernel_rfl) ⟨mL, _, _, _, mF⟩ ?_
      simp only [Act.put, List.setIfInBounds_toArray, List.set_cons_zero, List.set_cons_succ]
      refine all_one (i := 0) (by kernel_rfl) rfl rfl ?_
      refine wp_effX (d := some 19) (v := FK F x1 y1 z1) rfl (ex_loadA (.tmp 5) 117 rfl rfl (fk_load mF)) ⟨⟨mL, _, _, _, mF⟩, ?_⟩
      simp only [Act.put, List.setIfInBounds_toArray, List.set_cons_zero, List.set_cons_succ]
      refine all_one (i := 3) (by kernel_rfl) rfl rfl ?_
      refine wp_call (d := some 22) 77 _ rfl (by kernel_rfl) (callR (HD2.out x1 y1 z1 _)) ?_
      rintro _ U1 ⟨rfl, hu1⟩
      have mL1 := blk_kept mL hu1
      have mF1 := blk_kept mF hu1
      have mB1 := mB.trans (hu1.mono mB.size)
      refine ⟨⟨mL1, _, _, _, mF1⟩, ?_⟩
      simp only [Act.put, List.setIfInBounds_toArray, List.set_cons_zero, List.set_cons_succ]
      refine take_one (i := 7) (d := some 26) (v := .pointer (some ⟨c, 17 + s2, none⟩)) rfl rfl rfl (by kernel_rfl) (by kernel_rfl) (by kernel_rfl) (fun _ _ d _ _ h => by cases d <;> exact h) (fun W hS => ex_ixK 25 22 rfl rfl rfl hs2) ⟨mL1, _, _, _, mF1⟩ ?_
      simp only [Act.put, List.setIfInBounds_toArray, List.set_cons_zero, List.set_cons_succ]
      have hst4 := st_node mF1 (show 17 + s2 < _ by rw [fkC_length]; omega) (show NodeV (.iface 85 (LF k v)) from .inr ⟨_, _, rfl⟩)
      have bH := fk_set mF1 hs2 (.iface 85 (LF k v))
      have onH : Only c U1 (U1.setCell ⟨c, 17 + s2, none⟩ (.iface 85 (LF k v))) := (Only.refl _ U1).set _ _
      have hSH := (onH.other w.heap.size (by omega)).trans mL1
      have kH := mB1.trans (onH.below (show w.heap.size ≤ c by omega))
      refine all_one (i := 8) (by kernel_rfl) rfl rfl ?_
      refine wp_storeA (.tmp 26) (.tmp 24) 74 rfl rfl rfl rfl hst4 ⟨⟨hSH, _, _, _, bH⟩, ?_⟩
      refine wpAnyH_done (by kernel_rfl) ?_ _
      generalize U1.setCell ⟨c, 17 + s2, none⟩ (.iface 85 (LF k v)) = V at *
      have HLD : Hid _ := fk_load bH
      have HKH : Hid _ := kH
      clear hst4 onH bH hSH kH
      generalize (if s2 = 0 then Value.iface 85 (LF k v) else x1) = x2 at *
      generalize (if s2 = 1 then Value.iface 85 (LF k v) else y1) = y2 at *
      generalize (if s2 = 2 then Value.iface 85 (LF k v) else z1) = z2 at *
      go_show
      go_wp2_with first
        | ((with_reducible show wpList _ _ _ _ _ _); refine armLv (.tmp 5) 117 rfl rfl rfl HLD.out ?_)
      try go_ret
      rw [← HQ.out]
      exact ⟨rfl, HKH.out⟩
    · refine wp_call (d := some 14) g vs rfl (hinv _ _ _ 13 rfl rfl) (callR (HT.out _)) ?_
      rintro _ Y1 ⟨rfl, hy1⟩
      have hL1 := blk_kept hL0 hy1
      have hF1 := blk_kept hF0 hy1
      have kA1 := kA0.trans (hy1.mono kA0.size)
      refine ⟨⟨hL1, _, _, _, hF1⟩, ?_⟩
      simp only [Act.put, List.setIfInBounds_toArray, List.set_cons_zero, List.set_cons_succ]
      refine all_one (i := 0) (by kernel_rfl) rfl rfl ?_
      refine wp_effX (d := some 12) (v := FK F .nilIface .nilIface .nilIface) rfl (ex_loadA (.tmp 5) 117 rfl rfl (fk_load hF1)) ⟨⟨hL1, _, _, _, hF1⟩, ?_⟩
      simp only [Act.put, List.setIfInBounds_toArray, List.set_cons_zero, List.set_cons_succ]
      refine all_one (i := 3) (by kernel_rfl) rfl rfl ?_
      refine wp_call (d := some 15) 77 _ rfl (by kernel_rfl) (callR (HD1.out .nilIface .nilIface .nilIface _)) ?_
      rintro _ Y2 ⟨rfl, hy2⟩
      have hL2 := blk_kept hL1 hy2
      have hF2 := blk_kept hF1 hy2
      have kA2 := kA1.trans (hy2.mono kA1.size)
      refine ⟨⟨hL2, _, _, _, hF2⟩, ?_⟩
      simp only [Act.put, List.setIfInBounds_toArray, List.set_cons_zero, List.set_cons_succ]
      refine take_one (i := 6) (d := some 18) (v := .pointer (some ⟨c, 17 + s1, none⟩)) rfl rfl rfl (by kernel_rfl) (by kernel_rfl) (by kernel_rfl) (fun _ _ d _ _ h => by cases d <;> exact h) (fun W hS => ex_ixK 17 15 rfl rfl rfl hs1) ⟨hL2, _, _, _, hF2⟩ ?_
      simp only [Act.put, List.setIfInBounds_toArray, List.set_cons_zero, List.set_cons_succ]
      have hst3 := st_node hF2 (show 17 + s1 < _ by rw [fkC_length]; omega) hN
      have bG := fk_set hF2 hs1 N
      have onG : Only c Y2 (Y2.setCell ⟨c, 17 + s1, none⟩ N) := (Only.refl _ Y2).set _ _
      have hSG := (onG.other w.heap.size (by omega)).trans hL2
      have kG := kA2.trans (onG.below (show w.heap.size ≤ c by omega))
      refine all_one (i := 7) (by kernel_rfl) rfl rfl ?_
      refine wp_storeA (.tmp 18) (.tmp 16) 74 rfl rfl rfl rfl hst3 ⟨⟨hSG, _, _, _, bG⟩, ?_⟩
      refine wpAnyH_done (by kernel_rfl) ?_ _
      generalize Y2.setCell ⟨c, 17 + s1, none⟩ N = Z at *
      have HSG : Hid _ := hSG
      have HBG : Hid _ := bG
      have HKG : Hid _ := kG
      clear hst3 onG bG hSG kG
      generalize (if s1 = 0 then N else Value.nilIface) = x1 at *
      generalize (if s1 = 1 then N else Value.nilIface) = y1 at *
      generalize (if s1 = 2 then N else Value.nilIface) = z1 at *
      go_show
      go_wp2_with fail
      refine wp_region_held (S := (fun X => X.heap[w.heap.size]? = some (.cells (lfC k v).toArray 85) ∧ ∃ x y z, X.heap[c]? = some (.cells (fkC F x y z).toArray 117))) (by kernel_rfl) ?_
      show wpAnyH _ _ _ _ _ 9 (Array.replicate 9 false) _ Z.drew
      have mL : Z.drew.heap[w.heap.size]? = some (.cells (lfC k v).toArray 85) := HSG.out
      have mF : Z.drew.heap[c]? = some (.cells (fkC F x1 y1 z1).toArray 117) := HBG.out
      have mB : Below w.heap.size w Z.drew := HKG.out.trans ((Below.refl _ Z).drew.mono HKG.out.size)
      generalize Z.drew = U0 at *
      refine take_one (i := 1) (d := some 20) (v := .pointer (some ⟨w.heap.size, 0, none⟩)) rfl rfl rfl (by kernel_rfl) (by kernel_rfl) (by kernel_rfl) (fun _ _ d _ _ h => by cases d <;> exact h) (fun W hS => by kernel_rfl) ⟨mL, _, _, _, mF⟩ ?_
      simp only [Act.put, List.setIfInBounds_toArray, List.set_cons_zero, List.set_cons_succ]
      refine take_one (i := 2) (d := some 21) (v := KV k) rfl rfl rfl (by kernel_rfl) (by kernel_rfl) (by kernel_rfl) (fun _ _ d _ _ h => by cases d <;> exact h) (fun W hS => ex_loadA (.tmp 20) 39 rfl rfl (kb_key (r := [.int .i64 v]) hS.1)) ⟨mL, _, _, _, mF⟩ ?_
      simp only [Act.put, List.setIfInBounds_toArray, List.set_cons_zero, List.set_cons_succ]
      refine take_one (i := 4) (d := some 23) (v := LF k v) rfl rfl rfl (by kernel_rfl) (by kernel_rfl) (by kernel_rfl) (fun _ _ d _ _ h => by cases d <;> exact h) (fun W hS => ex_loadA (.tmp 3) 85 rfl rfl (lf_load hS.1)) ⟨mL, _, _, _, mF⟩ ?_
      simp only [Act.put, List.setIfInBounds_toArray, List.set_cons_zero, List.set_cons_succ]
      refine take_one (i := 5) (d := some 24) (v := .iface 85 (LF k v)) rfl rfl rfl (by kernel_rfl) (by kernel_rfl) (by kernel_rfl) (fun _ _ d _ _ h => by cases d <;> exact h) (fun W hS => by kernel_rfl) ⟨mL, _, _, _, mF⟩ ?_
      simp only [Act.put, List.setIfInBounds_toArray, List.set_cons_zero, List.set_cons_succ]
      refine take_one (i := 6) (d := some 25) (v := .pointer (some ⟨c, 17, none⟩)) rfl rfl rfl (by kernel_rfl) (by kernel_rfl) (by kernel_rfl) (fun _ _ d _ _ h => by cases d <;> exact h) (fun W hS => by kernel_rfl) ⟨mL, _, _, _, mF⟩ ?_
      simp only [Act.put, List.setIfInBounds_toArray, List.set_cons_zero, List.set_cons_succ]
      refine all_one (i := 0) (by kernel_rfl) rfl rfl ?_
      refine wp_effX (d := some 19) (v := FK F x1 y1 z1) rfl (ex_loadA (.tmp 5) 117 rfl rfl (fk_load mF)) ⟨⟨mL, _, _, _, mF⟩, ?_⟩
      simp only [Act.put, List.setIfInBounds_toArray, List.set_cons_zero, List.set_cons_succ]
      refine all_one (i := 3) (by kernel_rfl) rfl rfl ?_
      refine wp_call (d := some 22) 77 _ rfl (by kernel_rfl) (callR (HD2.out x1 y1 z1 _)) ?_
      rintro _ U1 ⟨rfl, hu1⟩
      have mL1 := blk_kept mL hu1
      have mF1 := blk_kept mF hu1
      have mB1 := mB.trans (hu1.mono mB.size)
      refine ⟨⟨mL1, _, _, _, mF1⟩, ?_⟩
      simp only [Act.put, List.setIfInBounds_toArray, List.set_cons_zero, List.set_cons_succ]
      refine take_one (i := 7) (d := some 26) (v := .pointer (some ⟨c, 17 + s2, none⟩)) rfl rfl rfl (by kernel_rfl) (by kernel_rfl) (by kernel_rfl) (fun _ _ d _ _ h => by cases d <;> exact h) (fun W hS => ex_ixK 25 22 rfl rfl rfl hs2) ⟨mL1, _, _, _, mF1⟩ ?_
      simp only [Act.put, List.setIfInBounds_toArray, List.set_cons_zero, List.set_cons_succ]
      have hst4 := st_node mF1 (show 17 + s2 < _ by rw [fkC_length]; omega) (show NodeV (.iface 85 (LF k v)) from .inr ⟨_, _, rfl⟩)
      have bH := fk_set mF1 hs2 (.iface 85 (LF k v))
      have onH : Only c U1 (U1.setCell ⟨c, 17 + s2, none⟩ (.iface 85 (LF k v))) := (Only.refl _ U1).set _ _
      have hSH := (onH.other w.heap.size (by omega)).trans mL1
      have kH := mB1.trans (onH.below (show w.heap.size ≤ c by omega))
      refine all_one (i := 8) (by kernel_rfl) rfl rfl ?_
      refine wp_storeA (.tmp 26) (.tmp 24) 74 rfl rfl rfl rfl hst4 ⟨⟨hSH, _, _, _, bH⟩, ?_⟩
      refine wpAnyH_done (by kernel_rfl) ?_ _
      generalize U1.setCell ⟨c, 17 + s2, none⟩ (.iface 85 (LF k v)) = V at *
      have HLD : Hid _ := fk_load bH
      have HKH : Hid _ := kH
      clear hst4 onH bH hSH kH
      generalize (if s2 = 0 then Value.iface 85 (LF k v) else x1) = x2 at *
      generalize (if s2 = 1 then Value.iface 85 (LF k v) else y1) = y2 at *
      generalize (if s2 = 2 then Value.iface 85 (LF k v) else z1) = z2 at *
      go_show
      go_wp2_with first
        | ((with_reducible show wpList _ _ _ _ _ _); refine armLv (.tmp 5) 117 rfl rfl rfl HLD.out ?_)
      try go_ret
      rw [← HQ.out]
      exact ⟨rfl, HKH.out⟩
end Go.Proofs.Ytenahbdopgmpfaa
