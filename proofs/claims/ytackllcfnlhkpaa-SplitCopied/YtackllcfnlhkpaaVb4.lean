/-
  The walk of the statement SplitCopied.
-/
import Derived.Test.YtackllcfnlhkpaaVa3
import Derived.Test.YtackllcfnlhkpaaVb3
namespace Go.Proofs.Ytackllcfnlhkpaa
open Go Go.RowKit Go.ChangeShapes Go.WideShapes Go.ChangeAt
set_option linter.unusedVariables false
set_option linter.unusedSimpArgs false

theorem wp_convA {P : Program} {o : Oper} {a : Act} {d : Option Nat} {w : World} {K : Act → World → Prop} {Q : Exit → Act → World → Prop} (p : Operand) (t u : TypeId) (hop : o.op = Op.convert t u p) (hd : o.dst = d) {vp v : Value} (hp : a.eval p = vp) (hrun : (convert t u vp).run P w = .ok v w) (hK : K (a.put d v) w) : o.wp P a w K Q := by
  subst hd
  unfold Oper.wp
  simp [execOp, hop, hp, hrun, Result.andThen]
  exact hK
theorem ex_eqlS {o : Oper} {a : Act} {W : World} (p q : Operand) {t : TypeId} (hop : o.op = Op.binOp .eql 9 p q t) {s : ByteArray} (hp : a.eval p = .string s) (hq : a.eval q = .string s) : (execOp a.eval o).run Try.prog W = .ok (.value (.bool true)) W := by
  generalize a.eval = ev at *
  simp [execOp, hop, hp, hq, go_sem]

set_option maxHeartbeats 2000000 in
set_option maxRecDepth 100000 in
theorem splitCopied_walk (v0 : Value) (zs0 : List Int) (w : World) (h0 : RowC w v0 zs0) :
    Calls Try.prog 4 #[v0] w fun e w' => e = .returned (.bool true) ∧ Below w.heap.size w w' := by
  obtain ⟨v, zs, hv, hzs, hrow⟩ : ∃ v zs, ((zs0.length ≤ 300 ∧ v = v0) ∨ (¬ zs0.length ≤ 300 ∧ ∀ W, (Instr.sliceAt 25 v0 none (some (.int .i64 300)) none).run Try.prog W = .ok v W)) ∧ zs.length ≤ 300 ∧ RowC w v zs := by
    by_cases hl : zs0.length ≤ 300
    · exact ⟨v0, zs0, .inl ⟨hl, rfl⟩, hl, h0⟩
    · obtain ⟨u, hu, hb⟩ := cut_front h0.cons (by omega) 300 (by omega)
      exact ⟨u, _, .inr ⟨hl, hu⟩, by rw [List.length_take]; omega, hb.row⟩
  obtain ⟨a0, c0, hv0⟩ : ∃ a c, v0 = .slice a zs0.length c := by obtain ⟨_, _, a, cap, e, _⟩ := h0; exact ⟨_, _, e⟩
  have hl0 := h0.len
  have HC1 : Hid (∀ X, Below w.heap.size w X → Calls Try.prog 17 #[v] X fun e w' => ∃ u, e = .returned u ∧ (BS (fun b => X.heap.size ≤ b) w' u (copiedL zs) ∧ Below X.heap.size X w')) := fun X hX => (Copied_calls v zs X (hrow.on hX) (by omega)).mono (fun e w' h => h)
  have HC2 : Hid (∀ X, Below w.heap.size w X → Calls Try.prog 18 #[v] X fun e w' => ∃ u, e = .returned u ∧ (BS (fun b => X.heap.size ≤ b) w' u (copiedL zs) ∧ Below X.heap.size X w')) := fun X hX => (RCopied_calls v zs X (hrow.on hX) (by omega)).mono (fun e w' h => h)
  have HAL : Hid (∀ X, Calls Try.prog 16 #[] X fun e w' => ∃ u, e = .returned u ∧ (u = .bool true ∧ Below X.heap.size X w')) := fun X => (alive_calls X).mono (fun e w' h => ⟨_, h.1, rfl, h.2⟩)
  clear hrow h0
  generalize copiedL zs = Z at *
  subst hv0
  generalize zs0.length = N at *
  have HV : Hid _ := hv
  clear hv
  rcases HV.out with ⟨hl, he⟩ | ⟨hl, hu⟩
  · have q1 : ¬ 300 < N := by omega
    have HVE : Hid _ := he
    clear he HV
    go_enter Try.func4, Try.ntmps4
    go_wp2_with fail
    rw [← HVE.out]
    refine region_mid (fun a0 a' w' => ∃ u1 u2, a' = (((((((((((a0.put (some 8) (v)).put (some 9) (u1)).put (some 10) (.string (strOfNums Z))).put (some 11) (v)).put (some 12) (u2)).put (some 13) (.string (strOfNums Z))).put (some 14) (.bool true)).put (some 15) (.bool true)).put (some 16) (.bool true)).put (some 17) (.bool true)).put (some 2) (.bool true)) ∧ Below w.heap.size w w') ?_ ?_
    · skip
      refine wp_region_held (S := fun _ => True) (by kernel_rfl) ?_
      show wpAnyH _ _ _ _ _ 11 (Array.replicate 11 false) _ _
      have hX0 : Below w.heap.size w w.drew := (Below.refl _ w).drew
      refine take_one (i := 0) (d := some 8) (v := v) rfl rfl rfl (by kernel_rfl) (by kernel_rfl) (by kernel_rfl) (fun _ _ _ _ _ h => h.elim) (fun W hS => by kernel_rfl) trivial ?_
      simp only [Act.put, List.setIfInBounds_toArray, List.set_cons_zero, List.set_cons_succ]
      refine take_one (i := 3) (d := some 11) (v := v) rfl rfl rfl (by kernel_rfl) (by kernel_rfl) (by kernel_rfl) (fun _ _ _ _ _ h => h.elim) (fun W hS => by kernel_rfl) trivial ?_
      simp only [Act.put, List.setIfInBounds_toArray, List.set_cons_zero, List.set_cons_succ]
      refine all_one (i := 1) (by kernel_rfl) rfl rfl ?_
      refine wp_call (d := some 9) 17 _ rfl (by kernel_rfl) (HC1.out _ hX0) ?_
      rintro u1 X1 ⟨hu1, hB1⟩
      have hX1 : Below w.heap.size w X1 := hX0.trans (hB1.mono hX0.size)
      refine ⟨trivial, ?_⟩
      simp only [Act.put, List.setIfInBounds_toArray, List.set_cons_zero, List.set_cons_succ]
      refine all_two (i1 := 2) (i2 := 4) (by kernel_rfl) rfl rfl rfl rfl ?_ ?_
      · refine wp_convA (d := some 10) (.tmp 9) 25 9 rfl rfl rfl hu1.bytes.text ⟨trivial, ?_⟩
        simp only [Act.put, List.setIfInBounds_toArray, List.set_cons_zero, List.set_cons_succ]
        refine all_one (i := 4) (by kernel_rfl) rfl rfl ?_
        refine wp_call (d := some 12) 18 _ rfl (by kernel_rfl) (HC2.out _ hX1) ?_
        rintro u2 X2 ⟨hu2, hB2⟩
        have hX2 : Below w.heap.size w X2 := hX1.trans (hB2.mono hX1.size)
        have hu1' := hu1.on hB2
        refine ⟨trivial, ?_⟩
        simp only [Act.put, List.setIfInBounds_toArray, List.set_cons_zero, List.set_cons_succ]
        refine all_one (i := 5) (by kernel_rfl) rfl rfl ?_
        refine wp_convA (d := some 13) (.tmp 12) 25 9 rfl rfl rfl hu2.bytes.text ⟨trivial, ?_⟩
        simp only [Act.put, List.setIfInBounds_toArray, List.set_cons_zero, List.set_cons_succ]
        refine take_one (i := 6) (d := some 14) (v := .bool true) rfl rfl rfl (by kernel_rfl) (by kernel_rfl) (by kernel_rfl) (fun _ _ _ _ _ h => h.elim) (fun W hS => ex_eqlS (.tmp 10) (.tmp 13) rfl rfl rfl) trivial ?_
        simp only [Act.put, List.setIfInBounds_toArray, List.set_cons_zero, List.set_cons_succ]
        refine take_one (i := 7) (d := some 15) (v := .bool true) rfl rfl rfl (by kernel_rfl) (by kernel_rfl) (by kernel_rfl) (fun _ _ _ _ _ h => h.elim) (fun W hS => by kernel_rfl) trivial ?_
        simp only [Act.put, List.setIfInBounds_toArray, List.set_cons_zero, List.set_cons_succ]
        refine all_w (i := 8) (by kernel_rfl) rfl (by kernel_rfl) ?_
        refine wp_call (d := some 16) 16 _ rfl (by kernel_rfl) (HAL.out _) ?_
        rintro _ X3 ⟨rfl, hB3⟩
        refine ⟨trivial, ?_⟩
        simp only [Act.put, List.setIfInBounds_toArray, List.set_cons_zero, List.set_cons_succ]
        refine take_one (i := 9) (d := some 17) (v := .bool true) rfl rfl rfl (by kernel_rfl) (by kernel_rfl) (by kernel_rfl) (fun _ _ _ _ _ h => h.elim) (fun W hS => by kernel_rfl) trivial ?_
        simp only [Act.put, List.setIfInBounds_toArray, List.set_cons_zero, List.set_cons_succ]
        refine take_one (i := 10) (d := some 2) (v := .bool true) rfl rfl rfl (by kernel_rfl) (by kernel_rfl) (by kernel_rfl) (fun _ _ _ _ _ h => h.elim) (fun W hS => by kernel_rfl) trivial ?_
        simp only [Act.put, List.setIfInBounds_toArray, List.set_cons_zero, List.set_cons_succ]
        refine wpAnyH_done (by kernel_rfl) ?_ _
        exact ⟨u1, u2, rfl, hX2.trans (hB3.mono hX2.size)⟩
      · refine wp_call (d := some 12) 18 _ rfl (by kernel_rfl) (HC2.out _ hX1) ?_
        rintro u2 X2 ⟨hu2, hB2⟩
        have hX2 : Below w.heap.size w X2 := hX1.trans (hB2.mono hX1.size)
        have hu1' := hu1.on hB2
        refine ⟨trivial, ?_⟩
        simp only [Act.put, List.setIfInBounds_toArray, List.set_cons_zero, List.set_cons_succ]
        refine all_two (i1 := 2) (i2 := 5) (by kernel_rfl) rfl rfl rfl rfl ?_ ?_
        · refine wp_convA (d := some 10) (.tmp 9) 25 9 rfl rfl rfl hu1'.bytes.text ⟨trivial, ?_⟩
          simp only [Act.put, List.setIfInBounds_toArray, List.set_cons_zero, List.set_cons_succ]
          refine all_one (i := 5) (by kernel_rfl) rfl rfl ?_
          refine wp_convA (d := some 13) (.tmp 12) 25 9 rfl rfl rfl hu2.bytes.text ⟨trivial, ?_⟩
          simp only [Act.put, List.setIfInBounds_toArray, List.set_cons_zero, List.set_cons_succ]
          refine take_one (i := 6) (d := some 14) (v := .bool true) rfl rfl rfl (by kernel_rfl) (by kernel_rfl) (by kernel_rfl) (fun _ _ _ _ _ h => h.elim) (fun W hS => ex_eqlS (.tmp 10) (.tmp 13) rfl rfl rfl) trivial ?_
          simp only [Act.put, List.setIfInBounds_toArray, List.set_cons_zero, List.set_cons_succ]
          refine take_one (i := 7) (d := some 15) (v := .bool true) rfl rfl rfl (by kernel_rfl) (by kernel_rfl) (by kernel_rfl) (fun _ _ _ _ _ h => h.elim) (fun W hS => by kernel_rfl) trivial ?_
          simp only [Act.put, List.setIfInBounds_toArray, List.set_cons_zero, List.set_cons_succ]
          refine all_w (i := 8) (by kernel_rfl) rfl (by kernel_rfl) ?_
          refine wp_call (d := some 16) 16 _ rfl (by kernel_rfl) (HAL.out _) ?_
          rintro _ X3 ⟨rfl, hB3⟩
          refine ⟨trivial, ?_⟩
          simp only [Act.put, List.setIfInBounds_toArray, List.set_cons_zero, List.set_cons_succ]
          refine take_one (i := 9) (d := some 17) (v := .bool true) rfl rfl rfl (by kernel_rfl) (by kernel_rfl) (by kernel_rfl) (fun _ _ _ _ _ h => h.elim) (fun W hS => by kernel_rfl) trivial ?_
          simp only [Act.put, List.setIfInBounds_toArray, List.set_cons_zero, List.set_cons_succ]
          refine take_one (i := 10) (d := some 2) (v := .bool true) rfl rfl rfl (by kernel_rfl) (by kernel_rfl) (by kernel_rfl) (fun _ _ _ _ _ h => h.elim) (fun W hS => by kernel_rfl) trivial ?_
          simp only [Act.put, List.setIfInBounds_toArray, List.set_cons_zero, List.set_cons_succ]
          refine wpAnyH_done (by kernel_rfl) ?_ _
          exact ⟨u1, u2, rfl, hX2.trans (hB3.mono hX2.size)⟩
        · refine wp_convA (d := some 13) (.tmp 12) 25 9 rfl rfl rfl hu2.bytes.text ⟨trivial, ?_⟩
          simp only [Act.put, List.setIfInBounds_toArray, List.set_cons_zero, List.set_cons_succ]
          refine all_one (i := 2) (by kernel_rfl) rfl rfl ?_
          refine wp_convA (d := some 10) (.tmp 9) 25 9 rfl rfl rfl hu1'.bytes.text ⟨trivial, ?_⟩
          simp only [Act.put, List.setIfInBounds_toArray, List.set_cons_zero, List.set_cons_succ]
          refine take_one (i := 6) (d := some 14) (v := .bool true) rfl rfl rfl (by kernel_rfl) (by kernel_rfl) (by kernel_rfl) (fun _ _ _ _ _ h => h.elim) (fun W hS => ex_eqlS (.tmp 10) (.tmp 13) rfl rfl rfl) trivial ?_
          simp only [Act.put, List.setIfInBounds_toArray, List.set_cons_zero, List.set_cons_succ]
          refine take_one (i := 7) (d := some 15) (v := .bool true) rfl rfl rfl (by kernel_rfl) (by kernel_rfl) (by kernel_rfl) (fun _ _ _ _ _ h => h.elim) (fun W hS => by kernel_rfl) trivial ?_
          simp only [Act.put, List.setIfInBounds_toArray, List.set_cons_zero, List.set_cons_succ]
          refine all_w (i := 8) (by kernel_rfl) rfl (by kernel_rfl) ?_
          refine wp_call (d := some 16) 16 _ rfl (by kernel_rfl) (HAL.out _) ?_
          rintro _ X3 ⟨rfl, hB3⟩
          refine ⟨trivial, ?_⟩
          simp only [Act.put, List.setIfInBounds_toArray, List.set_cons_zero, List.set_cons_succ]
          refine take_one (i := 9) (d := some 17) (v := .bool true) rfl rfl rfl (by kernel_rfl) (by kernel_rfl) (by kernel_rfl) (fun _ _ _ _ _ h => h.elim) (fun W hS => by kernel_rfl) trivial ?_
          simp only [Act.put, List.setIfInBounds_toArray, List.set_cons_zero, List.set_cons_succ]
          refine take_one (i := 10) (d := some 2) (v := .bool true) rfl rfl rfl (by kernel_rfl) (by kernel_rfl) (by kernel_rfl) (fun _ _ _ _ _ h => h.elim) (fun W hS => by kernel_rfl) trivial ?_
          simp only [Act.put, List.setIfInBounds_toArray, List.set_cons_zero, List.set_cons_succ]
          refine wpAnyH_done (by kernel_rfl) ?_ _
          exact ⟨u1, u2, rfl, hX2.trans (hB3.mono hX2.size)⟩
    · rintro a' X ⟨u1, u2, rfl, hBX⟩
      simp only [Act.put, List.setIfInBounds_toArray, List.set_cons_zero, List.set_cons_succ]
      go_wp2
      go_ret
      exact ⟨rfl, hBX⟩
  · have q1 : 300 < N := by omega
    have HU : Hid _ := hu
    clear hu HV
    go_enter Try.func4, Try.ntmps4
    go_wp2_with ((with_reducible show wpList _ _ _ _ _ _); refine arm_slice rfl 25 (.tmp 6) none (some (.const (.int .i64 300))) rfl rfl rfl rfl (HU.out _) ?_)
    refine region_mid (fun a0 a' w' => ∃ u1 u2, a' = (((((((((((a0.put (some 8) (v)).put (some 9) (u1)).put (some 10) (.string (strOfNums Z))).put (some 11) (v)).put (some 12) (u2)).put (some 13) (.string (strOfNums Z))).put (some 14) (.bool true)).put (some 15) (.bool true)).put (some 16) (.bool true)).put (some 17) (.bool true)).put (some 2) (.bool true)) ∧ Below w.heap.size w w') ?_ ?_
    · skip
      refine wp_region_held (S := fun _ => True) (by kernel_rfl) ?_
      show wpAnyH _ _ _ _ _ 11 (Array.replicate 11 false) _ _
      have hX0 : Below w.heap.size w w.drew := (Below.refl _ w).drew
      refine take_one (i := 0) (d := some 8) (v := v) rfl rfl rfl (by kernel_rfl) (by kernel_rfl) (by kernel_rfl) (fun _ _ _ _ _ h => h.elim) (fun W hS => by kernel_rfl) trivial ?_
      simp only [Act.put, List.setIfInBounds_toArray, List.set_cons_zero, List.set_cons_succ]
      refine take_one (i := 3) (d := some 11) (v := v) rfl rfl rfl (by kernel_rfl) (by kernel_rfl) (by kernel_rfl) (fun _ _ _ _ _ h => h.elim) (fun W hS => by kernel_rfl) trivial ?_
      simp only [Act.put, List.setIfInBounds_toArray, List.set_cons_zero, List.set_cons_succ]
      refine all_one (i := 1) (by kernel_rfl) rfl rfl ?_
      refine wp_call (d := some 9) 17 _ rfl (by kernel_rfl) (HC1.out _ hX0) ?_
      rintro u1 X1 ⟨hu1, hB1⟩
      have hX1 : Below w.heap.size w X1 := hX0.trans (hB1.mono hX0.size)
      refine ⟨trivial, ?_⟩
      simp only [Act.put, List.setIfInBounds_toArray, List.set_cons_zero, List.set_cons_succ]
      refine all_two (i1 := 2) (i2 := 4) (by kernel_rfl) rfl rfl rfl rfl ?_ ?_
      · refine wp_convA (d := some 10) (.tmp 9) 25 9 rfl rfl rfl hu1.bytes.text ⟨trivial, ?_⟩
        simp only [Act.put, List.setIfInBounds_toArray, List.set_cons_zero, List.set_cons_succ]
        refine all_one (i := 4) (by kernel_rfl) rfl rfl ?_
        refine wp_call (d := some 12) 18 _ rfl (by kernel_rfl) (HC2.out _ hX1) ?_
        rintro u2 X2 ⟨hu2, hB2⟩
        have hX2 : Below w.heap.size w X2 := hX1.trans (hB2.mono hX1.size)
        have hu1' := hu1.on hB2
        refine ⟨trivial, ?_⟩
        simp only [Act.put, List.setIfInBounds_toArray, List.set_cons_zero, List.set_cons_succ]
        refine all_one (i := 5) (by kernel_rfl) rfl rfl ?_
        refine wp_convA (d := some 13) (.tmp 12) 25 9 rfl rfl rfl hu2.bytes.text ⟨trivial, ?_⟩
        simp only [Act.put, List.setIfInBounds_toArray, List.set_cons_zero, List.set_cons_succ]
        refine take_one (i := 6) (d := some 14) (v := .bool true) rfl rfl rfl (by kernel_rfl) (by kernel_rfl) (by kernel_rfl) (fun _ _ _ _ _ h => h.elim) (fun W hS => ex_eqlS (.tmp 10) (.tmp 13) rfl rfl rfl) trivial ?_
        simp only [Act.put, List.setIfInBounds_toArray, List.set_cons_zero, List.set_cons_succ]
        refine take_one (i := 7) (d := some 15) (v := .bool true) rfl rfl rfl (by kernel_rfl) (by kernel_rfl) (by kernel_rfl) (fun _ _ _ _ _ h => h.elim) (fun W hS => by kernel_rfl) trivial ?_
        simp only [Act.put, List.setIfInBounds_toArray, List.set_cons_zero, List.set_cons_succ]
        refine all_w (i := 8) (by kernel_rfl) rfl (by kernel_rfl) ?_
        refine wp_call (d := some 16) 16 _ rfl (by kernel_rfl) (HAL.out _) ?_
        rintro _ X3 ⟨rfl, hB3⟩
        refine ⟨trivial, ?_⟩
        simp only [Act.put, List.setIfInBounds_toArray, List.set_cons_zero, List.set_cons_succ]
        refine take_one (i := 9) (d := some 17) (v := .bool true) rfl rfl rfl (by kernel_rfl) (by kernel_rfl) (by kernel_rfl) (fun _ _ _ _ _ h => h.elim) (fun W hS => by kernel_rfl) trivial ?_
        simp only [Act.put, List.setIfInBounds_toArray, List.set_cons_zero, List.set_cons_succ]
        refine take_one (i := 10) (d := some 2) (v := .bool true) rfl rfl rfl (by kernel_rfl) (by kernel_rfl) (by kernel_rfl) (fun _ _ _ _ _ h => h.elim) (fun W hS => by kernel_rfl) trivial ?_
        simp only [Act.put, List.setIfInBounds_toArray, List.set_cons_zero, List.set_cons_succ]
        refine wpAnyH_done (by kernel_rfl) ?_ _
        exact ⟨u1, u2, rfl, hX2.trans (hB3.mono hX2.size)⟩
      · refine wp_call (d := some 12) 18 _ rfl (by kernel_rfl) (HC2.out _ hX1) ?_
        rintro u2 X2 ⟨hu2, hB2⟩
        have hX2 : Below w.heap.size w X2 := hX1.trans (hB2.mono hX1.size)
        have hu1' := hu1.on hB2
        refine ⟨trivial, ?_⟩
        simp only [Act.put, List.setIfInBounds_toArray, List.set_cons_zero, List.set_cons_succ]
        refine all_two (i1 := 2) (i2 := 5) (by kernel_rfl) rfl rfl rfl rfl ?_ ?_
        · refine wp_convA (d := some 10) (.tmp 9) 25 9 rfl rfl rfl hu1'.bytes.text ⟨trivial, ?_⟩
          simp only [Act.put, List.setIfInBounds_toArray, List.set_cons_zero, List.set_cons_succ]
          refine all_one (i := 5) (by kernel_rfl) rfl rfl ?_
          refine wp_convA (d := some 13) (.tmp 12) 25 9 rfl rfl rfl hu2.bytes.text ⟨trivial, ?_⟩
          simp only [Act.put, List.setIfInBounds_toArray, List.set_cons_zero, List.set_cons_succ]
          refine take_one (i := 6) (d := some 14) (v := .bool true) rfl rfl rfl (by kernel_rfl) (by kernel_rfl) (by kernel_rfl) (fun _ _ _ _ _ h => h.elim) (fun W hS => ex_eqlS (.tmp 10) (.tmp 13) rfl rfl rfl) trivial ?_
          simp only [Act.put, List.setIfInBounds_toArray, List.set_cons_zero, List.set_cons_succ]
          refine take_one (i := 7) (d := some 15) (v := .bool true) rfl rfl rfl (by kernel_rfl) (by kernel_rfl) (by kernel_rfl) (fun _ _ _ _ _ h => h.elim) (fun W hS => by kernel_rfl) trivial ?_
          simp only [Act.put, List.setIfInBounds_toArray, List.set_cons_zero, List.set_cons_succ]
          refine all_w (i := 8) (by kernel_rfl) rfl (by kernel_rfl) ?_
          refine wp_call (d := some 16) 16 _ rfl (by kernel_rfl) (HAL.out _) ?_
          rintro _ X3 ⟨rfl, hB3⟩
          refine ⟨trivial, ?_⟩
          simp only [Act.put, List.setIfInBounds_toArray, List.set_cons_zero, List.set_cons_succ]
          refine take_one (i := 9) (d := some 17) (v := .bool true) rfl rfl rfl (by kernel_rfl) (by kernel_rfl) (by kernel_rfl) (fun _ _ _ _ _ h => h.elim) (fun W hS => by kernel_rfl) trivial ?_
          simp only [Act.put, List.setIfInBounds_toArray, List.set_cons_zero, List.set_cons_succ]
          refine take_one (i := 10) (d := some 2) (v := .bool true) rfl rfl rfl (by kernel_rfl) (by kernel_rfl) (by kernel_rfl) (fun _ _ _ _ _ h => h.elim) (fun W hS => by kernel_rfl) trivial ?_
          simp only [Act.put, List.setIfInBounds_toArray, List.set_cons_zero, List.set_cons_succ]
          refine wpAnyH_done (by kernel_rfl) ?_ _
          exact ⟨u1, u2, rfl, hX2.trans (hB3.mono hX2.size)⟩
        · refine wp_convA (d := some 13) (.tmp 12) 25 9 rfl rfl rfl hu2.bytes.text ⟨trivial, ?_⟩
          simp only [Act.put, List.setIfInBounds_toArray, List.set_cons_zero, List.set_cons_succ]
          refine all_one (i := 2) (by kernel_rfl) rfl rfl ?_
          refine wp_convA (d := some 10) (.tmp 9) 25 9 rfl rfl rfl hu1'.bytes.text ⟨trivial, ?_⟩
          simp only [Act.put, List.setIfInBounds_toArray, List.set_cons_zero, List.set_cons_succ]
          refine take_one (i := 6) (d := some 14) (v := .bool true) rfl rfl rfl (by kernel_rfl) (by kernel_rfl) (by kernel_rfl) (fun _ _ _ _ _ h => h.elim) (fun W hS => ex_eqlS (.tmp 10) (.tmp 13) rfl rfl rfl) trivial ?_
          simp only [Act.put, List.setIfInBounds_toArray, List.set_cons_zero, List.set_cons_succ]
          refine take_one (i := 7) (d := some 15) (v := .bool true) rfl rfl rfl (by kernel_rfl) (by kernel_rfl) (by kernel_rfl) (fun _ _ _ _ _ h => h.elim) (fun W hS => by kernel_rfl) trivial ?_
          simp only [Act.put, List.setIfInBounds_toArray, List.set_cons_zero, List.set_cons_succ]
          refine all_w (i := 8) (by kernel_rfl) rfl (by kernel_rfl) ?_
          refine wp_call (d := some 16) 16 _ rfl (by kernel_rfl) (HAL.out _) ?_
          rintro _ X3 ⟨rfl, hB3⟩
          refine ⟨trivial, ?_⟩
          simp only [Act.put, List.setIfInBounds_toArray, List.set_cons_zero, List.set_cons_succ]
          refine take_one (i := 9) (d := some 17) (v := .bool true) rfl rfl rfl (by kernel_rfl) (by kernel_rfl) (by kernel_rfl) (fun _ _ _ _ _ h => h.elim) (fun W hS => by kernel_rfl) trivial ?_
          simp only [Act.put, List.setIfInBounds_toArray, List.set_cons_zero, List.set_cons_succ]
          refine take_one (i := 10) (d := some 2) (v := .bool true) rfl rfl rfl (by kernel_rfl) (by kernel_rfl) (by kernel_rfl) (fun _ _ _ _ _ h => h.elim) (fun W hS => by kernel_rfl) trivial ?_
          simp only [Act.put, List.setIfInBounds_toArray, List.set_cons_zero, List.set_cons_succ]
          refine wpAnyH_done (by kernel_rfl) ?_ _
          exact ⟨u1, u2, rfl, hX2.trans (hB3.mono hX2.size)⟩
    · rintro a' X ⟨u1, u2, rfl, hBX⟩
      simp only [Act.put, List.setIfInBounds_toArray, List.set_cons_zero, List.set_cons_succ]
      go_wp2
      go_ret
      exact ⟨rfl, hBX⟩

theorem splitCopied_open {H : Type} {enc : TypeId × Value → H} {W : World} {base : Nat} (v0 : Value) {d0 : DataW H} {p0 : List MemPlace}
    (o0 : Value.okWide Try.prog W .any base 25 v0) (h0 : DataW.Trod enc Try.prog W 0 (fun _ => true) true 25 v0 d0 p0) (z0 : ∀ k ∈ d0.weights Try.prog 25, k ≤ reachBytes) :
    Calls Try.prog 4 #[v0] W fun e w' => e = .returned (.bool true) ∧ Below W.heap.size W w' := by
  obtain ⟨zs, hr⟩ := open_row o0 h0 z0
  exact splitCopied_walk v0 zs W hr

end Go.Proofs.Ytackllcfnlhkpaa
