/-
  All: the entries by their addresses.
-/
import Derived.Test.YtgndiblonhgihaaPpC
namespace Go.Proofs.Ytgndiblonhgihaa
open Go Go.RowKit Go.Lib Go.Shelf Go.Sort
set_option linter.unusedVariables false
set_option linter.unusedSimpArgs false

/-- Entries whose addresses are bytes. -/
abbrev OkE := {x : PE // x.Ok}
instance : Inhabited OkE := ⟨⟨⟨List.replicate 16 0, 0, 0⟩, ⟨fun z hz => by have := List.eq_of_mem_replicate hz; omega, by simp⟩⟩⟩
def encE (x : OkE) : List Value := eE x.1
def cfE (x y : OkE) : Int := cmpI x.1.k y.1.k
def ltA (x y : PE) : Prop := cmpI x.k y.k = -1
theorem ltE_iff (x y : OkE) : ltOf cfE x y = true ↔ ltA x.1 y.1 := by
  unfold ltOf cfE ltA
  rw [decide_eq_true_eq]
  rcases cmpI_vals x.1.k y.1.k with h | h | h <;> rw [h] <;> simp
theorem swoE : SWO (ltOf cfE) where
  irrefl x := by
    cases h : ltOf cfE x x
    · rfl
    · have := (ltE_iff x x).1 h
      unfold ltA at this
      rw [cmpI_self] at this
      cases this
  trans x y z h1 h2 := (ltE_iff x z).2 (cmpI_trans ((ltE_iff x y).1 h1) ((ltE_iff y z).1 h2))
  ntrans x y z h1 h2 := by
    cases h : ltOf cfE x z
    · rfl
    · have a := (ltE_iff x z).1 h
      have b : ¬ ltA x.1 y.1 := fun e => by rw [(ltE_iff x y).2 e] at h1; cases h1
      have c : ¬ ltA y.1 z.1 := fun e => by rw [(ltE_iff y z).2 e] at h2; cases h2
      exfalso
      unfold ltA at a b c
      have a2 := cmpI_anti x.1.k y.1.k
      have a3 := cmpI_anti y.1.k z.1.k
      rcases cmpI_vals x.1.k y.1.k with h4 | h4 | h4
      · exact b h4
      · rw [cmpI_eq h4] at a
        exact c a
      · rcases cmpI_vals y.1.k z.1.k with h5 | h5 | h5
        · exact c h5
        · rw [← cmpI_eq h5] at a
          exact b a
        · have := cmpI_trans (a := z.1.k) (b := y.1.k) (c := x.1.k) (by omega) (by omega)
          have a4 := cmpI_anti x.1.k z.1.k
          omega
set_option maxHeartbeats 4000000 in
set_option maxRecDepth 100000 in
theorem clos_any {x y : PE} (hx : x.Ok) (hy : y.Ok) (W : World) : Calls Try.prog 44 #[.agg (eE x).toArray, .agg (eE y).toArray] W fun e w' => e = .returned (.int .i64 (cmpI x.k y.k)) ∧ w' = ((W.alloc (.cells (eE x).toArray 72)).alloc (.cells (eE y).toArray 72)).drew := by
  generalize hQ : (fun (e : Ending) (w' : World) => e = .returned (.int .i64 (cmpI x.k y.k)) ∧ w' = ((W.alloc (.cells (eE x).toArray 72)).alloc (.cells (eE y).toArray 72)).drew) = Q
  have HQ : Hid (∀ e w', (e = .returned (.int .i64 (cmpI x.k y.k)) ∧ w' = ((W.alloc (.cells (eE x).toArray 72)).alloc (.cells (eE y).toArray 72)).drew) → Q e w') := fun e w' hh => by rw [← hQ]; exact hh
  clear hQ
  have h1 : (((W.alloc (.cells (eE x).toArray 72)).alloc (.cells (eE y).toArray 72)).drew).heap[W.heap.size]? = some (.cells (eE x).toArray 72) := blk_alloc (blk_new W _) _
  have h2 : (((W.alloc (.cells (eE x).toArray 72)).alloc (.cells (eE y).toArray 72)).drew).heap[W.heap.size + 1]? = some (.cells (eE y).toArray 72) := by
    have := blk_new (W.alloc (.cells (eE x).toArray 72)) (.cells (eE y).toArray 72)
    rwa [show (W.alloc (.cells (eE x).toArray 72)).heap.size = W.heap.size + 1 by simp] at this
  have by1 : ∀ {z : PE} {V : World} {b : Nat}, z.Ok → V.heap[b]? = some (.cells (eE z).toArray 72) → ∀ j u, z.k[j]? = some u → V.cell? ⟨b, 0 + j, none⟩ = some (.int .u8 u) := fun {z V b} hz hb j u hj => by
    rw [eE_ok hz] at hb
    exact EntAt.byte hb j u hj
  have HBC : Hid _ := (by
    have := bcmp_calls (W := ((W.alloc (.cells (eE x).toArray 72)).alloc (.cells (eE y).toArray 72)).drew) (p := W.heap.size) (q := W.heap.size + 1) (o := 0) (r := 0) (c := 16) (d := 16) hx.1 hy.1 (by1 hx h1) (by1 hy h2)
    rw [hx.2, hy.2] at this
    exact this : Calls Try.prog 45 #[.slice (some ⟨W.heap.size, 0, none⟩) 16 16, .slice (some ⟨W.heap.size + 1, 0, none⟩) 16 16] ((W.alloc (.cells (eE x).toArray 72)).alloc (.cells (eE y).toArray 72)).drew fun e w' => e = .returned (.int .i64 (cmpI x.k y.k)) ∧ w' = ((W.alloc (.cells (eE x).toArray 72)).alloc (.cells (eE y).toArray 72)).drew)
  obtain ⟨V1, hV1⟩ : ∃ V1, V1 = (W.alloc (.cells (eE x).toArray 72)).alloc (.cells (eE y).toArray 72) := ⟨_, rfl⟩
  rw [← hV1] at HBC HQ
  have hW := hV1.symm
  clear h1 h2 hV1
  generalize (eE x).toArray = cx at *
  generalize (eE y).toArray = cy at *
  go_enter Try.func44, Try.ntmps44
  go_wp2_with fail
  refine wp_region_held (S := fun X => X = V1.drew) (by kernel_rfl) ?_
  show wpAnyH _ _ _ _ _ 6 (Array.replicate 6 false) _ V1.drew
  generalize V1.drew = V0 at *
  refine take_wT (i := 0) (d := some 5) (v := .pointer (some ⟨W.heap.size, 0, none⟩)) rfl rfl rfl (by kernel_rfl) (by kernel_rfl) (by kernel_rfl) (fun _ _ d _ _ h => by cases d <;> exact h) (fun X hS => by kernel_rfl) rfl ?_
  simp only [Act.put, List.setIfInBounds_toArray, List.set_cons_zero, List.set_cons_succ]
  refine take_wT (i := 1) (d := some 6) (v := .slice (some ⟨W.heap.size, 0, none⟩) 16 16) rfl rfl rfl (by kernel_rfl) (by kernel_rfl) (by kernel_rfl) (fun _ _ d _ _ h => by cases d <;> exact h) (fun X hS => ex_slc16 5 rfl rfl) rfl ?_
  simp only [Act.put, List.setIfInBounds_toArray, List.set_cons_zero, List.set_cons_succ]
  refine take_wT (i := 2) (d := some 7) (v := .pointer (some ⟨W.heap.size + 1, 0, none⟩)) rfl rfl rfl (by kernel_rfl) (by kernel_rfl) (by kernel_rfl) (fun _ _ d _ _ h => by cases d <;> exact h) (fun X hS => by kernel_rfl) rfl ?_
  simp only [Act.put, List.setIfInBounds_toArray, List.set_cons_zero, List.set_cons_succ]
  refine take_wT (i := 3) (d := some 8) (v := .slice (some ⟨W.heap.size + 1, 0, none⟩) 16 16) rfl rfl rfl (by kernel_rfl) (by kernel_rfl) (by kernel_rfl) (fun _ _ d _ _ h => by cases d <;> exact h) (fun X hS => ex_slc16 7 rfl rfl) rfl ?_
  simp only [Act.put, List.setIfInBounds_toArray, List.set_cons_zero, List.set_cons_succ]
  refine all_wT (i := 4) (by kernel_rfl) rfl rfl ?_
  refine wp_call (d := some 9) 45 _ rfl (by kernel_rfl) (callR (HBC.out)) ?_
  rintro _ X1 ⟨rfl, rfl⟩
  refine ⟨rfl, ?_⟩
  simp only [Act.put, List.setIfInBounds_toArray, List.set_cons_zero, List.set_cons_succ]
  refine take_wT (i := 5) (d := some 4) (v := .int .i64 (cmpI x.k y.k)) rfl rfl rfl (by kernel_rfl) (by kernel_rfl) (by kernel_rfl) (fun _ _ d _ _ h => by cases d <;> exact h) (fun X hS => by kernel_rfl) rfl ?_
  simp only [Act.put, List.setIfInBounds_toArray, List.set_cons_zero, List.set_cons_succ]
  refine wpAnyH_done (by kernel_rfl) ?_ _

  try go_returns
  first
  | exact HQ.out _ _ ⟨rfl, rfl⟩
  | (go_wp2_with fail
     try go_returns
     exact HQ.out _ _ ⟨rfl, rfl⟩)
theorem cmpL (blk size : Nat) (w : World) : CmpLays Try.prog 44 #[] encE 18 cfE blk 0 size w := fun m os dk _ x y => by
  refine (clos_any x.2 y.2 _).mono ?_
  rintro e w' ⟨rfl, rfl⟩
  exact ⟨rfl, 1, #[.cells (eE x.1).toArray 72, .cells (eE y.1).toArray 72], by rw [alloc_eq_grow, alloc_eq_grow, grow_grow]; rfl⟩
end Go.Proofs.Ytgndiblonhgihaa
