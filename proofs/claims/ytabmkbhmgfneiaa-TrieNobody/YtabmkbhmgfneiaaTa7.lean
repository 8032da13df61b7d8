/-
  longest of any tree.
-/
import Derived.Test.YtabmkbhmgfneiaaTa6
namespace Go.Proofs.Ytabmkbhmgfneiaa
open Go Go.RowKit Go.Shelf
set_option linter.unusedVariables false
set_option linter.unusedSimpArgs false

def LgS (w : World) (n : Nat) (l : List Ent) (W : World) : Prop :=
  W.heap[n + 1]? = some (.cells (lastC l).toArray 85) ∧ W.heap[n + 2]? = some (.cells [Value.bool (lastB l)].toArray 4) ∧ Below n w W
theorem lg_tak (w : World) (p : Bs) : Tak (fun l W => LgS w w.heap.size l W ∧ W.heap[w.heap.size + 3]? = some (.cells (kC p).toArray 39)) (.func (.func 62) #[] #[.pointer (some ⟨w.heap.size + 1, 0, none⟩), .pointer (some ⟨w.heap.size + 2, 0, none⟩)]) := by
  refine ⟨?_, _, _, rfl, eg_longest1, ?_⟩
  · rintro l W W' ⟨⟨h1, h2, h3⟩, h4⟩ hb
    exact ⟨⟨blk_kept h1 hb, blk_kept h2 hb, h3.trans (hb.mono h3.size)⟩, blk_kept h4 hb⟩
  · rintro l k v W hk ⟨⟨h1, h2, h3⟩, h4⟩
    refine (longest1_calls k v (lastC l) (lastC_length l) (lastB l) (w.heap.size + 1) (w.heap.size + 2) w.heap.size (by omega) (by omega) (by omega) W h1 h2).mono ?_
    rintro e w' ⟨rfl, q1, q2, q3, q4⟩
    have l4 := (Array.getElem?_eq_some_iff.1 h4).1
    exact ⟨rfl, ⟨by rw [lastC_snoc]; exact q1, by rw [lastB_snoc]; exact q2, h3.trans q3⟩, (q4 _ l4 (by omega) (by omega)).trans h4⟩

set_option maxHeartbeats 2000000 in
set_option maxRecDepth 100000 in
theorem longest_any (t : Tr) (hok : t.Ok) (p : Bs) (hp : p.length ≤ 128) (w : World) :
    Calls Try.prog 42 #[enc t, KV p] w fun e w' => e = .returned (.tuple #[.agg (lastC (t.walk (fun k => pre k p))).toArray, .bool (lastB (t.walk (fun k => pre k p)))]) ∧ Below w.heap.size w w' := by
  generalize hQ : (fun (e : Ending) (w' : World) => e = .returned (.tuple #[.agg (lastC (t.walk (fun k => pre k p))).toArray, .bool (lastB (t.walk (fun k => pre k p)))]) ∧ Below w.heap.size w w') = Q
  have HQ : Hid _ := hQ
  clear hQ
  have hB0 : Below w.heap.size w (w.alloc (.cells (kC p).toArray 39)) := (Below.refl _ w).alloc (Nat.le_refl _) _
  have s0 : (w.alloc (.cells (kC p).toArray 39)).heap.size = w.heap.size + 1 := by simp
  have b0 := blk_new w (.cells (kC p).toArray 39)
  have s1 : ((w.alloc (.cells (kC p).toArray 39)).alloc (.cells zL.toArray 85)).heap.size = w.heap.size + 2 := by simp
  have b1 := blk_new (w.alloc (.cells (kC p).toArray 39)) (.cells zL.toArray 85)
  rw [s0] at b1
  have b2 := blk_new ((w.alloc (.cells (kC p).toArray 39)).alloc (.cells zL.toArray 85)) (.cells [Value.bool false].toArray 4)
  rw [s1] at b2
  have c0 := blk_alloc (blk_alloc b0 (.cells zL.toArray 85)) (.cells [Value.bool false].toArray 4)
  have c1 := blk_alloc b1 (.cells [Value.bool false].toArray 4)
  have hB : Below w.heap.size w (((w.alloc (.cells (kC p).toArray 39)).alloc (.cells zL.toArray 85)).alloc (.cells [Value.bool false].toArray 4)) := (hB0.alloc (by omega) _).alloc (by omega) _
  have s2 : (((w.alloc (.cells (kC p).toArray 39)).alloc (.cells zL.toArray 85)).alloc (.cells [Value.bool false].toArray 4)).heap.size = w.heap.size + 3 := by simp
  have H0 : Hid _ := kb_key (kb0 c0)
  generalize hW : (((w.alloc (.cells (kC p).toArray 39)).alloc (.cells zL.toArray 85)).alloc (.cells [Value.bool false].toArray 4)) = W at *
  have HW : Hid (((w.alloc (.cells (kC p).toArray 39)).alloc (.cells zL.toArray 85)).alloc (.cells [Value.bool false].toArray 4) = W) := hW
  clear hW
  have hT := lg_tak w p
  rw [← s2] at hT
  have HO : Hid _ := over_any (S := LgS w w.heap.size) p hp t hok [] W ⟨blk_alloc c1 _, blk_alloc b2 _, hB.alloc (by omega) _⟩ hT
  rw [List.nil_append] at HO
  generalize t.walk (fun k => pre k p) = L at HQ HO
  generalize enc t = T at HO ⊢
  clear hT c0 c1 b0 b1 b2 s0 s1 hB0 hB
  go_enter Try.func42, Try.ntmps42
  go_wp2_with first
    | ((with_reducible show wpList _ _ _ _ _ _); rw [HW.out]; refine armLv (.tmp 3) 39 rfl rfl rfl H0.out ?_)
  refine Calls.mono HO.out ?_
  rintro e w1 ⟨rfl, h1, h2, hB1⟩
  have HB1 : Hid _ := hB1
  have HH1 : Hid _ := h1
  have HH2 : Hid _ := h2
  clear h1 h2 hB1 HO H0
  go_wp2_with fail
  refine wp_region_held (S := fun X => X.heap[w.heap.size + 1]? = some (.cells (lastC L).toArray 85) ∧ X.heap[w.heap.size + 2]? = some (.cells [Value.bool (lastB L)].toArray 4)) (by kernel_rfl) ?_
  show wpAnyH _ _ _ _ _ 4 (Array.replicate 4 false) _ w1.drew
  have k1 : w1.drew.heap[w.heap.size + 1]? = some (.cells (lastC L).toArray 85) := HH1.out
  have k2 : w1.drew.heap[w.heap.size + 2]? = some (.cells [Value.bool (lastB L)].toArray 4) := HH2.out
  have kB : Below w.heap.size w w1.drew := HB1.out.trans ((Below.refl _ w1).drew.mono (Nat.le_refl _))
  generalize w1.drew = X at *
  refine take_one (i := 0) (d := some 10) (v := .agg (lastC L).toArray) rfl rfl rfl (by kernel_rfl) (by kernel_rfl) (by kernel_rfl) (fun _ _ d _ _ h => by cases d <;> exact h) (fun W hS => ex_loadA (.tmp 4) 85 rfl rfl (agg_load (n := 18) (fun w => by kernel_rfl) (fun w => by kernel_rfl) (lastC_length L) (CellsAt.of_blk hS.1))) ⟨k1, k2⟩ ?_
  simp only [Act.put, List.setIfInBounds_toArray, List.set_cons_zero, List.set_cons_succ]
  refine take_one (i := 1) (d := some 11) (v := .bool (lastB L)) rfl rfl rfl (by kernel_rfl) (by kernel_rfl) (by kernel_rfl) (fun _ _ d _ _ h => by cases d <;> exact h) (fun W hS => ex_loadA (.tmp 5) 4 rfl rfl (by have := blk_cell hS.2 (j := 0) rfl; simp [Instr.loadAt, go_sem, this])) ⟨k1, k2⟩ ?_
  simp only [Act.put, List.setIfInBounds_toArray, List.set_cons_zero, List.set_cons_succ]
  obtain ⟨w5, hst, q1, on5⟩ := box_store (ty := 85) (n := 18) (fun w => by kernel_rfl) k1 (lastC_length L) (lastC L) (lastC_length L) (lastC_one L)
  have q2 := (on5.other (w.heap.size + 2) (by omega)).trans k2
  refine all_one (i := 2) (by kernel_rfl) rfl rfl ?_
  refine wp_storeA (.tmp 4) (.tmp 10) 85 rfl rfl rfl rfl hst ⟨⟨q1, q2⟩, ?_⟩
  have hst2 := st_bool q2 (by simp : 0 < _) (lastB L)
  have r1 := blk_set_other q1 (show w.heap.size + 1 ≠ w.heap.size + 2 by omega) 0 (.bool (lastB L))
  have r2 := blk_set q2 0 (.bool (lastB L))
  have on6 : Only (w.heap.size + 2) w5 (w5.setCell ⟨w.heap.size + 2, 0, none⟩ (.bool (lastB L))) := (Only.refl _ w5).set 0 _
  refine all_one (i := 3) (by kernel_rfl) rfl rfl ?_
  refine wp_storeA (.tmp 5) (.tmp 11) 4 rfl rfl rfl rfl hst2 ⟨⟨r1, r2⟩, ?_⟩
  have kB2 : Below w.heap.size w (w5.setCell ⟨w.heap.size + 2, 0, none⟩ (.bool (lastB L))) := (kB.trans (on5.below (by omega))).trans (on6.below (by omega))
  generalize w5.setCell ⟨w.heap.size + 2, 0, none⟩ (.bool (lastB L)) = X2 at *
  have HLV : Hid ((loadVar 85 ⟨w.heap.size + 1, 0, none⟩).run Try.prog X2 = .ok (.agg (lastC L).toArray) X2) := agg_loadVar (n := 18) (fun w => by kernel_rfl) (fun w => by kernel_rfl) (lastC_length L) (CellsAt.of_blk r1)
  have HLB : Hid ((loadVar 4 ⟨w.heap.size + 2, 0, none⟩).run Try.prog X2 = .ok (.bool (lastB L)) X2) := by
    have := blk_cell r2 (j := 0) rfl
    show _ = _
    simp [loadVar, go_sem, this]
  have HKB : Hid _ := kB2
  clear r1 r2 on6 on5 q1 q2 hst hst2 k1 k2 kB kB2
  refine wpAnyH_done (by kernel_rfl) ?_ _
  go_show
  go_wp2
  refine bodyPost_ret (res_cell22 Try.results42 rfl rfl HLV.out HLB.out) rfl ?_
  rw [← HQ.out]
  exact ⟨rfl, HKB.out⟩
end Go.Proofs.Ytabmkbhmgfneiaa
