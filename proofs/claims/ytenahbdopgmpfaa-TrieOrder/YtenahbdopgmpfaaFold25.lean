/-
  del of any entry out of either tree of a table.
  put of any entry into either tree of a table.
-/
import Derived.Test.YtenahbdopgmpfaaFold24
import Derived.Test.YtenahbdopgmpfaaFold21
namespace Go.Proofs.Ytenahbdopgmpfaa
open Go Go.RowKit Go.Shelf
set_option linter.unusedVariables false
set_option linter.unusedSimpArgs false

set_option maxHeartbeats 4000000 in
set_option maxRecDepth 100000 in
theorem del4_is {W : World} {b : Nat} {lim cnt : Int} {T4 T6 : Tr} (h : W.heap[b]? = some (.cells (tbC true lim cnt T4 T6).toArray 76)) (hok : T4.Ok) (hwf : T4.wf) (k : Bs) (hk : k.length ≤ 128) (hwas : (getN (T4.walk (fun q => pre q k)) k).2 = true) (hcn : 0 < cnt ∧ cnt ≤ 65536) :
    Calls Try.prog 55 #[.pointer (some ⟨b, 0, none⟩), .pointer (some ⟨b, 3, none⟩), KV k] W fun e w' => e = .returned (.int .i64 0) ∧ w'.heap[b]? = some (.cells (tbC true lim (cnt - 1) (T4.del k) T6).toArray 76) ∧ W.heap.size ≤ w'.heap.size ∧ (∀ B, B ≤ b → B ≤ W.heap.size → Below B W w') ∧ (∀ j, j < W.heap.size → j ≠ b → w'.heap[j]? = W.heap[j]?) := by
  obtain ⟨W1, hW1⟩ : ∃ W1, W1 = W.alloc (.cells (kC k).toArray 39) := ⟨_, rfl⟩
  have hB1 : Below W.heap.size W W1 := by rw [hW1]; exact (Below.refl W.heap.size W).alloc (Nat.le_refl _) _
  have hsL : W1.heap[W.heap.size]? = some (.cells (kC k).toArray 39) := by rw [hW1]; exact blk_new W _
  have hsT := blk_on h hB1
  have HG : Hid (∀ X : World, Calls Try.prog 56 #[enc T4, KV k] X fun e w' => e = .returned (.tuple #[.int .i64 (getN (T4.walk (fun q => pre q k)) k).1, .bool true]) ∧ Below X.heap.size X w') := fun X => by
    have := get_any T4 hok k hk X
    rwa [hwas] at this
  have HW : Hid (∀ X : World, Calls Try.prog 72 #[enc T4, KV k] X fun e w' => e = .returned (enc (T4.del k)) ∧ Below X.heap.size X w') := fun X => without_any T4 hok hwf k hk X
  have hbn : b < W.heap.size := (Array.getElem?_eq_some_iff.1 h).1
  have HBN : Hid (b < W.heap.size) := hbn
  have HST : Hid (W1.heap[b]? = some (.cells (tbC true lim cnt T4 T6).toArray 76)) := hsT
  have HSL : Hid (W1.heap[W.heap.size]? = some (.cells (kC k).toArray 39)) := hsL
  have HB1 : Hid (Below W.heap.size W W1) := hB1
  have HE1 : Hid ((enc T4).oneCell' = true ∧ NodeV (enc (T4.del k))) := ⟨enc_one _, enc_node _⟩
  have hW := hW1.symm
  clear hwas hsL hsT hB1 hW1 h hok hbn hwf
  generalize (getN (T4.walk (fun q => pre q k)) k).1 = g1 at *
  generalize hQ : (fun (e : Ending) (w' : World) => e = .returned (.int .i64 0) ∧ w'.heap[b]? = some (.cells (tbC true lim (cnt - 1) (T4.del k) T6).toArray 76) ∧ W.heap.size ≤ w'.heap.size ∧ (∀ B, B ≤ b → B ≤ W.heap.size → Below B W w') ∧ (∀ j, j < W.heap.size → j ≠ b → w'.heap[j]? = W.heap[j]?)) = Q
  have HQ : Hid (∀ e w', e = .returned (.int .i64 0) ∧ w'.heap[b]? = some (.cells (tbC true lim (cnt - 1) (T4.del k) T6).toArray 76) ∧ W.heap.size ≤ w'.heap.size ∧ (∀ B, B ≤ b → B ≤ W.heap.size → Below B W w') ∧ (∀ j, j < W.heap.size → j ≠ b → w'.heap[j]? = W.heap[j]?) → Q e w') := fun e w' hh => by rw [← hQ]; exact hh
  clear hQ
  go_enter Try.func55, Try.ntmps55
  go_wp2_with fail
  refine region_midT (fun a0 a' w' => a' = ((((((((((a0.put (some 10) (.pointer (some ⟨b, 3, none⟩))).put (some 11) (.pointer (some ⟨b, 3, none⟩))).put (some 12) (enc T4)).put (some 13) (KV k)).put (some 14) (.tuple #[.int .i64 g1, .bool true])).put (some 9) (.tuple #[.int .i64 g1, .bool true])).put (some 15) (.int .i64 g1)).put (some 16) (.bool true)).put (some 7) (.int .i64 g1)).put (some 8) (.bool true)) ∧ Below W1.heap.size W1 w') ?_ ?_
  · skip
    refine wp_region_held (S := (fun X => X.heap[b]? = some (.cells (tbC true lim cnt T4 T6).toArray 76) ∧ X.heap[W.heap.size]? = some (.cells (kC k).toArray 39))) (by kernel_rfl) ?_
    show wpAnyH _ _ _ _ _ 10 (Array.replicate 10 false) _ _
    have hS0 : W1.drew.heap[b]? = some (.cells (tbC true lim cnt T4 T6).toArray 76) ∧ W1.drew.heap[W.heap.size]? = some (.cells (kC k).toArray 39) := ⟨HST.out, HSL.out⟩
    refine take_one (i := 0) (d := some 10) (v := .pointer (some ⟨b, 3, none⟩)) rfl rfl rfl (by kernel_rfl) (by kernel_rfl) (by kernel_rfl) (fun _ _ _ _ _ h => h.elim) (fun X hS => by kernel_rfl) hS0 ?_
    simp only [Act.put, List.setIfInBounds_toArray, List.set_cons_zero, List.set_cons_succ]
    refine take_one (i := 1) (d := some 11) (v := .pointer (some ⟨b, 3, none⟩)) rfl rfl rfl (by kernel_rfl) (by kernel_rfl) (by kernel_rfl) (fun _ _ _ _ _ h => h.elim) (fun X hS => by kernel_rfl) hS0 ?_
    simp only [Act.put, List.setIfInBounds_toArray, List.set_cons_zero, List.set_cons_succ]
    refine take_one (i := 2) (d := some 12) (v := enc T4) rfl rfl rfl (by kernel_rfl) (by kernel_rfl) (by kernel_rfl) (fun _ _ _ _ _ h => h.elim) (fun X hS => ex_loadA (.tmp 11) 74 rfl rfl (ld_node3 hS.1)) hS0 ?_
    simp only [Act.put, List.setIfInBounds_toArray, List.set_cons_zero, List.set_cons_succ]
    refine take_one (i := 3) (d := some 13) (v := KV k) rfl rfl rfl (by kernel_rfl) (by kernel_rfl) (by kernel_rfl) (fun _ _ _ _ _ h => h.elim) (fun X hS => ex_loadA (.tmp 5) 39 rfl rfl (kb_key (kb0 hS.2))) hS0 ?_
    simp only [Act.put, List.setIfInBounds_toArray, List.set_cons_zero, List.set_cons_succ]
    refine all_one (i := 4) (by kernel_rfl) rfl rfl ?_
    refine wp_call (d := some 14) 56 _ rfl (by kernel_rfl) (callR (HG.out _)) ?_
    rintro _ X1 ⟨rfl, hb1⟩
    have hS1 := And.intro (blk_kept hS0.1 hb1) (blk_kept hS0.2 hb1)
    refine ⟨hS1, ?_⟩
    simp only [Act.put, List.setIfInBounds_toArray, List.set_cons_zero, List.set_cons_succ]
    refine take_one (i := 5) (d := some 9) (v := .tuple #[.int .i64 g1, .bool true]) rfl rfl rfl (by kernel_rfl) (by kernel_rfl) (by kernel_rfl) (fun _ _ _ _ _ h => h.elim) (fun X hS => by kernel_rfl) hS1 ?_
    simp only [Act.put, List.setIfInBounds_toArray, List.set_cons_zero, List.set_cons_succ]
    refine take_one (i := 6) (d := some 15) (v := .int .i64 g1) rfl rfl rfl (by kernel_rfl) (by kernel_rfl) (by kernel_rfl) (fun _ _ _ _ _ h => h.elim) (fun X hS => by kernel_rfl) hS1 ?_
    simp only [Act.put, List.setIfInBounds_toArray, List.set_cons_zero, List.set_cons_succ]
    refine take_one (i := 7) (d := some 16) (v := .bool true) rfl rfl rfl (by kernel_rfl) (by kernel_rfl) (by kernel_rfl) (fun _ _ _ _ _ h => h.elim) (fun X hS => by kernel_rfl) hS1 ?_
    simp only [Act.put, List.setIfInBounds_toArray, List.set_cons_zero, List.set_cons_succ]
    refine take_one (i := 8) (d := some 7) (v := .int .i64 g1) rfl rfl rfl (by kernel_rfl) (by kernel_rfl) (by kernel_rfl) (fun _ _ _ _ _ h => h.elim) (fun X hS => by kernel_rfl) hS1 ?_
    simp only [Act.put, List.setIfInBounds_toArray, List.set_cons_zero, List.set_cons_succ]
    refine take_one (i := 9) (d := some 8) (v := .bool true) rfl rfl rfl (by kernel_rfl) (by kernel_rfl) (by kernel_rfl) (fun _ _ _ _ _ h => h.elim) (fun X hS => by kernel_rfl) hS1 ?_
    simp only [Act.put, List.setIfInBounds_toArray, List.set_cons_zero, List.set_cons_succ]
    refine wpAnyH_done (by kernel_rfl) ?_ _
    exact ⟨rfl, ((Below.refl _ W1).drew).trans hb1⟩
  · rintro a' w2 ⟨rfl, hb2⟩
    simp only [Act.put, List.setIfInBounds_toArray, List.set_cons_zero, List.set_cons_succ]
    have hT2 := blk_kept HST.out hb2
    have hL2 := blk_kept HSL.out hb2
    have c2 : w2.cell? ⟨b, 2, none⟩ = some (.int .i64 cnt) := blk_cell hT2 rfl
    have o2 := blk_open hT2 2
    obtain ⟨w3, hw3⟩ : ∃ w3, w3 = w2.setCell ⟨b, 2, none⟩ (.int .i64 (cnt - 1)) := ⟨_, rfl⟩
    have hT3 : w3.heap[b]? = some (.cells (tbC true lim (cnt - 1) T4 T6).toArray 76) := by rw [hw3]; exact blk_set hT2 2 _
    have ho3 : Only b w2 w3 := by rw [hw3]; exact (Only.refl b w2).set 2 _
    have hL3 := (ho3.other W.heap.size (by have := HBN.out; omega)).trans hL2
    have HT3 : Hid (w3.heap[b]? = some (.cells (tbC true lim (cnt - 1) T4 T6).toArray 76)) := hT3
    have HL3 : Hid (w3.heap[W.heap.size]? = some (.cells (kC k).toArray 39)) := hL3
    have HB3 : Hid (∀ B, B ≤ b → B ≤ W.heap.size → Below B W w3) := fun B hB hB2 => ((HB1.out.mono hB2).trans (hb2.mono (Nat.le_trans hB2 HB1.out.size))).trans (ho3.below hB)
    have HZ3 : Hid (W.heap.size ≤ w3.heap.size) := by
      have h1 := HB1.out.size
      have h2 := hb2.size
      have h3 := ho3.size
      have : W.heap.size ≤ w3.heap.size := by omega
      exact this
    have HO3 : Hid (∀ j, j < W.heap.size → j ≠ b → w3.heap[j]? = W.heap[j]?) := fun j hj hn => (ho3.other j hn).trans ((hb2.block j (Nat.lt_of_lt_of_le hj HB1.out.size)).trans (HB1.out.block j hj))
    have hw3' := hw3.symm
    clear hT2 hL2 hT3 ho3 hL3 hb2 hw3 HST HSL HG HB1
    go_wp2_with fail
    refine region_midT (fun a0 a' w' => a' = (((((((a0.put (some 26) (.pointer (some ⟨b, 3, none⟩))).put (some 27) (.pointer (some ⟨b, 3, none⟩))).put (some 28) (.pointer (some ⟨b, 3, none⟩))).put (some 29) (enc T4)).put (some 30) (KV k)).put (some 31) (enc (T4.del k))).put (some 32) (.pointer (some ⟨b, 3, none⟩))) ∧ w'.heap[b]? = some (.cells (tbC true lim (cnt - 1) (T4.del k) T6).toArray 76) ∧ w3.heap.size ≤ w'.heap.size ∧ (∀ B, B ≤ b → Below B w3 w') ∧ (∀ j, j < w3.heap.size → j ≠ b → w'.heap[j]? = w3.heap[j]?)) ?_ ?_
    · skip
      refine wp_region_held (S := fun X => (∃ T, X.heap[b]? = some (.cells (tbC true lim (cnt - 1) T T6).toArray 76)) ∧ X.heap[W.heap.size]? = some (.cells (kC k).toArray 39)) (by kernel_rfl) ?_
      show wpAnyH _ _ _ _ _ 8 (Array.replicate 8 false) _ _
      have hT0 : w3.drew.heap[b]? = some (.cells (tbC true lim (cnt - 1) T4 T6).toArray 76) := HT3.out
      have hS0 : (∃ T, w3.drew.heap[b]? = some (.cells (tbC true lim (cnt - 1) T T6).toArray 76)) ∧ w3.drew.heap[W.heap.size]? = some (.cells (kC k).toArray 39) := ⟨⟨T4, HT3.out⟩, HL3.out⟩
      refine take_one (i := 0) (d := some 26) (v := .pointer (some ⟨b, 3, none⟩)) rfl rfl rfl (by kernel_rfl) (by kernel_rfl) (by kernel_rfl) (fun _ _ _ _ _ h => h.elim) (fun X hS => by kernel_rfl) hS0 ?_
      simp only [Act.put, List.setIfInBounds_toArray, List.set_cons_zero, List.set_cons_succ]
      refine take_one (i := 1) (d := some 27) (v := .pointer (some ⟨b, 3, none⟩)) rfl rfl rfl (by kernel_rfl) (by kernel_rfl) (by kernel_rfl) (fun _ _ _ _ _ h => h.elim) (fun X hS => by kernel_rfl) hS0 ?_
      simp only [Act.put, List.setIfInBounds_toArray, List.set_cons_zero, List.set_cons_succ]
      refine take_one (i := 2) (d := some 28) (v := .pointer (some ⟨b, 3, none⟩)) rfl rfl rfl (by kernel_rfl) (by kernel_rfl) (by kernel_rfl) (fun _ _ _ _ _ h => h.elim) (fun X hS => by kernel_rfl) hS0 ?_
      simp only [Act.put, List.setIfInBounds_toArray, List.set_cons_zero, List.set_cons_succ]
      refine take_one (i := 4) (d := some 30) (v := KV k) rfl rfl rfl (by kernel_rfl) (by kernel_rfl) (by kernel_rfl) (fun _ _ _ _ _ h => h.elim) (fun X hS => ex_loadA (.tmp 5) 39 rfl rfl (kb_key (kb0 hS.2))) hS0 ?_
      simp only [Act.put, List.setIfInBounds_toArray, List.set_cons_zero, List.set_cons_succ]
      refine all_one (i := 3) (by kernel_rfl) rfl rfl ?_
      refine wp_effT (d := some 29) (v := enc T4) rfl (ex_loadA (.tmp 28) 74 rfl rfl (ld_node3 hT0)) ⟨hS0, ?_⟩
      simp only [Act.put, List.setIfInBounds_toArray, List.set_cons_zero, List.set_cons_succ]
      refine all_one (i := 5) (by kernel_rfl) rfl rfl ?_
      refine wp_call (d := some 31) 72 _ rfl (by kernel_rfl) (callR (HW.out _)) ?_
      rintro _ X1 ⟨rfl, hb1⟩
      have hT1 := blk_kept hT0 hb1
      have hL1 := blk_kept hS0.2 hb1
      refine ⟨⟨⟨T4, hT1⟩, hL1⟩, ?_⟩
      simp only [Act.put, List.setIfInBounds_toArray, List.set_cons_zero, List.set_cons_succ]
      refine take_one (i := 6) (d := some 32) (v := .pointer (some ⟨b, 3, none⟩)) rfl rfl rfl (by kernel_rfl) (by kernel_rfl) (by kernel_rfl) (fun _ _ _ _ _ h => h.elim) (fun X hS => by kernel_rfl) ⟨⟨T4, hT1⟩, hL1⟩ ?_
      simp only [Act.put, List.setIfInBounds_toArray, List.set_cons_zero, List.set_cons_succ]
      obtain ⟨X2, hst, hT2, ho2⟩ : ∃ X2, (Instr.storeAt 74 (.pointer (some ⟨b, 3, none⟩)) (enc (T4.del k))).run Try.prog X1 = .ok () X2 ∧ X2.heap[b]? = some (.cells (tbC true lim (cnt - 1) (T4.del k) T6).toArray 76) ∧ Only b X1 X2 := ⟨_, st_node hT1 (show 3 < 5 by decide) HE1.out.2, blk_set hT1 3 _, (Only.refl b X1).set 3 _⟩
      have hL2 := (ho2.other W.heap.size (by have := HBN.out; omega)).trans hL1
      refine all_one (i := 7) (by kernel_rfl) rfl rfl ?_
      refine wp_storeA (.tmp 32) (.tmp 31) 74 rfl rfl rfl rfl hst ⟨⟨⟨_, hT2⟩, hL2⟩, ?_⟩
      refine wpAnyH_done (by kernel_rfl) ?_ _
      have hbx : ∀ B, B ≤ b → Below B w3 X2 := fun B hB => (((Below.refl w3.heap.size w3).drew.trans hb1).mono (Nat.le_trans hB (Nat.le_of_lt (Array.getElem?_eq_some_iff.1 HT3.out).1))).trans (ho2.below hB)
      exact ⟨rfl, hT2, (hbx b (Nat.le_refl _)).size, hbx, fun j hj hn => (ho2.other j hn).trans (((Below.refl w3.heap.size w3).drew.trans hb1).block j hj)⟩
    · rintro a' w4 ⟨rfl, hT4, hz4, hb4, ho4⟩
      simp only [Act.put, List.setIfInBounds_toArray, List.set_cons_zero, List.set_cons_succ]
      have HF : Hid (Q (.returned (.int .i64 0)) w4) := HQ.out _ _ ⟨rfl, hT4, Nat.le_trans HZ3.out hz4, fun B hB hB2 => (HB3.out B hB hB2).trans (hb4 B hB), fun j hj hn => (ho4 j (Nat.lt_of_lt_of_le hj HZ3.out) hn).trans (HO3.out j hj hn)⟩
      clear hT4 hz4 hb4 ho4 HO3 HW HT3 HL3 HB3 HZ3 HQ
      go_wp2
      try go_ret
      exact HF.out
set_option maxHeartbeats 4000000 in
set_option maxRecDepth 100000 in
theorem del4_no {W : World} {b : Nat} {lim cnt : Int} {T4 T6 : Tr} (h : W.heap[b]? = some (.cells (tbC true lim cnt T4 T6).toArray 76)) (hok : T4.Ok) (hwf : T4.wf) (k : Bs) (hk : k.length ≤ 128) (hwas : (getN (T4.walk (fun q => pre q k)) k).2 = false) :
    Calls Try.prog 55 #[.pointer (some ⟨b, 0, none⟩), .pointer (some ⟨b, 3, none⟩), KV k] W fun e w' => e = .returned (.int .i64 120) ∧ w'.heap[b]? = some (.cells (tbC true lim cnt T4 T6).toArray 76) ∧ W.heap.size ≤ w'.heap.size ∧ (∀ B, B ≤ b → B ≤ W.heap.size → Below B W w') ∧ (∀ j, j < W.heap.size → j ≠ b → w'.heap[j]? = W.heap[j]?) := by
  obtain ⟨W1, hW1⟩ : ∃ W1, W1 = W.alloc (.cells (kC k).toArray 39) := ⟨_, rfl⟩
  have hB1 : Below W.heap.size W W1 := by rw [hW1]; exact (Below.refl W.heap.size W).alloc (Nat.le_refl _) _
  have hsL : W1.heap[W.heap.size]? = some (.cells (kC k).toArray 39) := by rw [hW1]; exact blk_new W _
  have hsT := blk_on h hB1
  have HG : Hid (∀ X : World, Calls Try.prog 56 #[enc T4, KV k] X fun e w' => e = .returned (.tuple #[.int .i64 (getN (T4.walk (fun q => pre q k)) k).1, .bool false]) ∧ Below X.heap.size X w') := fun X => by
    have := get_any T4 hok k hk X
    rwa [hwas] at this
  have hbn : b < W.heap.size := (Array.getElem?_eq_some_iff.1 h).1
  have HBN : Hid (b < W.heap.size) := hbn
  have HST : Hid (W1.heap[b]? = some (.cells (tbC true lim cnt T4 T6).toArray 76)) := hsT
  have HSL : Hid (W1.heap[W.heap.size]? = some (.cells (kC k).toArray 39)) := hsL
  have HB1 : Hid (Below W.heap.size W W1) := hB1
  have HE1 : Hid ((enc T4).oneCell' = true ∧ NodeV (enc (T4.del k))) := ⟨enc_one _, enc_node _⟩
  have hW := hW1.symm
  clear hwas hsL hsT hB1 hW1 h hok hbn hwf
  generalize (getN (T4.walk (fun q => pre q k)) k).1 = g1 at *
  generalize hQ : (fun (e : Ending) (w' : World) => e = .returned (.int .i64 120) ∧ w'.heap[b]? = some (.cells (tbC true lim cnt T4 T6).toArray 76) ∧ W.heap.size ≤ w'.heap.size ∧ (∀ B, B ≤ b → B ≤ W.heap.size → Below B W w') ∧ (∀ j, j < W.heap.size → j ≠ b → w'.heap[j]? = W.heap[j]?)) = Q
  have HQ : Hid (∀ e w', e = .returned (.int .i64 120) ∧ w'.heap[b]? = some (.cells (tbC true lim cnt T4 T6).toArray 76) ∧ W.heap.size ≤ w'.heap.size ∧ (∀ B, B ≤ b → B ≤ W.heap.size → Below B W w') ∧ (∀ j, j < W.heap.size → j ≠ b → w'.heap[j]? = W.heap[j]?) → Q e w') := fun e w' hh => by rw [← hQ]; exact hh
  clear hQ
  go_enter Try.func55, Try.ntmps55
  go_wp2_with fail
  refine region_midT (fun a0 a' w' => a' = ((((((((((a0.put (some 10) (.pointer (some ⟨b, 3, none⟩))).put (some 11) (.pointer (some ⟨b, 3, none⟩))).put (some 12) (enc T4)).put (some 13) (KV k)).put (some 14) (.tuple #[.int .i64 g1, .bool false])).put (some 9) (.tuple #[.int .i64 g1, .bool false])).put (some 15) (.int .i64 g1)).put (some 16) (.bool false)).put (some 7) (.int .i64 g1)).put (some 8) (.bool false)) ∧ Below W1.heap.size W1 w') ?_ ?_
  · skip
    refine wp_region_held (S := (fun X => X.heap[b]? = some (.cells (tbC true lim cnt T4 T6).toArray 76) ∧ X.heap[W.heap.size]? = some (.cells (kC k).toArray 39))) (by kernel_rfl) ?_
    show wpAnyH _ _ _ _ _ 10 (Array.replicate 10 false) _ _
    have hS0 : W1.drew.heap[b]? = some (.cells (tbC true lim cnt T4 T6).toArray 76) ∧ W1.drew.heap[W.heap.size]? = some (.cells (kC k).toArray 39) := ⟨HST.out, HSL.out⟩
    refine take_one (i := 0) (d := some 10) (v := .pointer (some ⟨b, 3, none⟩)) rfl rfl rfl (by kernel_rfl) (by kernel_rfl) (by kernel_rfl) (fun _ _ _ _ _ h => h.elim) (fun X hS => by kernel_rfl) hS0 ?_
    simp only [Act.put, List.setIfInBounds_toArray, List.set_cons_zero, List.set_cons_succ]
    refine take_one (i := 1) (d := some 11) (v := .pointer (some ⟨b, 3, none⟩)) rfl rfl rfl (by kernel_rfl) (by kernel_rfl) (by kernel_rfl) (fun _ _ _ _ _ h => h.elim) (fun X hS => by kernel_rfl) hS0 ?_
    simp only [Act.put, List.setIfInBounds_toArray, List.set_cons_zero, List.set_cons_succ]
    refine take_one (i := 2) (d := some 12) (v := enc T4) rfl rfl rfl (by kernel_rfl) (by kernel_rfl) (by kernel_rfl) (fun _ _ _ _ _ h => h.elim) (fun X hS => ex_loadA (.tmp 11) 74 rfl rfl (ld_node3 hS.1)) hS0 ?_
    simp only [Act.put, List.setIfInBounds_toArray, List.set_cons_zero, List.set_cons_succ]
    refine take_one (i := 3) (d := some 13) (v := KV k) rfl rfl rfl (by kernel_rfl) (by kernel_rfl) (by kernel_rfl) (fun _ _ _ _ _ h => h.elim) (fun X hS => ex_loadA (.tmp 5) 39 rfl rfl (kb_key (kb0 hS.2))) hS0 ?_
    simp only [Act.put, List.setIfInBounds_toArray, List.set_cons_zero, List.set_cons_succ]
    refine all_one (i := 4) (by kernel_rfl) rfl rfl ?_
    refine wp_call (d := some 14) 56 _ rfl (by kernel_rfl) (callR (HG.out _)) ?_
    rintro _ X1 ⟨rfl, hb1⟩
    have hS1 := And.intro (blk_kept hS0.1 hb1) (blk_kept hS0.2 hb1)
    refine ⟨hS1, ?_⟩
    simp only [Act.put, List.setIfInBounds_toArray, List.set_cons_zero, List.set_cons_succ]
    refine take_one (i := 5) (d := some 9) (v := .tuple #[.int .i64 g1, .bool false]) rfl rfl rfl (by kernel_rfl) (by kernel_rfl) (by kernel_rfl) (fun _ _ _ _ _ h => h.elim) (fun X hS => by kernel_rfl) hS1 ?_
    simp only [Act.put, List.setIfInBounds_toArray, List.set_cons_zero, List.set_cons_succ]
    refine take_one (i := 6) (d := some 15) (v := .int .i64 g1) rfl rfl rfl (by kernel_rfl) (by kernel_rfl) (by kernel_rfl) (fun _ _ _ _ _ h => h.elim) (fun X hS => by kernel_rfl) hS1 ?_
    simp only [Act.put, List.setIfInBounds_toArray, List.set_cons_zero, List.set_cons_succ]
    refine take_one (i := 7) (d := some 16) (v := .bool false) rfl rfl rfl (by kernel_rfl) (by kernel_rfl) (by kernel_rfl) (fun _ _ _ _ _ h => h.elim) (fun X hS => by kernel_rfl) hS1 ?_
    simp only [Act.put, List.setIfInBounds_toArray, List.set_cons_zero, List.set_cons_succ]
    refine take_one (i := 8) (d := some 7) (v := .int .i64 g1) rfl rfl rfl (by kernel_rfl) (by kernel_rfl) (by kernel_rfl) (fun _ _ _ _ _ h => h.elim) (fun X hS => by kernel_rfl) hS1 ?_
    simp only [Act.put, List.setIfInBounds_toArray, List.set_cons_zero, List.set_cons_succ]
    refine take_one (i := 9) (d := some 8) (v := .bool false) rfl rfl rfl (by kernel_rfl) (by kernel_rfl) (by kernel_rfl) (fun _ _ _ _ _ h => h.elim) (fun X hS => by kernel_rfl) hS1 ?_
    simp only [Act.put, List.setIfInBounds_toArray, List.set_cons_zero, List.set_cons_succ]
    refine wpAnyH_done (by kernel_rfl) ?_ _
    exact ⟨rfl, ((Below.refl _ W1).drew).trans hb1⟩
  · rintro a' w2 ⟨rfl, hb2⟩
    simp only [Act.put, List.setIfInBounds_toArray, List.set_cons_zero, List.set_cons_succ]
    have hT2 := blk_kept HST.out hb2
    have hL2 := blk_kept HSL.out hb2
    have HF : Hid (Q (.returned (.int .i64 120)) w2) := HQ.out _ _ ⟨rfl, hT2, Nat.le_trans HB1.out.size hb2.size, fun B hB hB2 => (HB1.out.mono hB2).trans (hb2.mono (Nat.le_trans hB2 HB1.out.size)), fun j hj hn => (hb2.block j (Nat.lt_of_lt_of_le hj HB1.out.size)).trans (HB1.out.block j hj)⟩
    clear hT2 hL2 hb2 HST HSL HG HB1 HQ
    go_wp2
    try go_ret
    exact HF.out
set_option maxHeartbeats 4000000 in
set_option maxRecDepth 100000 in
theorem del6_is {W : World} {b : Nat} {lim cnt : Int} {T4 T6 : Tr} (h : W.heap[b]? = some (.cells (tbC true lim cnt T4 T6).toArray 76)) (hok : T6.Ok) (hwf : T6.wf) (k : Bs) (hk : k.length ≤ 128) (hwas : (getN (T6.walk (fun q => pre q k)) k).2 = true) (hcn : 0 < cnt ∧ cnt ≤ 65536) :
    Calls Try.prog 55 #[.pointer (some ⟨b, 0, none⟩), .pointer (some ⟨b, 4, none⟩), KV k] W fun e w' => e = .returned (.int .i64 0) ∧ w'.heap[b]? = some (.cells (tbC true lim (cnt - 1) T4 (T6.del k)).toArray 76) ∧ W.heap.size ≤ w'.heap.size ∧ (∀ B, B ≤ b → B ≤ W.heap.size → Below B W w') ∧ (∀ j, j < W.heap.size → j ≠ b → w'.heap[j]? = W.heap[j]?) := by
  obtain ⟨W1, hW1⟩ : ∃ W1, W1 = W.alloc (.cells (kC k).toArray 39) := ⟨_, rfl⟩
  have hB1 : Below W.heap.size W W1 := by rw [hW1]; exact (Below.refl W.heap.size W).alloc (Nat.le_refl _) _
  have hsL : W1.heap[W.heap.size]? = some (.cells (kC k).toArray 39) := by rw [hW1]; exact blk_new W _
  have hsT := blk_on h hB1
  have HG : Hid (∀ X : World, Calls Try.prog 56 #[enc T6, KV k] X fun e w' => e = .returned (.tuple #[.int .i64 (getN (T6.walk (fun q => pre q k)) k).1, .bool true]) ∧ Below X.heap.size X w') := fun X => by
    have := get_any T6 hok k hk X
    rwa [hwas] at this
  have HW : Hid (∀ X : World, Calls Try.prog 72 #[enc T6, KV k] X fun e w' => e = .returned (enc (T6.del k)) ∧ Below X.heap.size X w') := fun X => without_any T6 hok hwf k hk X
  have hbn : b < W.heap.size := (Array.getElem?_eq_some_iff.1 h).1
  have HBN : Hid (b < W.heap.size) := hbn
  have HST : Hid (W1.heap[b]? = some (.cells (tbC true lim cnt T4 T6).toArray 76)) := hsT
  have HSL : Hid (W1.heap[W.heap.size]? = some (.cells (kC k).toArray 39)) := hsL
  have HB1 : Hid (Below W.heap.size W W1) := hB1
  have HE1 : Hid ((enc T6).oneCell' = true ∧ NodeV (enc (T6.del k))) := ⟨enc_one _, enc_node _⟩
  have hW := hW1.symm
  clear hwas hsL hsT hB1 hW1 h hok hbn hwf
  generalize (getN (T6.walk (fun q => pre q k)) k).1 = g1 at *
  generalize hQ : (fun (e : Ending) (w' : World) => e = .returned (.int .i64 0) ∧ w'.heap[b]? = some (.cells (tbC true lim (cnt - 1) T4 (T6.del k)).toArray 76) ∧ W.heap.size ≤ w'.heap.size ∧ (∀ B, B ≤ b → B ≤ W.heap.size → Below B W w') ∧ (∀ j, j < W.heap.size → j ≠ b → w'.heap[j]? = W.heap[j]?)) = Q
  have HQ : Hid (∀ e w', e = .returned (.int .i64 0) ∧ w'.heap[b]? = some (.cells (tbC true lim (cnt - 1) T4 (T6.del k)).toArray 76) ∧ W.heap.size ≤ w'.heap.size ∧ (∀ B, B ≤ b → B ≤ W.heap.size → Below B W w') ∧ (∀ j, j < W.heap.size → j ≠ b → w'.heap[j]? = W.heap[j]?) → Q e w') := fun e w' hh => by rw [← hQ]; exact hh
  clear hQ
  go_enter Try.func55, Try.ntmps55
  go_wp2_with fail
  refine region_midT (fun a0 a' w' => a' = ((((((((((a0.put (some 10) (.pointer (some ⟨b, 4, none⟩))).put (some 11) (.pointer (some ⟨b, 4, none⟩))).put (some 12) (enc T6)).put (some 13) (KV k)).put (some 14) (.tuple #[.int .i64 g1, .bool true])).put (some 9) (.tuple #[.int .i64 g1, .bool true])).put (some 15) (.int .i64 g1)).put (some 16) (.bool true)).put (some 7) (.int .i64 g1)).put (some 8) (.bool true)) ∧ Below W1.heap.size W1 w') ?_ ?_
  · skip
    refine wp_region_held (S := (fun X => X.heap[b]? = some (.cells (tbC true lim cnt T4 T6).toArray 76) ∧ X.heap[W.heap.size]? = some (.cells (kC k).toArray 39))) (by kernel_rfl) ?_
    show wpAnyH _ _ _ _ _ 10 (Array.replicate 10 false) _ _
    have hS0 : W1.drew.heap[b]? = some (.cells (tbC true lim cnt T4 T6).toArray 76) ∧ W1.drew.heap[W.heap.size]? = some (.cells (kC k).toArray 39) := ⟨HST.out, HSL.out⟩
    refine take_one (i := 0) (d := some 10) (v := .pointer (some ⟨b, 4, none⟩)) rfl rfl rfl (by kernel_rfl) (by kernel_rfl) (by kernel_rfl) (fun _ _ _ _ _ h => h.elim) (fun X hS => by kernel_rfl) hS0 ?_
    simp only [Act.put, List.setIfInBounds_toArray, List.set_cons_zero, List.set_cons_succ]
    refine take_one (i := 1) (d := some 11) (v := .pointer (some ⟨b, 4, none⟩)) rfl rfl rfl (by kernel_rfl) (by kernel_rfl) (by kernel_rfl) (fun _ _ _ _ _ h => h.elim) (fun X hS => by kernel_rfl) hS0 ?_
    simp only [Act.put, List.setIfInBounds_toArray, List.set_cons_zero, List.set_cons_succ]
    refine take_one (i := 2) (d := some 12) (v := enc T6) rfl rfl rfl (by kernel_rfl) (by kernel_rfl) (by kernel_rfl) (fun _ _ _ _ _ h => h.elim) (fun X hS => ex_loadA (.tmp 11) 74 rfl rfl (ld_node4 hS.1)) hS0 ?_
    simp only [Act.put, List.setIfInBounds_toArray, List.set_cons_zero, List.set_cons_succ]
    refine take_one (i := 3) (d := some 13) (v := KV k) rfl rfl rfl (by kernel_rfl) (by kernel_rfl) (by kernel_rfl) (fun _ _ _ _ _ h => h.elim) (fun X hS => ex_loadA (.tmp 5) 39 rfl rfl (kb_key (kb0 hS.2))) hS0 ?_
    simp only [Act.put, List.setIfInBounds_toArray, List.set_cons_zero, List.set_cons_succ]
    refine all_one (i := 4) (by kernel_rfl) rfl rfl ?_
    refine wp_call (d := some 14) 56 _ rfl (by kernel_rfl) (callR (HG.out _)) ?_
    rintro _ X1 ⟨rfl, hb1⟩
    have hS1 := And.intro (blk_kept hS0.1 hb1) (blk_kept hS0.2 hb1)
    refine ⟨hS1, ?_⟩
    simp only [Act.put, List.setIfInBounds_toArray, List.set_cons_zero, List.set_cons_succ]
    refine take_one (i := 5) (d := some 9) (v := .tuple #[.int .i64 g1, .bool true]) rfl rfl rfl (by kernel_rfl) (by kernel_rfl) (by kernel_rfl) (fun _ _ _ _ _ h => h.elim) (fun X hS => by kernel_rfl) hS1 ?_
    simp only [Act.put, List.setIfInBounds_toArray, List.set_cons_zero, List.set_cons_succ]
    refine take_one (i := 6) (d := some 15) (v := .int .i64 g1) rfl rfl rfl (by kernel_rfl) (by kernel_rfl) (by kernel_rfl) (fun _ _ _ _ _ h => h.elim) (fun X hS => by kernel_rfl) hS1 ?_
    simp only [Act.put, List.setIfInBounds_toArray, List.set_cons_zero, List.set_cons_succ]
    refine take_one (i := 7) (d := some 16) (v := .bool true) rfl rfl rfl (by kernel_rfl) (by kernel_rfl) (by kernel_rfl) (fun _ _ _ _ _ h => h.elim) (fun X hS => by kernel_rfl) hS1 ?_
    simp only [Act.put, List.setIfInBounds_toArray, List.set_cons_zero, List.set_cons_succ]
    refine take_one (i := 8) (d := some 7) (v := .int .i64 g1) rfl rfl rfl (by kernel_rfl) (by kernel_rfl) (by kernel_rfl) (fun _ _ _ _ _ h => h.elim) (fun X hS => by kernel_rfl) hS1 ?_
    simp only [Act.put, List.setIfInBounds_toArray, List.set_cons_zero, List.set_cons_succ]
    refine take_one (i := 9) (d := some 8) (v := .bool true) rfl rfl rfl (by kernel_rfl) (by kernel_rfl) (by kernel_rfl) (fun _ _ _ _ _ h => h.elim) (fun X hS => by kernel_rfl) hS1 ?_
    simp only [Act.put, List.setIfInBounds_toArray, List.set_cons_zero, List.set_cons_succ]
    refine wpAnyH_done (by kernel_rfl) ?_ _
    exact ⟨rfl, ((Below.refl _ W1).drew).trans hb1⟩
  · rintro a' w2 ⟨rfl, hb2⟩
    simp only [Act.put, List.setIfInBounds_toArray, List.set_cons_zero, List.set_cons_succ]
    have hT2 := blk_kept HST.out hb2
    have hL2 := blk_kept HSL.out hb2
    have c2 : w2.cell? ⟨b, 2, none⟩ = some (.int .i64 cnt) := blk_cell hT2 rfl
    have o2 := blk_open hT2 2
    obtain ⟨w3, hw3⟩ : ∃ w3, w3 = w2.setCell ⟨b, 2, none⟩ (.int .i64 (cnt - 1)) := ⟨_, rfl⟩
    have hT3 : w3.heap[b]? = some (.cells (tbC true lim (cnt - 1) T4 T6).toArray 76) := by rw [hw3]; exact blk_set hT2 2 _
    have ho3 : Only b w2 w3 := by rw [hw3]; exact (Only.refl b w2).set 2 _
    have hL3 := (ho3.other W.heap.size (by have := HBN.out; omega)).trans hL2
    have HT3 : Hid (w3.heap[b]? = some (.cells (tbC true lim (cnt - 1) T4 T6).toArray 76)) := hT3
    have HL3 : Hid (w3.heap[W.heap.size]? = some (.cells (kC k).toArray 39)) := hL3
    have HB3 : Hid (∀ B, B ≤ b → B ≤ W.heap.size → Below B W w3) := fun B hB hB2 => ((HB1.out.mono hB2).trans (hb2.mono (Nat.le_trans hB2 HB1.out.size))).trans (ho3.below hB)
    have HZ3 : Hid (W.heap.size ≤ w3.heap.size) := by
      have h1 := HB1.out.size
      have h2 := hb2.size
      have h3 := ho3.size
      have : W.heap.size ≤ w3.heap.size := by omega
      exact this
    have HO3 : Hid (∀ j, j < W.heap.size → j ≠ b → w3.heap[j]? = W.heap[j]?) := fun j hj hn => (ho3.other j hn).trans ((hb2.block j (Nat.lt_of_lt_of_le hj HB1.out.size)).trans (HB1.out.block j hj))
    have hw3' := hw3.symm
    clear hT2 hL2 hT3 ho3 hL3 hb2 hw3 HST HSL HG HB1
    go_wp2_with fail
    refine region_midT (fun a0 a' w' => a' = (((((((a0.put (some 26) (.pointer (some ⟨b, 4, none⟩))).put (some 27) (.pointer (some ⟨b, 4, none⟩))).put (some 28) (.pointer (some ⟨b, 4, none⟩))).put (some 29) (enc T6)).put (some 30) (KV k)).put (some 31) (enc (T6.del k))).put (some 32) (.pointer (some ⟨b, 4, none⟩))) ∧ w'.heap[b]? = some (.cells (tbC true lim (cnt - 1) T4 (T6.del k)).toArray 76) ∧ w3.heap.size ≤ w'.heap.size ∧ (∀ B, B ≤ b → Below B w3 w') ∧ (∀ j, j < w3.heap.size → j ≠ b → w'.heap[j]? = w3.heap[j]?)) ?_ ?_
    · skip
      refine wp_region_held (S := fun X => (∃ T, X.heap[b]? = some (.cells (tbC true lim (cnt - 1) T4 T).toArray 76)) ∧ X.heap[W.heap.size]? = some (.cells (kC k).toArray 39)) (by kernel_rfl) ?_
      show wpAnyH _ _ _ _ _ 8 (Array.replicate 8 false) _ _
      have hT0 : w3.drew.heap[b]? = some (.cells (tbC true lim (cnt - 1) T4 T6).toArray 76) := HT3.out
      have hS0 : (∃ T, w3.drew.heap[b]? = some (.cells (tbC true lim (cnt - 1) T4 T).toArray 76)) ∧ w3.drew.heap[W.heap.size]? = some (.cells (kC k).toArray 39) := ⟨⟨T6, HT3.out⟩, HL3.out⟩
      refine take_one (i := 0) (d := some 26) (v := .pointer (some ⟨b, 4, none⟩)) rfl rfl rfl (by kernel_rfl) (by kernel_rfl) (by kernel_rfl) (fun _ _ _ _ _ h => h.elim) (fun X hS => by kernel_rfl) hS0 ?_
      simp only [Act.put, List.setIfInBounds_toArray, List.set_cons_zero, List.set_cons_succ]
      refine take_one (i := 1) (d := some 27) (v := .pointer (some ⟨b, 4, none⟩)) rfl rfl rfl (by kernel_rfl) (by kernel_rfl) (by kernel_rfl) (fun _ _ _ _ _ h => h.elim) (fun X hS => by kernel_rfl) hS0 ?_
      simp only [Act.put, List.setIfInBounds_toArray, List.set_cons_zero, List.set_cons_succ]
      refine take_one (i := 2) (d := some 28) (v := .pointer (some ⟨b, 4, none⟩)) rfl rfl rfl (by kernel_rfl) (by kernel_rfl) (by kernel_rfl) (fun _ _ _ _ _ h => h.elim) (fun X hS => by kernel_rfl) hS0 ?_
      simp only [Act.put, List.setIfInBounds_toArray, List.set_cons_zero, List.set_cons_succ]
      refine take_one (i := 4) (d := some 30) (v := KV k) rfl rfl rfl (by kernel_rfl) (by kernel_rfl) (by kernel_rfl) (fun _ _ _ _ _ h => h.elim) (fun X hS => ex_loadA (.tmp 5) 39 rfl rfl (kb_key (kb0 hS.2))) hS0 ?_
      simp only [Act.put, List.setIfInBounds_toArray, List.set_cons_zero, List.set_cons_succ]
      refine all_one (i := 3) (by kernel_rfl) rfl rfl ?_
      refine wp_effT (d := some 29) (v := enc T6) rfl (ex_loadA (.tmp 28) 74 rfl rfl (ld_node4 hT0)) ⟨hS0, ?_⟩
      simp only [Act.put, List.setIfInBounds_toArray, List.set_cons_zero, List.set_cons_succ]
      refine all_one (i := 5) (by kernel_rfl) rfl rfl ?_
      refine wp_call (d := some 31) 72 _ rfl (by kernel_rfl) (callR (HW.out _)) ?_
      rintro _ X1 ⟨rfl, hb1⟩
      have hT1 := blk_kept hT0 hb1
      have hL1 := blk_kept hS0.2 hb1
      refine ⟨⟨⟨T6, hT1⟩, hL1⟩, ?_⟩
      simp only [Act.put, List.setIfInBounds_toArray, List.set_cons_zero, List.set_cons_succ]
      refine take_one (i := 6) (d := some 32) (v := .pointer (some ⟨b, 4, none⟩)) rfl rfl rfl (by kernel_rfl) (by kernel_rfl) (by kernel_rfl) (fun _ _ _ _ _ h => h.elim) (fun X hS => by kernel_rfl) ⟨⟨T6, hT1⟩, hL1⟩ ?_
      simp only [Act.put, List.setIfInBounds_toArray, List.set_cons_zero, List.set_cons_succ]
      obtain ⟨X2, hst, hT2, ho2⟩ : ∃ X2, (Instr.storeAt 74 (.pointer (some ⟨b, 4, none⟩)) (enc (T6.del k))).run Try.prog X1 = .ok () X2 ∧ X2.heap[b]? = some (.cells (tbC true lim (cnt - 1) T4 (T6.del k)).toArray 76) ∧ Only b X1 X2 := ⟨_, st_node hT1 (show 4 < 5 by decide) HE1.out.2, blk_set hT1 4 _, (Only.refl b X1).set 4 _⟩
      have hL2 := (ho2.other W.heap.size (by have := HBN.out; omega)).trans hL1
      refine all_one (i := 7) (by kernel_rfl) rfl rfl ?_
      refine wp_storeA (.tmp 32) (.tmp 31) 74 rfl rfl rfl rfl hst ⟨⟨⟨_, hT2⟩, hL2⟩, ?_⟩
      refine wpAnyH_done (by kernel_rfl) ?_ _
      have hbx : ∀ B, B ≤ b → Below B w3 X2 := fun B hB => (((Below.refl w3.heap.size w3).drew.trans hb1).mono (Nat.le_trans hB (Nat.le_of_lt (Array.getElem?_eq_some_iff.1 HT3.out).1))).trans (ho2.below hB)
      exact ⟨rfl, hT2, (hbx b (Nat.le_refl _)).size, hbx, fun j hj hn => (ho2.other j hn).trans (((Below.refl w3.heap.size w3).drew.trans hb1).block j hj)⟩
    · rintro a' w4 ⟨rfl, hT4, hz4, hb4, ho4⟩
      simp only [Act.put, List.setIfInBounds_toArray, List.set_cons_zero, List.set_cons_succ]
      have HF : Hid (Q (.returned (.int .i64 0)) w4) := HQ.out _ _ ⟨rfl, hT4, Nat.le_trans HZ3.out hz4, fun B hB hB2 => (HB3.out B hB hB2).trans (hb4 B hB), fun j hj hn => (ho4 j (Nat.lt_of_lt_of_le hj HZ3.out) hn).trans (HO3.out j hj hn)⟩
      clear hT4 hz4 hb4 ho4 HO3 HW HT3 HL3 HB3 HZ3 HQ
      go_wp2
      try go_ret
      exact HF.out
set_option maxHeartbeats 4000000 in
set_option maxRecDepth 100000 in
theorem del6_no {W : World} {b : Nat} {lim cnt : Int} {T4 T6 : Tr} (h : W.heap[b]? = some (.cells (tbC true lim cnt T4 T6).toArray 76)) (hok : T6.Ok) (hwf : T6.wf) (k : Bs) (hk : k.length ≤ 128) (hwas : (getN (T6.walk (fun q => pre q k)) k).2 = false) :
    Calls Try.prog 55 #[.pointer (some ⟨b, 0, none⟩), .pointer (some ⟨b, 4, none⟩), KV k] W fun e w' => e = .returned (.int .i64 120) ∧ w'.heap[b]? = some (.cells (tbC true lim cnt T4 T6).toArray 76) ∧ W.heap.size ≤ w'.heap.size ∧ (∀ B, B ≤ b → B ≤ W.heap.size → Below B W w') ∧ (∀ j, j < W.heap.size → j ≠ b → w'.heap[j]? = W.heap[j]?) := by
  obtain ⟨W1, hW1⟩ : ∃ W1, W1 = W.alloc (.cells (kC k).toArray 39) := ⟨_, rfl⟩
  have hB1 : Below W.heap.size W W1 := by rw [hW1]; exact (Below.refl W.heap.size W).alloc (Nat.le_refl _) _
  have hsL : W1.heap[W.heap.size]? = some (.cells (kC k).toArray 39) := by rw [hW1]; exact blk_new W _
  have hsT := blk_on h hB1
  have HG : Hid (∀ X : World, Calls Try.prog 56 #[enc T6, KV k] X fun e w' => e = .returned (.tuple #[.int .i64 (getN (T6.walk (fun q => pre q k)) k).1, .bool false]) ∧ Below X.heap.size X w') := fun X => by
    have := get_any T6 hok k hk X
    rwa [hwas] at this
  have hbn : b < W.heap.size := (Array.getElem?_eq_some_iff.1 h).1
  have HBN : Hid (b < W.heap.size) := hbn
  have HST : Hid (W1.heap[b]? = some (.cells (tbC true lim cnt T4 T6).toArray 76)) := hsT
  have HSL : Hid (W1.heap[W.heap.size]? = some (.cells (kC k).toArray 39)) := hsL
  have HB1 : Hid (Below W.heap.size W W1) := hB1
  have HE1 : Hid ((enc T6).oneCell' = true ∧ NodeV (enc (T6.del k))) := ⟨enc_one _, enc_node _⟩
  have hW := hW1.symm
  clear hwas hsL hsT hB1 hW1 h hok hbn hwf
  generalize (getN (T6.walk (fun q => pre q k)) k).1 = g1 at *
  generalize hQ : (fun (e : Ending) (w' : World) => e = .returned (.int .i64 120) ∧ w'.heap[b]? = some (.cells (tbC true lim cnt T4 T6).toArray 76) ∧ W.heap.size ≤ w'.heap.size ∧ (∀ B, B ≤ b → B ≤ W.heap.size → Below B W w') ∧ (∀ j, j < W.heap.size → j ≠ b → w'.heap[j]? = W.heap[j]?)) = Q
  have HQ : Hid (∀ e w', e = .returned (.int .i64 120) ∧ w'.heap[b]? = some (.cells (tbC true lim cnt T4 T6).toArray 76) ∧ W.heap.size ≤ w'.heap.size ∧ (∀ B, B ≤ b → B ≤ W.heap.size → Below B W w') ∧ (∀ j, j < W.heap.size → j ≠ b → w'.heap[j]? = W.heap[j]?) → Q e w') := fun e w' hh => by rw [← hQ]; exact hh
  clear hQ
  go_enter Try.func55, Try.ntmps55
  go_wp2_with fail
  refine region_midT (fun a0 a' w' => a' = ((((((((((a0.put (some 10) (.pointer (some ⟨b, 4, none⟩))).put (some 11) (.pointer (some ⟨b, 4, none⟩))).put (some 12) (enc T6)).put (some 13) (KV k)).put (some 14) (.tuple #[.int .i64 g1, .bool false])).put (some 9) (.tuple #[.int .i64 g1, .bool false])).put (some 15) (.int .i64 g1)).put (some 16) (.bool false)).put (some 7) (.int .i64 g1)).put (some 8) (.bool false)) ∧ Below W1.heap.size W1 w') ?_ ?_
  · skip
    refine wp_region_held (S := (fun X => X.heap[b]? = some (.cells (tbC true lim cnt T4 T6).toArray 76) ∧ X.heap[W.heap.size]? = some (.cells (kC k).toArray 39))) (by kernel_rfl) ?_
    show wpAnyH _ _ _ _ _ 10 (Array.replicate 10 false) _ _
    have hS0 : W1.drew.heap[b]? = some (.cells (tbC true lim cnt T4 T6).toArray 76) ∧ W1.drew.heap[W.heap.size]? = some (.cells (kC k).toArray 39) := ⟨HST.out, HSL.out⟩
    refine take_one (i := 0) (d := some 10) (v := .pointer (some ⟨b, 4, none⟩)) rfl rfl rfl (by kernel_rfl) (by kernel_rfl) (by kernel_rfl) (fun _ _ _ _ _ h => h.elim) (fun X hS => by kernel_rfl) hS0 ?_
    simp only [Act.put, List.setIfInBounds_toArray, List.set_cons_zero, List.set_cons_succ]
    refine take_one (i := 1) (d := some 11) (v := .pointer (some ⟨b, 4, none⟩)) rfl rfl rfl (by kernel_rfl) (by kernel_rfl) (by kernel_rfl) (fun _ _ _ _ _ h => h.elim) (fun X hS => by kernel_rfl) hS0 ?_
    simp only [Act.put, List.setIfInBounds_toArray, List.set_cons_zero, List.set_cons_succ]
    refine take_one (i := 2) (d := some 12) (v := enc T6) rfl rfl rfl (by kernel_rfl) (by kernel_rfl) (by kernel_rfl) (fun _ _ _ _ _ h => h.elim) (fun X hS => ex_loadA (.tmp 11) 74 rfl rfl (ld_node4 hS.1)) hS0 ?_
    simp only [Act.put, List.setIfInBounds_toArray, List.set_cons_zero, List.set_cons_succ]
    refine take_one (i := 3) (d := some 13) (v := KV k) rfl rfl rfl (by kernel_rfl) (by kernel_rfl) (by kernel_rfl) (fun _ _ _ _ _ h => h.elim) (fun X hS => ex_loadA (.tmp 5) 39 rfl rfl (kb_key (kb0 hS.2))) hS0 ?_
    simp only [Act.put, List.setIfInBounds_toArray, List.set_cons_zero, List.set_cons_succ]
    refine all_one (i := 4) (by kernel_rfl) rfl rfl ?_
    refine wp_call (d := some 14) 56 _ rfl (by kernel_rfl) (callR (HG.out _)) ?_
    rintro _ X1 ⟨rfl, hb1⟩
    have hS1 := And.intro (blk_kept hS0.1 hb1) (blk_kept hS0.2 hb1)
    refine ⟨hS1, ?_⟩
    simp only [Act.put, List.setIfInBounds_toArray, List.set_cons_zero, List.set_cons_succ]
    refine take_one (i := 5) (d := some 9) (v := .tuple #[.int .i64 g1, .bool false]) rfl rfl rfl (by kernel_rfl) (by kernel_rfl) (by kernel_rfl) (fun _ _ _ _ _ h => h.elim) (fun X hS => by kernel_rfl) hS1 ?_
    simp only [Act.put, List.setIfInBounds_toArray, List.set_cons_zero, List.set_cons_succ]
    refine take_one (i := 6) (d := some 15) (v := .int .i64 g1) rfl rfl rfl (by kernel_rfl) (by kernel_rfl) (by kernel_rfl) (fun _ _ _ _ _ h => h.elim) (fun X hS => by kernel_rfl) hS1 ?_
    simp only [Act.put, List.setIfInBounds_toArray, List.set_cons_zero, List.set_cons_succ]
    refine take_one (i := 7) (d := some 16) (v := .bool false) rfl rfl rfl (by kernel_rfl) (by kernel_rfl) (by kernel_rfl) (fun _ _ _ _ _ h => h.elim) (fun X hS => by kernel_rfl) hS1 ?_
    simp only [Act.put, List.setIfInBounds_toArray, List.set_cons_zero, List.set_cons_succ]
    refine take_one (i := 8) (d := some 7) (v := .int .i64 g1) rfl rfl rfl (by kernel_rfl) (by kernel_rfl) (by kernel_rfl) (fun _ _ _ _ _ h => h.elim) (fun X hS => by kernel_rfl) hS1 ?_
    simp only [Act.put, List.setIfInBounds_toArray, List.set_cons_zero, List.set_cons_succ]
    refine take_one (i := 9) (d := some 8) (v := .bool false) rfl rfl rfl (by kernel_rfl) (by kernel_rfl) (by kernel_rfl) (fun _ _ _ _ _ h => h.elim) (fun X hS => by kernel_rfl) hS1 ?_
    simp only [Act.put, List.setIfInBounds_toArray, List.set_cons_zero, List.set_cons_succ]
    refine wpAnyH_done (by kernel_rfl) ?_ _
    exact ⟨rfl, ((Below.refl _ W1).drew).trans hb1⟩
  · rintro a' w2 ⟨rfl, hb2⟩
    simp only [Act.put, List.setIfInBounds_toArray, List.set_cons_zero, List.set_cons_succ]
    have hT2 := blk_kept HST.out hb2
    have hL2 := blk_kept HSL.out hb2
    have HF : Hid (Q (.returned (.int .i64 120)) w2) := HQ.out _ _ ⟨rfl, hT2, Nat.le_trans HB1.out.size hb2.size, fun B hB hB2 => (HB1.out.mono hB2).trans (hb2.mono (Nat.le_trans hB2 HB1.out.size)), fun j hj hn => (hb2.block j (Nat.lt_of_lt_of_le hj HB1.out.size)).trans (HB1.out.block j hj)⟩
    clear hT2 hL2 hb2 HST HSL HG HB1 HQ
    go_wp2
    try go_ret
    exact HF.out
end Go.Proofs.Ytenahbdopgmpfaa

namespace Go.Proofs.Ytenahbdopgmpfaa
open Go Go.RowKit Go.Shelf
set_option linter.unusedVariables false
set_option linter.unusedSimpArgs false

set_option maxHeartbeats 4000000 in
set_option maxRecDepth 100000 in
theorem put4_was {W : World} {b : Nat} {lim cnt : Int} {T4 T6 : Tr} (h : W.heap[b]? = some (.cells (tbC true lim cnt T4 T6).toArray 76)) (hok : T4.Ok) (k : Bs) (hk : k.length ≤ 128) (v : Int) (hwas : (getN (T4.walk (fun q => pre q k)) k).2 = true) :
    Calls Try.prog 53 #[.pointer (some ⟨b, 0, none⟩), .pointer (some ⟨b, 3, none⟩), LF k v] W fun e w' => e = .returned (.tuple #[.bool true, .int .i64 0]) ∧ w'.heap[b]? = some (.cells (tbC true lim cnt (T4.put k v) T6).toArray 76) ∧ W.heap.size ≤ w'.heap.size ∧ (∀ B, B ≤ b → B ≤ W.heap.size → Below B W w') ∧ (∀ j, j < W.heap.size → j ≠ b → w'.heap[j]? = W.heap[j]?) := by
  obtain ⟨W1, hW1⟩ : ∃ W1, W1 = W.alloc (.cells (lfC k v).toArray 85) := ⟨_, rfl⟩
  have hB1 : Below W.heap.size W W1 := by rw [hW1]; exact (Below.refl W.heap.size W).alloc (Nat.le_refl _) _
  have hsL : W1.heap[W.heap.size]? = some (.cells (lfC k v).toArray 85) := by rw [hW1]; exact blk_new W _
  have hsT := blk_on h hB1
  have HG : Hid (∀ X : World, Calls Try.prog 56 #[enc T4, KV k] X fun e w' => e = .returned (.tuple #[.int .i64 (getN (T4.walk (fun q => pre q k)) k).1, .bool true]) ∧ Below X.heap.size X w') := fun X => by
    have := get_any T4 hok k hk X
    rwa [hwas] at this
  have HW : Hid (∀ X : World, Calls Try.prog 70 #[enc T4, LF k v] X fun e w' => e = .returned (enc (T4.put k v)) ∧ Below X.heap.size X w') := fun X => with_any T4 hok k v hk X
  have hbn : b < W.heap.size := (Array.getElem?_eq_some_iff.1 h).1
  have HBN : Hid (b < W.heap.size) := hbn
  have HST : Hid (W1.heap[b]? = some (.cells (tbC true lim cnt T4 T6).toArray 76)) := hsT
  have HSL : Hid (W1.heap[W.heap.size]? = some (.cells (lfC k v).toArray 85)) := hsL
  have HB1 : Hid (Below W.heap.size W W1) := hB1
  have HE1 : Hid ((enc T4).oneCell' = true ∧ NodeV (enc (T4.put k v))) := ⟨enc_one _, enc_node _⟩
  have hW := hW1.symm
  clear hwas hsL hsT hB1 hW1 h hok hbn
  generalize (getN (T4.walk (fun q => pre q k)) k).1 = g1 at *
  generalize hQ : (fun (e : Ending) (w' : World) => e = .returned (.tuple #[.bool true, .int .i64 0]) ∧ w'.heap[b]? = some (.cells (tbC true lim cnt (T4.put k v) T6).toArray 76) ∧ W.heap.size ≤ w'.heap.size ∧ (∀ B, B ≤ b → B ≤ W.heap.size → Below B W w') ∧ (∀ j, j < W.heap.size → j ≠ b → w'.heap[j]? = W.heap[j]?)) = Q
  have HQ : Hid (∀ e w', e = .returned (.tuple #[.bool true, .int .i64 0]) ∧ w'.heap[b]? = some (.cells (tbC true lim cnt (T4.put k v) T6).toArray 76) ∧ W.heap.size ≤ w'.heap.size ∧ (∀ B, B ≤ b → B ≤ W.heap.size → Below B W w') ∧ (∀ j, j < W.heap.size → j ≠ b → w'.heap[j]? = W.heap[j]?) → Q e w') := fun e w' hh => by rw [← hQ]; exact hh
  clear hQ
  go_enter Try.func53, Try.ntmps53
  go_wp2_with fail
  refine region_midT (fun a0 a' w' => a' = (((((((((((a0.put (some 11) (.pointer (some ⟨b, 3, none⟩))).put (some 12) (.pointer (some ⟨b, 3, none⟩))).put (some 13) (enc T4)).put (some 14) (.pointer (some ⟨W.heap.size, 0, none⟩))).put (some 15) (KV k)).put (some 16) (.tuple #[.int .i64 g1, .bool true])).put (some 10) (.tuple #[.int .i64 g1, .bool true])).put (some 17) (.int .i64 g1)).put (some 18) (.bool true)).put (some 8) (.int .i64 g1)).put (some 9) (.bool true)) ∧ Below W1.heap.size W1 w') ?_ ?_
  · skip
    refine wp_region_held (S := (fun X => X.heap[b]? = some (.cells (tbC true lim cnt T4 T6).toArray 76) ∧ X.heap[W.heap.size]? = some (.cells (lfC k v).toArray 85))) (by kernel_rfl) ?_
    show wpAnyH _ _ _ _ _ 11 (Array.replicate 11 false) _ _
    have hS0 : W1.drew.heap[b]? = some (.cells (tbC true lim cnt T4 T6).toArray 76) ∧ W1.drew.heap[W.heap.size]? = some (.cells (lfC k v).toArray 85) := ⟨HST.out, HSL.out⟩
    refine take_one (i := 0) (d := some 11) (v := .pointer (some ⟨b, 3, none⟩)) rfl rfl rfl (by kernel_rfl) (by kernel_rfl) (by kernel_rfl) (fun _ _ _ _ _ h => h.elim) (fun X hS => by kernel_rfl) hS0 ?_
    simp only [Act.put, List.setIfInBounds_toArray, List.set_cons_zero, List.set_cons_succ]
    refine take_one (i := 1) (d := some 12) (v := .pointer (some ⟨b, 3, none⟩)) rfl rfl rfl (by kernel_rfl) (by kernel_rfl) (by kernel_rfl) (fun _ _ _ _ _ h => h.elim) (fun X hS => by kernel_rfl) hS0 ?_
    simp only [Act.put, List.setIfInBounds_toArray, List.set_cons_zero, List.set_cons_succ]
    refine take_one (i := 2) (d := some 13) (v := enc T4) rfl rfl rfl (by kernel_rfl) (by kernel_rfl) (by kernel_rfl) (fun _ _ _ _ _ h => h.elim) (fun X hS => ex_loadA (.tmp 12) 74 rfl rfl (ld_node3 hS.1)) hS0 ?_
    simp only [Act.put, List.setIfInBounds_toArray, List.set_cons_zero, List.set_cons_succ]
    refine take_one (i := 3) (d := some 14) (v := .pointer (some ⟨W.heap.size, 0, none⟩)) rfl rfl rfl (by kernel_rfl) (by kernel_rfl) (by kernel_rfl) (fun _ _ _ _ _ h => h.elim) (fun X hS => by kernel_rfl) hS0 ?_
    simp only [Act.put, List.setIfInBounds_toArray, List.set_cons_zero, List.set_cons_succ]
    refine take_one (i := 4) (d := some 15) (v := KV k) rfl rfl rfl (by kernel_rfl) (by kernel_rfl) (by kernel_rfl) (fun _ _ _ _ _ h => h.elim) (fun X hS => ex_loadA (.tmp 14) 39 rfl rfl (kb_key (r := [.int .i64 v]) hS.2)) hS0 ?_
    simp only [Act.put, List.setIfInBounds_toArray, List.set_cons_zero, List.set_cons_succ]
    refine all_one (i := 5) (by kernel_rfl) rfl rfl ?_
    refine wp_call (d := some 16) 56 _ rfl (by kernel_rfl) (callR (HG.out _)) ?_
    rintro _ X1 ⟨rfl, hb1⟩
    have hS1 := And.intro (blk_kept hS0.1 hb1) (blk_kept hS0.2 hb1)
    refine ⟨hS1, ?_⟩
    simp only [Act.put, List.setIfInBounds_toArray, List.set_cons_zero, List.set_cons_succ]
    refine take_one (i := 6) (d := some 10) (v := .tuple #[.int .i64 g1, .bool true]) rfl rfl rfl (by kernel_rfl) (by kernel_rfl) (by kernel_rfl) (fun _ _ _ _ _ h => h.elim) (fun X hS => by kernel_rfl) hS1 ?_
    simp only [Act.put, List.setIfInBounds_toArray, List.set_cons_zero, List.set_cons_succ]
    refine take_one (i := 7) (d := some 17) (v := .int .i64 g1) rfl rfl rfl (by kernel_rfl) (by kernel_rfl) (by kernel_rfl) (fun _ _ _ _ _ h => h.elim) (fun X hS => by kernel_rfl) hS1 ?_
    simp only [Act.put, List.setIfInBounds_toArray, List.set_cons_zero, List.set_cons_succ]
    refine take_one (i := 8) (d := some 18) (v := .bool true) rfl rfl rfl (by kernel_rfl) (by kernel_rfl) (by kernel_rfl) (fun _ _ _ _ _ h => h.elim) (fun X hS => by kernel_rfl) hS1 ?_
    simp only [Act.put, List.setIfInBounds_toArray, List.set_cons_zero, List.set_cons_succ]
    refine take_one (i := 9) (d := some 8) (v := .int .i64 g1) rfl rfl rfl (by kernel_rfl) (by kernel_rfl) (by kernel_rfl) (fun _ _ _ _ _ h => h.elim) (fun X hS => by kernel_rfl) hS1 ?_
    simp only [Act.put, List.setIfInBounds_toArray, List.set_cons_zero, List.set_cons_succ]
    refine take_one (i := 10) (d := some 9) (v := .bool true) rfl rfl rfl (by kernel_rfl) (by kernel_rfl) (by kernel_rfl) (fun _ _ _ _ _ h => h.elim) (fun X hS => by kernel_rfl) hS1 ?_
    simp only [Act.put, List.setIfInBounds_toArray, List.set_cons_zero, List.set_cons_succ]
    refine wpAnyH_done (by kernel_rfl) ?_ _
    exact ⟨rfl, ((Below.refl _ W1).drew).trans hb1⟩
  · rintro a' w2 ⟨rfl, hb2⟩
    simp only [Act.put, List.setIfInBounds_toArray, List.set_cons_zero, List.set_cons_succ]
    have hT2 := blk_kept HST.out hb2
    have hL2 := blk_kept HSL.out hb2
    have hT3 := hT2
    have ho3 : Only b w2 w2 := Only.refl b w2
    have hL3 := (ho3.other W.heap.size (by have := HBN.out; omega)).trans hL2
    have HT3 : Hid (w2.heap[b]? = some (.cells (tbC true lim cnt T4 T6).toArray 76)) := hT3
    have HL3 : Hid (w2.heap[W.heap.size]? = some (.cells (lfC k v).toArray 85)) := hL3
    have HB3 : Hid (∀ B, B ≤ b → B ≤ W.heap.size → Below B W w2) := fun B hB hB2 => ((HB1.out.mono hB2).trans (hb2.mono (Nat.le_trans hB2 HB1.out.size))).trans (ho3.below hB)
    have HZ3 : Hid (W.heap.size ≤ w2.heap.size) := by
      have h1 := HB1.out.size
      have h2 := hb2.size
      have h3 := ho3.size
      have : W.heap.size ≤ w2.heap.size := by omega
      exact this
    have HO3 : Hid (∀ j, j < W.heap.size → j ≠ b → w2.heap[j]? = W.heap[j]?) := fun j hj hn => (ho3.other j hn).trans ((hb2.block j (Nat.lt_of_lt_of_le hj HB1.out.size)).trans (HB1.out.block j hj))
    clear hT2 hL2 hT3 ho3 hL3 hb2 HST HSL HG HB1
    go_wp2_with fail
    go_region
    go_wp2_with fail
    refine region_midT (fun a0 a' w' => a' = (((((((a0.put (some 41) (.pointer (some ⟨b, 3, none⟩))).put (some 42) (.pointer (some ⟨b, 3, none⟩))).put (some 43) (.pointer (some ⟨b, 3, none⟩))).put (some 44) (enc T4)).put (some 45) (LF k v)).put (some 46) (enc (T4.put k v))).put (some 47) (.pointer (some ⟨b, 3, none⟩))) ∧ w'.heap[b]? = some (.cells (tbC true lim cnt (T4.put k v) T6).toArray 76) ∧ w2.heap.size ≤ w'.heap.size ∧ (∀ B, B ≤ b → Below B w2 w') ∧ (∀ j, j < w2.heap.size → j ≠ b → w'.heap[j]? = w2.heap[j]?)) ?_ ?_
    · skip
      refine wp_region_held (S := fun X => (∃ T, X.heap[b]? = some (.cells (tbC true lim cnt T T6).toArray 76)) ∧ X.heap[W.heap.size]? = some (.cells (lfC k v).toArray 85)) (by kernel_rfl) ?_
      show wpAnyH _ _ _ _ _ 8 (Array.replicate 8 false) _ _
      have hT0 : w2.drew.drew.heap[b]? = some (.cells (tbC true lim cnt T4 T6).toArray 76) := HT3.out
      have hS0 : (∃ T, w2.drew.drew.heap[b]? = some (.cells (tbC true lim cnt T T6).toArray 76)) ∧ w2.drew.drew.heap[W.heap.size]? = some (.cells (lfC k v).toArray 85) := ⟨⟨T4, HT3.out⟩, HL3.out⟩
      refine take_one (i := 0) (d := some 41) (v := .pointer (some ⟨b, 3, none⟩)) rfl rfl rfl (by kernel_rfl) (by kernel_rfl) (by kernel_rfl) (fun _ _ _ _ _ h => h.elim) (fun X hS => by kernel_rfl) hS0 ?_
      simp only [Act.put, List.setIfInBounds_toArray, List.set_cons_zero, List.set_cons_succ]
      refine take_one (i := 1) (d := some 42) (v := .pointer (some ⟨b, 3, none⟩)) rfl rfl rfl (by kernel_rfl) (by kernel_rfl) (by kernel_rfl) (fun _ _ _ _ _ h => h.elim) (fun X hS => by kernel_rfl) hS0 ?_
      simp only [Act.put, List.setIfInBounds_toArray, List.set_cons_zero, List.set_cons_succ]
      refine take_one (i := 2) (d := some 43) (v := .pointer (some ⟨b, 3, none⟩)) rfl rfl rfl (by kernel_rfl) (by kernel_rfl) (by kernel_rfl) (fun _ _ _ _ _ h => h.elim) (fun X hS => by kernel_rfl) hS0 ?_
      simp only [Act.put, List.setIfInBounds_toArray, List.set_cons_zero, List.set_cons_succ]
      refine take_one (i := 4) (d := some 45) (v := LF k v) rfl rfl rfl (by kernel_rfl) (by kernel_rfl) (by kernel_rfl) (fun _ _ _ _ _ h => h.elim) (fun X hS => ex_loadA (.tmp 5) 85 rfl rfl (lf_load hS.2)) hS0 ?_
      simp only [Act.put, List.setIfInBounds_toArray, List.set_cons_zero, List.set_cons_succ]
      refine all_one (i := 3) (by kernel_rfl) rfl rfl ?_
      refine wp_effT (d := some 44) (v := enc T4) rfl (ex_loadA (.tmp 43) 74 rfl rfl (ld_node3 hT0)) ⟨hS0, ?_⟩
      simp only [Act.put, List.setIfInBounds_toArray, List.set_cons_zero, List.set_cons_succ]
      refine all_one (i := 5) (by kernel_rfl) rfl rfl ?_
      refine wp_call (d := some 46) 70 _ rfl (by kernel_rfl) (callR (HW.out _)) ?_
      rintro _ X1 ⟨rfl, hb1⟩
      have hT1 := blk_kept hT0 hb1
      have hL1 := blk_kept hS0.2 hb1
      refine ⟨⟨⟨T4, hT1⟩, hL1⟩, ?_⟩
      simp only [Act.put, List.setIfInBounds_toArray, List.set_cons_zero, List.set_cons_succ]
      refine take_one (i := 6) (d := some 47) (v := .pointer (some ⟨b, 3, none⟩)) rfl rfl rfl (by kernel_rfl) (by kernel_rfl) (by kernel_rfl) (fun _ _ _ _ _ h => h.elim) (fun X hS => by kernel_rfl) ⟨⟨T4, hT1⟩, hL1⟩ ?_
      simp only [Act.put, List.setIfInBounds_toArray, List.set_cons_zero, List.set_cons_succ]
      obtain ⟨X2, hst, hT2, ho2⟩ : ∃ X2, (Instr.storeAt 74 (.pointer (some ⟨b, 3, none⟩)) (enc (T4.put k v))).run Try.prog X1 = .ok () X2 ∧ X2.heap[b]? = some (.cells (tbC true lim cnt (T4.put k v) T6).toArray 76) ∧ Only b X1 X2 := ⟨_, st_node hT1 (show 3 < 5 by decide) HE1.out.2, blk_set hT1 3 _, (Only.refl b X1).set 3 _⟩
      have hL2 := (ho2.other W.heap.size (by have := HBN.out; omega)).trans hL1
      refine all_one (i := 7) (by kernel_rfl) rfl rfl ?_
      refine wp_storeA (.tmp 47) (.tmp 46) 74 rfl rfl rfl rfl hst ⟨⟨⟨_, hT2⟩, hL2⟩, ?_⟩
      refine wpAnyH_done (by kernel_rfl) ?_ _
      have hbx : ∀ B, B ≤ b → Below B w2 X2 := fun B hB => (((Below.refl w2.heap.size w2).drew.drew.trans hb1).mono (Nat.le_trans hB (Nat.le_of_lt (Array.getElem?_eq_some_iff.1 HT3.out).1))).trans (ho2.below hB)
      exact ⟨rfl, hT2, (hbx b (Nat.le_refl _)).size, hbx, fun j hj hn => (ho2.other j hn).trans (((Below.refl w2.heap.size w2).drew.drew.trans hb1).block j hj)⟩
    · rintro a' w4 ⟨rfl, hT4, hz4, hb4, ho4⟩
      simp only [Act.put, List.setIfInBounds_toArray, List.set_cons_zero, List.set_cons_succ]
      have HF : Hid (Q (.returned (.tuple #[.bool true, .int .i64 0])) w4) := HQ.out _ _ ⟨rfl, hT4, Nat.le_trans HZ3.out hz4, fun B hB hB2 => (HB3.out B hB hB2).trans (hb4 B hB), fun j hj hn => (ho4 j (Nat.lt_of_lt_of_le hj HZ3.out) hn).trans (HO3.out j hj hn)⟩
      clear hT4 hz4 hb4 ho4 HO3 HW HT3 HL3 HB3 HZ3 HQ
      go_wp2
      try go_ret2
      exact HF.out
set_option maxHeartbeats 4000000 in
set_option maxRecDepth 100000 in
theorem put4_many {W : World} {b : Nat} {lim cnt : Int} {T4 T6 : Tr} (h : W.heap[b]? = some (.cells (tbC true lim cnt T4 T6).toArray 76)) (hok : T4.Ok) (k : Bs) (hk : k.length ≤ 128) (v : Int) (hwas : (getN (T4.walk (fun q => pre q k)) k).2 = false) (hcn : cnt = lim) :
    Calls Try.prog 53 #[.pointer (some ⟨b, 0, none⟩), .pointer (some ⟨b, 3, none⟩), LF k v] W fun e w' => e = .returned (.tuple #[.bool false, .int .i64 3]) ∧ w'.heap[b]? = some (.cells (tbC true lim cnt T4 T6).toArray 76) ∧ W.heap.size ≤ w'.heap.size ∧ (∀ B, B ≤ b → B ≤ W.heap.size → Below B W w') ∧ (∀ j, j < W.heap.size → j ≠ b → w'.heap[j]? = W.heap[j]?) := by
  obtain ⟨W1, hW1⟩ : ∃ W1, W1 = W.alloc (.cells (lfC k v).toArray 85) := ⟨_, rfl⟩
  have hB1 : Below W.heap.size W W1 := by rw [hW1]; exact (Below.refl W.heap.size W).alloc (Nat.le_refl _) _
  have hsL : W1.heap[W.heap.size]? = some (.cells (lfC k v).toArray 85) := by rw [hW1]; exact blk_new W _
  have hsT := blk_on h hB1
  have HG : Hid (∀ X : World, Calls Try.prog 56 #[enc T4, KV k] X fun e w' => e = .returned (.tuple #[.int .i64 (getN (T4.walk (fun q => pre q k)) k).1, .bool false]) ∧ Below X.heap.size X w') := fun X => by
    have := get_any T4 hok k hk X
    rwa [hwas] at this
  have HW : Hid (∀ X : World, Calls Try.prog 70 #[enc T4, LF k v] X fun e w' => e = .returned (enc (T4.put k v)) ∧ Below X.heap.size X w') := fun X => with_any T4 hok k v hk X
  have hbn : b < W.heap.size := (Array.getElem?_eq_some_iff.1 h).1
  have HBN : Hid (b < W.heap.size) := hbn
  have HST : Hid (W1.heap[b]? = some (.cells (tbC true lim cnt T4 T6).toArray 76)) := hsT
  have HSL : Hid (W1.heap[W.heap.size]? = some (.cells (lfC k v).toArray 85)) := hsL
  have HB1 : Hid (Below W.heap.size W W1) := hB1
  have HE1 : Hid ((enc T4).oneCell' = true ∧ NodeV (enc (T4.put k v))) := ⟨enc_one _, enc_node _⟩
  have hW := hW1.symm
  clear hwas hsL hsT hB1 hW1 h hok hbn
  generalize (getN (T4.walk (fun q => pre q k)) k).1 = g1 at *
  generalize hQ : (fun (e : Ending) (w' : World) => e = .returned (.tuple #[.bool false, .int .i64 3]) ∧ w'.heap[b]? = some (.cells (tbC true lim cnt T4 T6).toArray 76) ∧ W.heap.size ≤ w'.heap.size ∧ (∀ B, B ≤ b → B ≤ W.heap.size → Below B W w') ∧ (∀ j, j < W.heap.size → j ≠ b → w'.heap[j]? = W.heap[j]?)) = Q
  have HQ : Hid (∀ e w', e = .returned (.tuple #[.bool false, .int .i64 3]) ∧ w'.heap[b]? = some (.cells (tbC true lim cnt T4 T6).toArray 76) ∧ W.heap.size ≤ w'.heap.size ∧ (∀ B, B ≤ b → B ≤ W.heap.size → Below B W w') ∧ (∀ j, j < W.heap.size → j ≠ b → w'.heap[j]? = W.heap[j]?) → Q e w') := fun e w' hh => by rw [← hQ]; exact hh
  clear hQ
  go_enter Try.func53, Try.ntmps53
  go_wp2_with fail
  refine region_midT (fun a0 a' w' => a' = (((((((((((a0.put (some 11) (.pointer (some ⟨b, 3, none⟩))).put (some 12) (.pointer (some ⟨b, 3, none⟩))).put (some 13) (enc T4)).put (some 14) (.pointer (some ⟨W.heap.size, 0, none⟩))).put (some 15) (KV k)).put (some 16) (.tuple #[.int .i64 g1, .bool false])).put (some 10) (.tuple #[.int .i64 g1, .bool false])).put (some 17) (.int .i64 g1)).put (some 18) (.bool false)).put (some 8) (.int .i64 g1)).put (some 9) (.bool false)) ∧ Below W1.heap.size W1 w') ?_ ?_
  · skip
    refine wp_region_held (S := (fun X => X.heap[b]? = some (.cells (tbC true lim cnt T4 T6).toArray 76) ∧ X.heap[W.heap.size]? = some (.cells (lfC k v).toArray 85))) (by kernel_rfl) ?_
    show wpAnyH _ _ _ _ _ 11 (Array.replicate 11 false) _ _
    have hS0 : W1.drew.heap[b]? = some (.cells (tbC true lim cnt T4 T6).toArray 76) ∧ W1.drew.heap[W.heap.size]? = some (.cells (lfC k v).toArray 85) := ⟨HST.out, HSL.out⟩
    refine take_one (i := 0) (d := some 11) (v := .pointer (some ⟨b, 3, none⟩)) rfl rfl rfl (by kernel_rfl) (by kernel_rfl) (by kernel_rfl) (fun _ _ _ _ _ h => h.elim) (fun X hS => by kernel_rfl) hS0 ?_
    simp only [Act.put, List.setIfInBounds_toArray, List.set_cons_zero, List.set_cons_succ]
    refine take_one (i := 1) (d := some 12) (v := .pointer (some ⟨b, 3, none⟩)) rfl rfl rfl (by kernel_rfl) (by kernel_rfl) (by kernel_rfl) (fun _ _ _ _ _ h => h.elim) (fun X hS => by kernel_rfl) hS0 ?_
    simp only [Act.put, List.setIfInBounds_toArray, List.set_cons_zero, List.set_cons_succ]
    refine take_one (i := 2) (d := some 13) (v := enc T4) rfl rfl rfl (by kernel_rfl) (by kernel_rfl) (by kernel_rfl) (fun _ _ _ _ _ h => h.elim) (fun X hS => ex_loadA (.tmp 12) 74 rfl rfl (ld_node3 hS.1)) hS0 ?_
    simp only [Act.put, List.setIfInBounds_toArray, List.set_cons_zero, List.set_cons_succ]
    refine take_one (i := 3) (d := some 14) (v := .pointer (some ⟨W.heap.size, 0, none⟩)) rfl rfl rfl (by kernel_rfl) (by kernel_rfl) (by kernel_rfl) (fun _ _ _ _ _ h => h.elim) (fun X hS => by kernel_rfl) hS0 ?_
    simp only [Act.put, List.setIfInBounds_toArray, List.set_cons_zero, List.set_cons_succ]
    refine take_one (i := 4) (d := some 15) (v := KV k) rfl rfl rfl (by kernel_rfl) (by kernel_rfl) (by kernel_rfl) (fun _ _ _ _ _ h => h.elim) (fun X hS => ex_loadA (.tmp 14) 39 rfl rfl (kb_key (r := [.int .i64 v]) hS.2)) hS0 ?_
    simp only [Act.put, List.setIfInBounds_toArray, List.set_cons_zero, List.set_cons_succ]
    refine all_one (i := 5) (by kernel_rfl) rfl rfl ?_
    refine wp_call (d := some 16) 56 _ rfl (by kernel_rfl) (callR (HG.out _)) ?_
    rintro _ X1 ⟨rfl, hb1⟩
    have hS1 := And.intro (blk_kept hS0.1 hb1) (blk_kept hS0.2 hb1)
    refine ⟨hS1, ?_⟩
    simp only [Act.put, List.setIfInBounds_toArray, List.set_cons_zero, List.set_cons_succ]
    refine take_one (i := 6) (d := some 10) (v := .tuple #[.int .i64 g1, .bool false]) rfl rfl rfl (by kernel_rfl) (by kernel_rfl) (by kernel_rfl) (fun _ _ _ _ _ h => h.elim) (fun X hS => by kernel_rfl) hS1 ?_
    simp only [Act.put, List.setIfInBounds_toArray, List.set_cons_zero, List.set_cons_succ]
    refine take_one (i := 7) (d := some 17) (v := .int .i64 g1) rfl rfl rfl (by kernel_rfl) (by kernel_rfl) (by kernel_rfl) (fun _ _ _ _ _ h => h.elim) (fun X hS => by kernel_rfl) hS1 ?_
    simp only [Act.put, List.setIfInBounds_toArray, List.set_cons_zero, List.set_cons_succ]
    refine take_one (i := 8) (d := some 18) (v := .bool false) rfl rfl rfl (by kernel_rfl) (by kernel_rfl) (by kernel_rfl) (fun _ _ _ _ _ h => h.elim) (fun X hS => by kernel_rfl) hS1 ?_
    simp only [Act.put, List.setIfInBounds_toArray, List.set_cons_zero, List.set_cons_succ]
    refine take_one (i := 9) (d := some 8) (v := .int .i64 g1) rfl rfl rfl (by kernel_rfl) (by kernel_rfl) (by kernel_rfl) (fun _ _ _ _ _ h => h.elim) (fun X hS => by kernel_rfl) hS1 ?_
    simp only [Act.put, List.setIfInBounds_toArray, List.set_cons_zero, List.set_cons_succ]
    refine take_one (i := 10) (d := some 9) (v := .bool false) rfl rfl rfl (by kernel_rfl) (by kernel_rfl) (by kernel_rfl) (fun _ _ _ _ _ h => h.elim) (fun X hS => by kernel_rfl) hS1 ?_
    simp only [Act.put, List.setIfInBounds_toArray, List.set_cons_zero, List.set_cons_succ]
    refine wpAnyH_done (by kernel_rfl) ?_ _
    exact ⟨rfl, ((Below.refl _ W1).drew).trans hb1⟩
  · rintro a' w2 ⟨rfl, hb2⟩
    simp only [Act.put, List.setIfInBounds_toArray, List.set_cons_zero, List.set_cons_succ]
    have hT2 := blk_kept HST.out hb2
    have hL2 := blk_kept HSL.out hb2
    have c1 : w2.cell? ⟨b, 1, none⟩ = some (.int .i64 lim) := blk_cell hT2 rfl
    have c2 : w2.cell? ⟨b, 2, none⟩ = some (.int .i64 cnt) := blk_cell hT2 rfl
    have q : (cnt == lim) = true := by simp [hcn]
    have HF : Hid (Q (.returned (.tuple #[.bool false, .int .i64 3])) w2.drew) := HQ.out _ _ ⟨rfl, hT2, Nat.le_trans HB1.out.size hb2.size, fun B hB hB2 => ((HB1.out.mono hB2).trans (hb2.mono (Nat.le_trans hB2 HB1.out.size))).drew, fun j hj hn => (hb2.block j (Nat.lt_of_lt_of_le hj HB1.out.size)).trans (HB1.out.block j hj)⟩
    clear hT2 hL2 hb2 HST HSL HG HB1 HQ hcn
    go_wp2_with fail
    go_region
    go_wp2
    try go_ret2
    exact HF.out
set_option maxHeartbeats 4000000 in
set_option maxRecDepth 100000 in
theorem put6_new {W : World} {b : Nat} {lim cnt : Int} {T4 T6 : Tr} (h : W.heap[b]? = some (.cells (tbC true lim cnt T4 T6).toArray 76)) (hok : T6.Ok) (k : Bs) (hk : k.length ≤ 128) (v : Int) (hwas : (getN (T6.walk (fun q => pre q k)) k).2 = false) (hcn : 0 ≤ cnt ∧ cnt < lim) (hlim : lim ≤ 65536) :
    Calls Try.prog 53 #[.pointer (some ⟨b, 0, none⟩), .pointer (some ⟨b, 4, none⟩), LF k v] W fun e w' => e = .returned (.tuple #[.bool false, .int .i64 0]) ∧ w'.heap[b]? = some (.cells (tbC true lim (cnt + 1) T4 (T6.put k v)).toArray 76) ∧ W.heap.size ≤ w'.heap.size ∧ (∀ B, B ≤ b → B ≤ W.heap.size → Below B W w') ∧ (∀ j, j < W.heap.size → j ≠ b → w'.heap[j]? = W.heap[j]?) := by
  obtain ⟨W1, hW1⟩ : ∃ W1, W1 = W.alloc (.cells (lfC k v).toArray 85) := ⟨_, rfl⟩
  have hB1 : Below W.heap.size W W1 := by rw [hW1]; exact (Below.refl W.heap.size W).alloc (Nat.le_refl _) _
  have hsL : W1.heap[W.heap.size]? = some (.cells (lfC k v).toArray 85) := by rw [hW1]; exact blk_new W _
  have hsT := blk_on h hB1
  have HG : Hid (∀ X : World, Calls Try.prog 56 #[enc T6, KV k] X fun e w' => e = .returned (.tuple #[.int .i64 (getN (T6.walk (fun q => pre q k)) k).1, .bool false]) ∧ Below X.heap.size X w') := fun X => by
    have := get_any T6 hok k hk X
    rwa [hwas] at this
  have HW : Hid (∀ X : World, Calls Try.prog 70 #[enc T6, LF k v] X fun e w' => e = .returned (enc (T6.put k v)) ∧ Below X.heap.size X w') := fun X => with_any T6 hok k v hk X
  have hbn : b < W.heap.size := (Array.getElem?_eq_some_iff.1 h).1
  have HBN : Hid (b < W.heap.size) := hbn
  have HST : Hid (W1.heap[b]? = some (.cells (tbC true lim cnt T4 T6).toArray 76)) := hsT
  have HSL : Hid (W1.heap[W.heap.size]? = some (.cells (lfC k v).toArray 85)) := hsL
  have HB1 : Hid (Below W.heap.size W W1) := hB1
  have HE1 : Hid ((enc T6).oneCell' = true ∧ NodeV (enc (T6.put k v))) := ⟨enc_one _, enc_node _⟩
  have hW := hW1.symm
  clear hwas hsL hsT hB1 hW1 h hok hbn
  generalize (getN (T6.walk (fun q => pre q k)) k).1 = g1 at *
  generalize hQ : (fun (e : Ending) (w' : World) => e = .returned (.tuple #[.bool false, .int .i64 0]) ∧ w'.heap[b]? = some (.cells (tbC true lim (cnt + 1) T4 (T6.put k v)).toArray 76) ∧ W.heap.size ≤ w'.heap.size ∧ (∀ B, B ≤ b → B ≤ W.heap.size → Below B W w') ∧ (∀ j, j < W.heap.size → j ≠ b → w'.heap[j]? = W.heap[j]?)) = Q
  have HQ : Hid (∀ e w', e = .returned (.tuple #[.bool false, .int .i64 0]) ∧ w'.heap[b]? = some (.cells (tbC true lim (cnt + 1) T4 (T6.put k v)).toArray 76) ∧ W.heap.size ≤ w'.heap.size ∧ (∀ B, B ≤ b → B ≤ W.heap.size → Below B W w') ∧ (∀ j, j < W.heap.size → j ≠ b → w'.heap[j]? = W.heap[j]?) → Q e w') := fun e w' hh => by rw [← hQ]; exact hh
  clear hQ
  go_enter Try.func53, Try.ntmps53
  go_wp2_with fail
  refine region_midT (fun a0 a' w' => a' = (((((((((((a0.put (some 11) (.pointer (some ⟨b, 4, none⟩))).put (some 12) (.pointer (some ⟨b, 4, none⟩))).put (some 13) (enc T6)).put (some 14) (.pointer (some ⟨W.heap.size, 0, none⟩))).put (some 15) (KV k)).put (some 16) (.tuple #[.int .i64 g1, .bool false])).put (some 10) (.tuple #[.int .i64 g1, .bool false])).put (some 17) (.int .i64 g1)).put (some 18) (.bool false)).put (some 8) (.int .i64 g1)).put (some 9) (.bool false)) ∧ Below W1.heap.size W1 w') ?_ ?_
  · skip
    refine wp_region_held (S := (fun X => X.heap[b]? = some (.cells (tbC true lim cnt T4 T6).toArray 76) ∧ X.heap[W.heap.size]? = some (.cells (lfC k v).toArray 85))) (by kernel_rfl) ?_
    show wpAnyH _ _ _ _ _ 11 (Array.replicate 11 false) _ _
    have hS0 : W1.drew.heap[b]? = some (.cells (tbC true lim cnt T4 T6).toArray 76) ∧ W1.drew.heap[W.heap.size]? = some (.cells (lfC k v).toArray 85) := ⟨HST.out, HSL.out⟩
    refine take_one (i := 0) (d := some 11) (v := .pointer (some ⟨b, 4, none⟩)) rfl rfl rfl (by kernel_rfl) (by kernel_rfl) (by kernel_rfl) (fun _ _ _ _ _ h => h.elim) (fun X hS => by kernel_rfl) hS0 ?_
    simp only [Act.put, List.setIfInBounds_toArray, List.set_cons_zero, List.set_cons_succ]
    refine take_one (i := 1) (d := some 12) (v := .pointer (some ⟨b, 4, none⟩)) rfl rfl rfl (by kernel_rfl) (by kernel_rfl) (by kernel_rfl) (fun _ _ _ _ _ h => h.elim) (fun X hS => by kernel_rfl) hS0 ?_
    simp only [Act.put, List.setIfInBounds_toArray, List.set_cons_zero, List.set_cons_succ]
    refine take_one (i := 2) (d := some 13) (v := enc T6) rfl rfl rfl (by kernel_rfl) (by kernel_rfl) (by kernel_rfl) (fun _ _ _ _ _ h => h.elim) (fun X hS => ex_loadA (.tmp 12) 74 rfl rfl (ld_node4 hS.1)) hS0 ?_
    simp only [Act.put, List.setIfInBounds_toArray, List.set_cons_zero, List.set_cons_succ]
    refine take_one (i := 3) (d := some 14) (v := .pointer (some ⟨W.heap.size, 0, none⟩)) rfl rfl rfl (by kernel_rfl) (by kernel_rfl) (by kernel_rfl) (fun _ _ _ _ _ h => h.elim) (fun X hS => by kernel_rfl) hS0 ?_
    simp only [Act.put, List.setIfInBounds_toArray, List.set_cons_zero, List.set_cons_succ]
    refine take_one (i := 4) (d := some 15) (v := KV k) rfl rfl rfl (by kernel_rfl) (by kernel_rfl) (by kernel_rfl) (fun _ _ _ _ _ h => h.elim) (fun X hS => ex_loadA (.tmp 14) 39 rfl rfl (kb_key (r := [.int .i64 v]) hS.2)) hS0 ?_
    simp only [Act.put, List.setIfInBounds_toArray, List.set_cons_zero, List.set_cons_succ]
    refine all_one (i := 5) (by kernel_rfl) rfl rfl ?_
    refine wp_call (d := some 16) 56 _ rfl (by kernel_rfl) (callR (HG.out _)) ?_
    rintro _ X1 ⟨rfl, hb1⟩
    have hS1 := And.intro (blk_kept hS0.1 hb1) (blk_kept hS0.2 hb1)
    refine ⟨hS1, ?_⟩
    simp only [Act.put, List.setIfInBounds_toArray, List.set_cons_zero, List.set_cons_succ]
    refine take_one (i := 6) (d := some 10) (v := .tuple #[.int .i64 g1, .bool false]) rfl rfl rfl (by kernel_rfl) (by kernel_rfl) (by kernel_rfl) (fun _ _ _ _ _ h => h.elim) (fun X hS => by kernel_rfl) hS1 ?_
    simp only [Act.put, List.setIfInBounds_toArray, List.set_cons_zero, List.set_cons_succ]
    refine take_one (i := 7) (d := some 17) (v := .int .i64 g1) rfl rfl rfl (by kernel_rfl) (by kernel_rfl) (by kernel_rfl) (fun _ _ _ _ _ h => h.elim) (fun X hS => by kernel_rfl) hS1 ?_
    simp only [Act.put, List.setIfInBounds_toArray, List.set_cons_zero, List.set_cons_succ]
    refine take_one (i := 8) (d := some 18) (v := .bool false) rfl rfl rfl (by kernel_rfl) (by kernel_rfl) (by kernel_rfl) (fun _ _ _ _ _ h => h.elim) (fun X hS => by kernel_rfl) hS1 ?_
    simp only [Act.put, List.setIfInBounds_toArray, List.set_cons_zero, List.set_cons_succ]
    refine take_one (i := 9) (d := some 8) (v := .int .i64 g1) rfl rfl rfl (by kernel_rfl) (by kernel_rfl) (by kernel_rfl) (fun _ _ _ _ _ h => h.elim) (fun X hS => by kernel_rfl) hS1 ?_
    simp only [Act.put, List.setIfInBounds_toArray, List.set_cons_zero, List.set_cons_succ]
    refine take_one (i := 10) (d := some 9) (v := .bool false) rfl rfl rfl (by kernel_rfl) (by kernel_rfl) (by kernel_rfl) (fun _ _ _ _ _ h => h.elim) (fun X hS => by kernel_rfl) hS1 ?_
    simp only [Act.put, List.setIfInBounds_toArray, List.set_cons_zero, List.set_cons_succ]
    refine wpAnyH_done (by kernel_rfl) ?_ _
    exact ⟨rfl, ((Below.refl _ W1).drew).trans hb1⟩
  · rintro a' w2 ⟨rfl, hb2⟩
    simp only [Act.put, List.setIfInBounds_toArray, List.set_cons_zero, List.set_cons_succ]
    have hT2 := blk_kept HST.out hb2
    have hL2 := blk_kept HSL.out hb2
    have c1 : w2.cell? ⟨b, 1, none⟩ = some (.int .i64 lim) := blk_cell hT2 rfl
    have c2 : w2.cell? ⟨b, 2, none⟩ = some (.int .i64 cnt) := blk_cell hT2 rfl
    have o2 := blk_open hT2 2
    have q : (cnt == lim) = false := by simp; omega
    obtain ⟨w3, hw3⟩ : ∃ w3, w3 = w2.setCell ⟨b, 2, none⟩ (.int .i64 (cnt + 1)) := ⟨_, rfl⟩
    have hT3 : w3.heap[b]? = some (.cells (tbC true lim (cnt + 1) T4 T6).toArray 76) := by rw [hw3]; exact blk_set hT2 2 _
    have ho3 : Only b w2 w3 := by rw [hw3]; exact (Only.refl b w2).set 2 _
    have hL3 := (ho3.other W.heap.size (by have := HBN.out; omega)).trans hL2
    have HT3 : Hid (w3.heap[b]? = some (.cells (tbC true lim (cnt + 1) T4 T6).toArray 76)) := hT3
    have HL3 : Hid (w3.heap[W.heap.size]? = some (.cells (lfC k v).toArray 85)) := hL3
    have HB3 : Hid (∀ B, B ≤ b → B ≤ W.heap.size → Below B W w3) := fun B hB hB2 => ((HB1.out.mono hB2).trans (hb2.mono (Nat.le_trans hB2 HB1.out.size))).trans (ho3.below hB)
    have HZ3 : Hid (W.heap.size ≤ w3.heap.size) := by
      have h1 := HB1.out.size
      have h2 := hb2.size
      have h3 := ho3.size
      have : W.heap.size ≤ w3.heap.size := by omega
      exact this
    have HO3 : Hid (∀ j, j < W.heap.size → j ≠ b → w3.heap[j]? = W.heap[j]?) := fun j hj hn => (ho3.other j hn).trans ((hb2.block j (Nat.lt_of_lt_of_le hj HB1.out.size)).trans (HB1.out.block j hj))
    have hw3' := hw3.symm
    clear hT2 hL2 hT3 ho3 hL3 hb2 hw3 HST HSL HG HB1
    go_wp2_with fail
    go_region
    go_wp2_with fail
    refine region_midT (fun a0 a' w' => a' = (((((((a0.put (some 41) (.pointer (some ⟨b, 4, none⟩))).put (some 42) (.pointer (some ⟨b, 4, none⟩))).put (some 43) (.pointer (some ⟨b, 4, none⟩))).put (some 44) (enc T6)).put (some 45) (LF k v)).put (some 46) (enc (T6.put k v))).put (some 47) (.pointer (some ⟨b, 4, none⟩))) ∧ w'.heap[b]? = some (.cells (tbC true lim (cnt + 1) T4 (T6.put k v)).toArray 76) ∧ w3.heap.size ≤ w'.heap.size ∧ (∀ B, B ≤ b → Below B w3 w') ∧ (∀ j, j < w3.heap.size → j ≠ b → w'.heap[j]? = w3.heap[j]?)) ?_ ?_
    · skip
      refine wp_region_held (S := fun X => (∃ T, X.heap[b]? = some (.cells (tbC true lim (cnt + 1) T4 T).toArray 76)) ∧ X.heap[W.heap.size]? = some (.cells (lfC k v).toArray 85)) (by kernel_rfl) ?_
      show wpAnyH _ _ _ _ _ 8 (Array.replicate 8 false) _ _
      have hT0 : w3.drew.drew.heap[b]? = some (.cells (tbC true lim (cnt + 1) T4 T6).toArray 76) := HT3.out
      have hS0 : (∃ T, w3.drew.drew.heap[b]? = some (.cells (tbC true lim (cnt + 1) T4 T).toArray 76)) ∧ w3.drew.drew.heap[W.heap.size]? = some (.cells (lfC k v).toArray 85) := ⟨⟨T6, HT3.out⟩, HL3.out⟩
      refine take_one (i := 0) (d := some 41) (v := .pointer (some ⟨b, 4, none⟩)) rfl rfl rfl (by kernel_rfl) (by kernel_rfl) (by kernel_rfl) (fun _ _ _ _ _ h => h.elim) (fun X hS => by kernel_rfl) hS0 ?_
      simp only [Act.put, List.setIfInBounds_toArray, List.set_cons_zero, List.set_cons_succ]
      refine take_one (i := 1) (d := some 42) (v := .pointer (some ⟨b, 4, none⟩)) rfl rfl rfl (by kernel_rfl) (by kernel_rfl) (by kernel_rfl) (fun _ _ _ _ _ h => h.elim) (fun X hS => by kernel_rfl) hS0 ?_
      simp only [Act.put, List.setIfInBounds_toArray, List.set_cons_zero, List.set_cons_succ]
      refine take_one (i := 2) (d := some 43) (v := .pointer (some ⟨b, 4, none⟩)) rfl rfl rfl (by kernel_rfl) (by kernel_rfl) (by kernel_rfl) (fun _ _ _ _ _ h => h.elim) (fun X hS => by kernel_rfl) hS0 ?_
      simp only [Act.put, List.setIfInBounds_toArray, List.set_cons_zero, List.set_cons_succ]
      refine take_one (i := 4) (d := some 45) (v := LF k v) rfl rfl rfl (by kernel_rfl) (by kernel_rfl) (by kernel_rfl) (fun _ _ _ _ _ h => h.elim) (fun X hS => ex_loadA (.tmp 5) 85 rfl rfl (lf_load hS.2)) hS0 ?_
      simp only [Act.put, List.setIfInBounds_toArray, List.set_cons_zero, List.set_cons_succ]
      refine all_one (i := 3) (by kernel_rfl) rfl rfl ?_
      refine wp_effT (d := some 44) (v := enc T6) rfl (ex_loadA (.tmp 43) 74 rfl rfl (ld_node4 hT0)) ⟨hS0, ?_⟩
      simp only [Act.put, List.setIfInBounds_toArray, List.set_cons_zero, List.set_cons_succ]
      refine all_one (i := 5) (by kernel_rfl) rfl rfl ?_
      refine wp_call (d := some 46) 70 _ rfl (by kernel_rfl) (callR (HW.out _)) ?_
      rintro _ X1 ⟨rfl, hb1⟩
      have hT1 := blk_kept hT0 hb1
      have hL1 := blk_kept hS0.2 hb1
      refine ⟨⟨⟨T6, hT1⟩, hL1⟩, ?_⟩
      simp only [Act.put, List.setIfInBounds_toArray, List.set_cons_zero, List.set_cons_succ]
      refine take_one (i := 6) (d := some 47) (v := .pointer (some ⟨b, 4, none⟩)) rfl rfl rfl (by kernel_rfl) (by kernel_rfl) (by kernel_rfl) (fun _ _ _ _ _ h => h.elim) (fun X hS => by kernel_rfl) ⟨⟨T6, hT1⟩, hL1⟩ ?_
      simp only [Act.put, List.setIfInBounds_toArray, List.set_cons_zero, List.set_cons_succ]
      obtain ⟨X2, hst, hT2, ho2⟩ : ∃ X2, (Instr.storeAt 74 (.pointer (some ⟨b, 4, none⟩)) (enc (T6.put k v))).run Try.prog X1 = .ok () X2 ∧ X2.heap[b]? = some (.cells (tbC true lim (cnt + 1) T4 (T6.put k v)).toArray 76) ∧ Only b X1 X2 := ⟨_, st_node hT1 (show 4 < 5 by decide) HE1.out.2, blk_set hT1 4 _, (Only.refl b X1).set 4 _⟩
      have hL2 := (ho2.other W.heap.size (by have := HBN.out; omega)).trans hL1
      refine all_one (i := 7) (by kernel_rfl) rfl rfl ?_
      refine wp_storeA (.tmp 47) (.tmp 46) 74 rfl rfl rfl rfl hst ⟨⟨⟨_, hT2⟩, hL2⟩, ?_⟩
      refine wpAnyH_done (by kernel_rfl) ?_ _
      have hbx : ∀ B, B ≤ b → Below B w3 X2 := fun B hB => (((Below.refl w3.heap.size w3).drew.drew.trans hb1).mono (Nat.le_trans hB (Nat.le_of_lt (Array.getElem?_eq_some_iff.1 HT3.out).1))).trans (ho2.below hB)
      exact ⟨rfl, hT2, (hbx b (Nat.le_refl _)).size, hbx, fun j hj hn => (ho2.other j hn).trans (((Below.refl w3.heap.size w3).drew.drew.trans hb1).block j hj)⟩
    · rintro a' w4 ⟨rfl, hT4, hz4, hb4, ho4⟩
      simp only [Act.put, List.setIfInBounds_toArray, List.set_cons_zero, List.set_cons_succ]
      have HF : Hid (Q (.returned (.tuple #[.bool false, .int .i64 0])) w4) := HQ.out _ _ ⟨rfl, hT4, Nat.le_trans HZ3.out hz4, fun B hB hB2 => (HB3.out B hB hB2).trans (hb4 B hB), fun j hj hn => (ho4 j (Nat.lt_of_lt_of_le hj HZ3.out) hn).trans (HO3.out j hj hn)⟩
      clear hT4 hz4 hb4 ho4 HO3 HW HT3 HL3 HB3 HZ3 HQ
      go_wp2
      try go_ret2
      exact HF.out
set_option maxHeartbeats 4000000 in
set_option maxRecDepth 100000 in
theorem put6_was {W : World} {b : Nat} {lim cnt : Int} {T4 T6 : Tr} (h : W.heap[b]? = some (.cells (tbC true lim cnt T4 T6).toArray 76)) (hok : T6.Ok) (k : Bs) (hk : k.length ≤ 128) (v : Int) (hwas : (getN (T6.walk (fun q => pre q k)) k).2 = true) :
    Calls Try.prog 53 #[.pointer (some ⟨b, 0, none⟩), .pointer (some ⟨b, 4, none⟩), LF k v] W fun e w' => e = .returned (.tuple #[.bool true, .int .i64 0]) ∧ w'.heap[b]? = some (.cells (tbC true lim cnt T4 (T6.put k v)).toArray 76) ∧ W.heap.size ≤ w'.heap.size ∧ (∀ B, B ≤ b → B ≤ W.heap.size → Below B W w') ∧ (∀ j, j < W.heap.size → j ≠ b → w'.heap[j]? = W.heap[j]?) := by
  obtain ⟨W1, hW1⟩ : ∃ W1, W1 = W.alloc (.cells (lfC k v).toArray 85) := ⟨_, rfl⟩
  have hB1 : Below W.heap.size W W1 := by rw [hW1]; exact (Below.refl W.heap.size W).alloc (Nat.le_refl _) _
  have hsL : W1.heap[W.heap.size]? = some (.cells (lfC k v).toArray 85) := by rw [hW1]; exact blk_new W _
  have hsT := blk_on h hB1
  have HG : Hid (∀ X : World, Calls Try.prog 56 #[enc T6, KV k] X fun e w' => e = .returned (.tuple #[.int .i64 (getN (T6.walk (fun q => pre q k)) k).1, .bool true]) ∧ Below X.heap.size X w') := fun X => by
    have := get_any T6 hok k hk X
    rwa [hwas] at this
  have HW : Hid (∀ X : World, Calls Try.prog 70 #[enc T6, LF k v] X fun e w' => e = .returned (enc (T6.put k v)) ∧ Below X.heap.size X w') := fun X => with_any T6 hok k v hk X
  have hbn : b < W.heap.size := (Array.getElem?_eq_some_iff.1 h).1
  have HBN : Hid (b < W.heap.size) := hbn
  have HST : Hid (W1.heap[b]? = some (.cells (tbC true lim cnt T4 T6).toArray 76)) := hsT
  have HSL : Hid (W1.heap[W.heap.size]? = some (.cells (lfC k v).toArray 85)) := hsL
  have HB1 : Hid (Below W.heap.size W W1) := hB1
  have HE1 : Hid ((enc T6).oneCell' = true ∧ NodeV (enc (T6.put k v))) := ⟨enc_one _, enc_node _⟩
  have hW := hW1.symm
  clear hwas hsL hsT hB1 hW1 h hok hbn
  generalize (getN (T6.walk (fun q => pre q k)) k).1 = g1 at *
  generalize hQ : (fun (e : Ending) (w' : World) => e = .returned (.tuple #[.bool true, .int .i64 0]) ∧ w'.heap[b]? = some (.cells (tbC true lim cnt T4 (T6.put k v)).toArray 76) ∧ W.heap.size ≤ w'.heap.size ∧ (∀ B, B ≤ b → B ≤ W.heap.size → Below B W w') ∧ (∀ j, j < W.heap.size → j ≠ b → w'.heap[j]? = W.heap[j]?)) = Q
  have HQ : Hid (∀ e w', e = .returned (.tuple #[.bool true, .int .i64 0]) ∧ w'.heap[b]? = some (.cells (tbC true lim cnt T4 (T6.put k v)).toArray 76) ∧ W.heap.size ≤ w'.heap.size ∧ (∀ B, B ≤ b → B ≤ W.heap.size → Below B W w') ∧ (∀ j, j < W.heap.size → j ≠ b → w'.heap[j]? = W.heap[j]?) → Q e w') := fun e w' hh => by rw [← hQ]; exact hh
  clear hQ
  go_enter Try.func53, Try.ntmps53
  go_wp2_with fail
  refine region_midT (fun a0 a' w' => a' = (((((((((((a0.put (some 11) (.pointer (some ⟨b, 4, none⟩))).put (some 12) (.pointer (some ⟨b, 4, none⟩))).put (some 13) (enc T6)).put (some 14) (.pointer (some ⟨W.heap.size, 0, none⟩))).put (some 15) (KV k)).put (some 16) (.tuple #[.int .i64 g1, .bool true])).put (some 10) (.tuple #[.int .i64 g1, .bool true])).put (some 17) (.int .i64 g1)).put (some 18) (.bool true)).put (some 8) (.int .i64 g1)).put (some 9) (.bool true)) ∧ Below W1.heap.size W1 w') ?_ ?_
  · skip
    refine wp_region_held (S := (fun X => X.heap[b]? = some (.cells (tbC true lim cnt T4 T6).toArray 76) ∧ X.heap[W.heap.size]? = some (.cells (lfC k v).toArray 85))) (by kernel_rfl) ?_
    show wpAnyH _ _ _ _ _ 11 (Array.replicate 11 false) _ _
    have hS0 : W1.drew.heap[b]? = some (.cells (tbC true lim cnt T4 T6).toArray 76) ∧ W1.drew.heap[W.heap.size]? = some (.cells (lfC k v).toArray 85) := ⟨HST.out, HSL.out⟩
    refine take_one (i := 0) (d := some 11) (v := .pointer (some ⟨b, 4, none⟩)) rfl rfl rfl (by kernel_rfl) (by kernel_rfl) (by kernel_rfl) (fun _ _ _ _ _ h => h.elim) (fun X hS => by kernel_rfl) hS0 ?_
    simp only [Act.put, List.setIfInBounds_toArray, List.set_cons_zero, List.set_cons_succ]
    refine take_one (i := 1) (d := some 12) (v := .pointer (some ⟨b, 4, none⟩)) rfl rfl rfl (by kernel_rfl) (by kernel_rfl) (by kernel_rfl) (fun _ _ _ _ _ h => h.elim) (fun X hS => by kernel_rfl) hS0 ?_
    simp only [Act.put, List.setIfInBounds_toArray, List.set_cons_zero, List.set_cons_succ]
    refine take_one (i := 2) (d := some 13) (v := enc T6) rfl rfl rfl (by kernel_rfl) (by kernel_rfl) (by kernel_rfl) (fun _ _ _ _ _ h => h.elim) (fun X hS => ex_loadA (.tmp 12) 74 rfl rfl (ld_node4 hS.1)) hS0 ?_
    simp only [Act.put, List.setIfInBounds_toArray, List.set_cons_zero, List.set_cons_succ]
    refine take_one (i := 3) (d := some 14) (v := .pointer (some ⟨W.heap.size, 0, none⟩)) rfl rfl rfl (by kernel_rfl) (by kernel_rfl) (by kernel_rfl) (fun _ _ _ _ _ h => h.elim) (fun X hS => by kernel_rfl) hS0 ?_
    simp only [Act.put, List.setIfInBounds_toArray, List.set_cons_zero, List.set_cons_succ]
    refine take_one (i := 4) (d := some 15) (v := KV k) rfl rfl rfl (by kernel_rfl) (by kernel_rfl) (by kernel_rfl) (fun _ _ _ _ _ h => h.elim) (fun X hS => ex_loadA (.tmp 14) 39 rfl rfl (kb_key (r := [.int .i64 v]) hS.2)) hS0 ?_
    simp only [Act.put, List.setIfInBounds_toArray, List.set_cons_zero, List.set_cons_succ]
    refine all_one (i := 5) (by kernel_rfl) rfl rfl ?_
    refine wp_call (d := some 16) 56 _ rfl (by kernel_rfl) (callR (HG.out _)) ?_
    rintro _ X1 ⟨rfl, hb1⟩
    have hS1 := And.intro (blk_kept hS0.1 hb1) (blk_kept hS0.2 hb1)
    refine ⟨hS1, ?_⟩
    simp only [Act.put, List.setIfInBounds_toArray, List.set_cons_zero, List.set_cons_succ]
    refine take_one (i := 6) (d := some 10) (v := .tuple #[.int .i64 g1, .bool true]) rfl rfl rfl (by kernel_rfl) (by kernel_rfl) (by kernel_rfl) (fun _ _ _ _ _ h => h.elim) (fun X hS => by kernel_rfl) hS1 ?_
    simp only [Act.put, List.setIfInBounds_toArray, List.set_cons_zero, List.set_cons_succ]
    refine take_one (i := 7) (d := some 17) (v := .int .i64 g1) rfl rfl rfl (by kernel_rfl) (by kernel_rfl) (by kernel_rfl) (fun _ _ _ _ _ h => h.elim) (fun X hS => by kernel_rfl) hS1 ?_
    simp only [Act.put, List.setIfInBounds_toArray, List.set_cons_zero, List.set_cons_succ]
    refine take_one (i := 8) (d := some 18) (v := .bool true) rfl rfl rfl (by kernel_rfl) (by kernel_rfl) (by kernel_rfl) (fun _ _ _ _ _ h => h.elim) (fun X hS => by kernel_rfl) hS1 ?_
    simp only [Act.put, List.setIfInBounds_toArray, List.set_cons_zero, List.set_cons_succ]
    refine take_one (i := 9) (d := some 8) (v := .int .i64 g1) rfl rfl rfl (by kernel_rfl) (by kernel_rfl) (by kernel_rfl) (fun _ _ _ _ _ h => h.elim) (fun X hS => by kernel_rfl) hS1 ?_
    simp only [Act.put, List.setIfInBounds_toArray, List.set_cons_zero, List.set_cons_succ]
    refine take_one (i := 10) (d := some 9) (v := .bool true) rfl rfl rfl (by kernel_rfl) (by kernel_rfl) (by kernel_rfl) (fun _ _ _ _ _ h => h.elim) (fun X hS => by kernel_rfl) hS1 ?_
    simp only [Act.put, List.setIfInBounds_toArray, List.set_cons_zero, List.set_cons_succ]
    refine wpAnyH_done (by kernel_rfl) ?_ _
    exact ⟨rfl, ((Below.refl _ W1).drew).trans hb1⟩
  · rintro a' w2 ⟨rfl, hb2⟩
    simp only [Act.put, List.setIfInBounds_toArray, List.set_cons_zero, List.set_cons_succ]
    have hT2 := blk_kept HST.out hb2
    have hL2 := blk_kept HSL.out hb2
    have hT3 := hT2
    have ho3 : Only b w2 w2 := Only.refl b w2
    have hL3 := (ho3.other W.heap.size (by have := HBN.out; omega)).trans hL2
    have HT3 : Hid (w2.heap[b]? = some (.cells (tbC true lim cnt T4 T6).toArray 76)) := hT3
    have HL3 : Hid (w2.heap[W.heap.size]? = some (.cells (lfC k v).toArray 85)) := hL3
    have HB3 : Hid (∀ B, B ≤ b → B ≤ W.heap.size → Below B W w2) := fun B hB hB2 => ((HB1.out.mono hB2).trans (hb2.mono (Nat.le_trans hB2 HB1.out.size))).trans (ho3.below hB)
    have HZ3 : Hid (W.heap.size ≤ w2.heap.size) := by
      have h1 := HB1.out.size
      have h2 := hb2.size
      have h3 := ho3.size
      have : W.heap.size ≤ w2.heap.size := by omega
      exact this
    have HO3 : Hid (∀ j, j < W.heap.size → j ≠ b → w2.heap[j]? = W.heap[j]?) := fun j hj hn => (ho3.other j hn).trans ((hb2.block j (Nat.lt_of_lt_of_le hj HB1.out.size)).trans (HB1.out.block j hj))
    clear hT2 hL2 hT3 ho3 hL3 hb2 HST HSL HG HB1
    go_wp2_with fail
    go_region
    go_wp2_with fail
    refine region_midT (fun a0 a' w' => a' = (((((((a0.put (some 41) (.pointer (some ⟨b, 4, none⟩))).put (some 42) (.pointer (some ⟨b, 4, none⟩))).put (some 43) (.pointer (some ⟨b, 4, none⟩))).put (some 44) (enc T6)).put (some 45) (LF k v)).put (some 46) (enc (T6.put k v))).put (some 47) (.pointer (some ⟨b, 4, none⟩))) ∧ w'.heap[b]? = some (.cells (tbC true lim cnt T4 (T6.put k v)).toArray 76) ∧ w2.heap.size ≤ w'.heap.size ∧ (∀ B, B ≤ b → Below B w2 w') ∧ (∀ j, j < w2.heap.size → j ≠ b → w'.heap[j]? = w2.heap[j]?)) ?_ ?_
    · skip
      refine wp_region_held (S := fun X => (∃ T, X.heap[b]? = some (.cells (tbC true lim cnt T4 T).toArray 76)) ∧ X.heap[W.heap.size]? = some (.cells (lfC k v).toArray 85)) (by kernel_rfl) ?_
      show wpAnyH _ _ _ _ _ 8 (Array.replicate 8 false) _ _
      have hT0 : w2.drew.drew.heap[b]? = some (.cells (tbC true lim cnt T4 T6).toArray 76) := HT3.out
      have hS0 : (∃ T, w2.drew.drew.heap[b]? = some (.cells (tbC true lim cnt T4 T).toArray 76)) ∧ w2.drew.drew.heap[W.heap.size]? = some (.cells (lfC k v).toArray 85) := ⟨⟨T6, HT3.out⟩, HL3.out⟩
      refine take_one (i := 0) (d := some 41) (v := .pointer (some ⟨b, 4, none⟩)) rfl rfl rfl (by kernel_rfl) (by kernel_rfl) (by kernel_rfl) (fun _ _ _ _ _ h => h.elim) (fun X hS => by kernel_rfl) hS0 ?_
      simp only [Act.put, List.setIfInBounds_toArray, List.set_cons_zero, List.set_cons_succ]
      refine take_one (i := 1) (d := some 42) (v := .pointer (some ⟨b, 4, none⟩)) rfl rfl rfl (by kernel_rfl) (by kernel_rfl) (by kernel_rfl) (fun _ _ _ _ _ h => h.elim) (fun X hS => by kernel_rfl) hS0 ?_
      simp only [Act.put, List.setIfInBounds_toArray, List.set_cons_zero, List.set_cons_succ]
      refine take_one (i := 2) (d := some 43) (v := .pointer (some ⟨b, 4, none⟩)) rfl rfl rfl (by kernel_rfl) (by kernel_rfl) (by kernel_rfl) (fun _ _ _ _ _ h => h.elim) (fun X hS => by kernel_rfl) hS0 ?_
      simp only [Act.put, List.setIfInBounds_toArray, List.set_cons_zero, List.set_cons_succ]
      refine take_one (i := 4) (d := some 45) (v := LF k v) rfl rfl rfl (by kernel_rfl) (by kernel_rfl) (by kernel_rfl) (fun _ _ _ _ _ h => h.elim) (fun X hS => ex_loadA (.tmp 5) 85 rfl rfl (lf_load hS.2)) hS0 ?_
      simp only [Act.put, List.setIfInBounds_toArray, List.set_cons_zero, List.set_cons_succ]
      refine all_one (i := 3) (by kernel_rfl) rfl rfl ?_
      refine wp_effT (d := some 44) (v := enc T6) rfl (ex_loadA (.tmp 43) 74 rfl rfl (ld_node4 hT0)) ⟨hS0, ?_⟩
      simp only [Act.put, List.setIfInBounds_toArray, List.set_cons_zero, List.set_cons_succ]
      refine all_one (i := 5) (by kernel_rfl) rfl rfl ?_
      refine wp_call (d := some 46) 70 _ rfl (by kernel_rfl) (callR (HW.out _)) ?_
      rintro _ X1 ⟨rfl, hb1⟩
      have hT1 := blk_kept hT0 hb1
      have hL1 := blk_kept hS0.2 hb1
      refine ⟨⟨⟨T6, hT1⟩, hL1⟩, ?_⟩
      simp only [Act.put, List.setIfInBounds_toArray, List.set_cons_zero, List.set_cons_succ]
      refine take_one (i := 6) (d := some 47) (v := .pointer (some ⟨b, 4, none⟩)) rfl rfl rfl (by kernel_rfl) (by kernel_rfl) (by kernel_rfl) (fun _ _ _ _ _ h => h.elim) (fun X hS => by kernel_rfl) ⟨⟨T6, hT1⟩, hL1⟩ ?_
      simp only [Act.put, List.setIfInBounds_toArray, List.set_cons_zero, List.set_cons_succ]
      obtain ⟨X2, hst, hT2, ho2⟩ : ∃ X2, (Instr.storeAt 74 (.pointer (some ⟨b, 4, none⟩)) (enc (T6.put k v))).run Try.prog X1 = .ok () X2 ∧ X2.heap[b]? = some (.cells (tbC true lim cnt T4 (T6.put k v)).toArray 76) ∧ Only b X1 X2 := ⟨_, st_node hT1 (show 4 < 5 by decide) HE1.out.2, blk_set hT1 4 _, (Only.refl b X1).set 4 _⟩
      have hL2 := (ho2.other W.heap.size (by have := HBN.out; omega)).trans hL1
      refine all_one (i := 7) (by kernel_rfl) rfl rfl ?_
      refine wp_storeA (.tmp 47) (.tmp 46) 74 rfl rfl rfl rfl hst ⟨⟨⟨_, hT2⟩, hL2⟩, ?_⟩
      refine wpAnyH_done (by kernel_rfl) ?_ _
      have hbx : ∀ B, B ≤ b → Below B w2 X2 := fun B hB => (((Below.refl w2.heap.size w2).drew.drew.trans hb1).mono (Nat.le_trans hB (Nat.le_of_lt (Array.getElem?_eq_some_iff.1 HT3.out).1))).trans (ho2.below hB)
      exact ⟨rfl, hT2, (hbx b (Nat.le_refl _)).size, hbx, fun j hj hn => (ho2.other j hn).trans (((Below.refl w2.heap.size w2).drew.drew.trans hb1).block j hj)⟩
    · rintro a' w4 ⟨rfl, hT4, hz4, hb4, ho4⟩
      simp only [Act.put, List.setIfInBounds_toArray, List.set_cons_zero, List.set_cons_succ]
      have HF : Hid (Q (.returned (.tuple #[.bool true, .int .i64 0])) w4) := HQ.out _ _ ⟨rfl, hT4, Nat.le_trans HZ3.out hz4, fun B hB hB2 => (HB3.out B hB hB2).trans (hb4 B hB), fun j hj hn => (ho4 j (Nat.lt_of_lt_of_le hj HZ3.out) hn).trans (HO3.out j hj hn)⟩
      clear hT4 hz4 hb4 ho4 HO3 HW HT3 HL3 HB3 HZ3 HQ
      go_wp2
      try go_ret2
      exact HF.out
set_option maxHeartbeats 4000000 in
set_option maxRecDepth 100000 in
theorem put6_many {W : World} {b : Nat} {lim cnt : Int} {T4 T6 : Tr} (h : W.heap[b]? = some (.cells (tbC true lim cnt T4 T6).toArray 76)) (hok : T6.Ok) (k : Bs) (hk : k.length ≤ 128) (v : Int) (hwas : (getN (T6.walk (fun q => pre q k)) k).2 = false) (hcn : cnt = lim) :
    Calls Try.prog 53 #[.pointer (some ⟨b, 0, none⟩), .pointer (some ⟨b, 4, none⟩), LF k v] W fun e w' => e = .returned (.tuple #[.bool false, .int .i64 3]) ∧ w'.heap[b]? = some (.cells (tbC true lim cnt T4 T6).toArray 76) ∧ W.heap.size ≤ w'.heap.size ∧ (∀ B, B ≤ b → B ≤ W.heap.size → Below B W w') ∧ (∀ j, j < W.heap.size → j ≠ b → w'.heap[j]? = W.heap[j]?) := by
  obtain ⟨W1, hW1⟩ : ∃ W1, W1 = W.alloc (.cells (lfC k v).toArray 85) := ⟨_, rfl⟩
  have hB1 : Below W.heap.size W W1 := by rw [hW1]; exact (Below.refl W.heap.size W).alloc (Nat.le_refl _) _
  have hsL : W1.heap[W.heap.size]? = some (.cells (lfC k v).toArray 85) := by rw [hW1]; exact blk_new W _
  have hsT := blk_on h hB1
  have HG : Hid (∀ X : World, Calls Try.prog 56 #[enc T6, KV k] X fun e w' => e = .returned (.tuple #[.int .i64 (getN (T6.walk (fun q => pre q k)) k).1, .bool false]) ∧ Below X.heap.size X w') := fun X => by
    have := get_any T6 hok k hk X
    rwa [hwas] at this
  have HW : Hid (∀ X : World, Calls Try.prog 70 #[enc T6, LF k v] X fun e w' => e = .returned (enc (T6.put k v)) ∧ Below X.heap.size X w') := fun X => with_any T6 hok k v hk X
  have hbn : b < W.heap.size := (Array.getElem?_eq_some_iff.1 h).1
  have HBN : Hid (b < W.heap.size) := hbn
  have HST : Hid (W1.heap[b]? = some (.cells (tbC true lim cnt T4 T6).toArray 76)) := hsT
  have HSL : Hid (W1.heap[W.heap.size]? = some (.cells (lfC k v).toArray 85)) := hsL
  have HB1 : Hid (Below W.heap.size W W1) := hB1
  have HE1 : Hid ((enc T6).oneCell' = true ∧ NodeV (enc (T6.put k v))) := ⟨enc_one _, enc_node _⟩
  have hW := hW1.symm
  clear hwas hsL hsT hB1 hW1 h hok hbn
  generalize (getN (T6.walk (fun q => pre q k)) k).1 = g1 at *
  generalize hQ : (fun (e : Ending) (w' : World) => e = .returned (.tuple #[.bool false, .int .i64 3]) ∧ w'.heap[b]? = some (.cells (tbC true lim cnt T4 T6).toArray 76) ∧ W.heap.size ≤ w'.heap.size ∧ (∀ B, B ≤ b → B ≤ W.heap.size → Below B W w') ∧ (∀ j, j < W.heap.size → j ≠ b → w'.heap[j]? = W.heap[j]?)) = Q
  have HQ : Hid (∀ e w', e = .returned (.tuple #[.bool false, .int .i64 3]) ∧ w'.heap[b]? = some (.cells (tbC true lim cnt T4 T6).toArray 76) ∧ W.heap.size ≤ w'.heap.size ∧ (∀ B, B ≤ b → B ≤ W.heap.size → Below B W w') ∧ (∀ j, j < W.heap.size → j ≠ b → w'.heap[j]? = W.heap[j]?) → Q e w') := fun e w' hh => by rw [← hQ]; exact hh
  clear hQ
  go_enter Try.func53, Try.ntmps53
  go_wp2_with fail
  refine region_midT (fun a0 a' w' => a' = (((((((((((a0.put (some 11) (.pointer (some ⟨b, 4, none⟩))).put (some 12) (.pointer (some ⟨b, 4, none⟩))).put (some 13) (enc T6)).put (some 14) (.pointer (some ⟨W.heap.size, 0, none⟩))).put (some 15) (KV k)).put (some 16) (.tuple #[.int .i64 g1, .bool false])).put (some 10) (.tuple #[.int .i64 g1, .bool false])).put (some 17) (.int .i64 g1)).put (some 18) (.bool false)).put (some 8) (.int .i64 g1)).put (some 9) (.bool false)) ∧ Below W1.heap.size W1 w') ?_ ?_
  · skip
    refine wp_region_held (S := (fun X => X.heap[b]? = some (.cells (tbC true lim cnt T4 T6).toArray 76) ∧ X.heap[W.heap.size]? = some (.cells (lfC k v).toArray 85))) (by kernel_rfl) ?_
    show wpAnyH _ _ _ _ _ 11 (Array.replicate 11 false) _ _
    have hS0 : W1.drew.heap[b]? = some (.cells (tbC true lim cnt T4 T6).toArray 76) ∧ W1.drew.heap[W.heap.size]? = some (.cells (lfC k v).toArray 85) := ⟨HST.out, HSL.out⟩
    refine take_one (i := 0) (d := some 11) (v := .pointer (some ⟨b, 4, none⟩)) rfl rfl rfl (by kernel_rfl) (by kernel_rfl) (by kernel_rfl) (fun _ _ _ _ _ h => h.elim) (fun X hS => by kernel_rfl) hS0 ?_
    simp only [Act.put, List.setIfInBounds_toArray, List.set_cons_zero, List.set_cons_succ]
    refine take_one (i := 1) (d := some 12) (v := .pointer (some ⟨b, 4, none⟩)) rfl rfl rfl (by kernel_rfl) (by kernel_rfl) (by kernel_rfl) (fun _ _ _ _ _ h => h.elim) (fun X hS => by kernel_rfl) hS0 ?_
    simp only [Act.put, List.setIfInBounds_toArray, List.set_cons_zero, List.set_cons_succ]
    refine take_one (i := 2) (d := some 13) (v := enc T6) rfl rfl rfl (by kernel_rfl) (by kernel_rfl) (by kernel_rfl) (fun _ _ _ _ _ h => h.elim) (fun X hS => ex_loadA (.tmp 12) 74 rfl rfl (ld_node4 hS.1)) hS0 ?_
    simp only [Act.put, List.setIfInBounds_toArray, List.set_cons_zero, List.set_cons_succ]
    refine take_one (i := 3) (d := some 14) (v := .pointer (some ⟨W.heap.size, 0, none⟩)) rfl rfl rfl (by kernel_rfl) (by kernel_rfl) (by kernel_rfl) (fun _ _ _ _ _ h => h.elim) (fun X hS => by kernel_rfl) hS0 ?_
    simp only [Act.put, List.setIfInBounds_toArray, List.set_cons_zero, List.set_cons_succ]
    refine take_one (i := 4) (d := some 15) (v := KV k) rfl rfl rfl (by kernel_rfl) (by kernel_rfl) (by kernel_rfl) (fun _ _ _ _ _ h => h.elim) (fun X hS => ex_loadA (.tmp 14) 39 rfl rfl (kb_key (r := [.int .i64 v]) hS.2)) hS0 ?_
    simp only [Act.put, List.setIfInBounds_toArray, List.set_cons_zero, List.set_cons_succ]
    refine all_one (i := 5) (by kernel_rfl) rfl rfl ?_
    refine wp_call (d := some 16) 56 _ rfl (by kernel_rfl) (callR (HG.out _)) ?_
    rintro _ X1 ⟨rfl, hb1⟩
    have hS1 := And.intro (blk_kept hS0.1 hb1) (blk_kept hS0.2 hb1)
    refine ⟨hS1, ?_⟩
    simp only [Act.put, List.setIfInBounds_toArray, List.set_cons_zero, List.set_cons_succ]
    refine take_one (i := 6) (d := some 10) (v := .tuple #[.int .i64 g1, .bool false]) rfl rfl rfl (by kernel_rfl) (by kernel_rfl) (by kernel_rfl) (fun _ _ _ _ _ h => h.elim) (fun X hS => by kernel_rfl) hS1 ?_
    simp only [Act.put, List.setIfInBounds_toArray, List.set_cons_zero, List.set_cons_succ]
    refine take_one (i := 7) (d := some 17) (v := .int .i64 g1) rfl rfl rfl (by kernel_rfl) (by kernel_rfl) (by kernel_rfl) (fun _ _ _ _ _ h => h.elim) (fun X hS => by kernel_rfl) hS1 ?_
    simp only [Act.put, List.setIfInBounds_toArray, List.set_cons_zero, List.set_cons_succ]
    refine take_one (i := 8) (d := some 18) (v := .bool false) rfl rfl rfl (by kernel_rfl) (by kernel_rfl) (by kernel_rfl) (fun _ _ _ _ _ h => h.elim) (fun X hS => by kernel_rfl) hS1 ?_
    simp only [Act.put, List.setIfInBounds_toArray, List.set_cons_zero, List.set_cons_succ]
    refine take_one (i := 9) (d := some 8) (v := .int .i64 g1) rfl rfl rfl (by kernel_rfl) (by kernel_rfl) (by kernel_rfl) (fun _ _ _ _ _ h => h.elim) (fun X hS => by kernel_rfl) hS1 ?_
    simp only [Act.put, List.setIfInBounds_toArray, List.set_cons_zero, List.set_cons_succ]
    refine take_one (i := 10) (d := some 9) (v := .bool false) rfl rfl rfl (by kernel_rfl) (by kernel_rfl) (by kernel_rfl) (fun _ _ _ _ _ h => h.elim) (fun X hS => by kernel_rfl) hS1 ?_
    simp only [Act.put, List.setIfInBounds_toArray, List.set_cons_zero, List.set_cons_succ]
    refine wpAnyH_done (by kernel_rfl) ?_ _
    exact ⟨rfl, ((Below.refl _ W1).drew).trans hb1⟩
  · rintro a' w2 ⟨rfl, hb2⟩
    simp only [Act.put, List.setIfInBounds_toArray, List.set_cons_zero, List.set_cons_succ]
    have hT2 := blk_kept HST.out hb2
    have hL2 := blk_kept HSL.out hb2
    have c1 : w2.cell? ⟨b, 1, none⟩ = some (.int .i64 lim) := blk_cell hT2 rfl
    have c2 : w2.cell? ⟨b, 2, none⟩ = some (.int .i64 cnt) := blk_cell hT2 rfl
    have q : (cnt == lim) = true := by simp [hcn]
    have HF : Hid (Q (.returned (.tuple #[.bool false, .int .i64 3])) w2.drew) := HQ.out _ _ ⟨rfl, hT2, Nat.le_trans HB1.out.size hb2.size, fun B hB hB2 => ((HB1.out.mono hB2).trans (hb2.mono (Nat.le_trans hB2 HB1.out.size))).drew, fun j hj hn => (hb2.block j (Nat.lt_of_lt_of_le hj HB1.out.size)).trans (HB1.out.block j hj)⟩
    clear hT2 hL2 hb2 HST HSL HG HB1 HQ hcn
    go_wp2_with fail
    go_region
    go_wp2
    try go_ret2
    exact HF.out
end Go.Proofs.Ytenahbdopgmpfaa
