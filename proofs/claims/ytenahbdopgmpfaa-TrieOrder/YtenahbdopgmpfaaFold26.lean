/-
  Put, Get, Del of a table that was made.
  Put, Get, Del of a table that was made, whatever the prefix.
-/
import Derived.Test.YtenahbdopgmpfaaFold25
import Derived.Test.YtenahbdopgmpfaaFold22
namespace Go.Proofs.Ytenahbdopgmpfaa
open Go Go.RowKit Go.Shelf
set_option linter.unusedVariables false
set_option linter.unusedSimpArgs false

set_option maxHeartbeats 1000000 in
set_option maxRecDepth 100000 in
theorem check6_made {W : World} {b : Nat} {lim cnt : Int} {T4 T6 : Tr} (h : W.heap[b]? = some (.cells (tbC true lim cnt T4 T6).toArray 76)) (l : List Int) (n : Int) (hf : FitB l) (hl : l.length = 16) (hb : -9223372036854775808 ≤ n ∧ n ≤ 9223372036854775807) :
    Calls Try.prog 54 #[.pointer (some ⟨b, 0, none⟩), P6 l n] W fun e w' => e = .returned (.int .i64 (if okP6 l n then 0 else 22)) ∧ Below W.heap.size W w' := by
  have hB := (Below.refl W.heap.size W).alloc (Nat.le_refl _) (.cells (cp6 l n).toArray 39)
  have hT := blk_on h hB
  have c0 : (W.alloc (.cells (cp6 l n).toArray 39)).cell? ⟨b, 0, none⟩ = some (.bool true) := blk_cell hT rfl
  have HC : Hid _ := Check6_calls l n (W.alloc (.cells (cp6 l n).toArray 39)) hf hl hb
  have HL : Hid _ := agg_load (t := 39) (n := 17) (fun w => by kernel_rfl) (fun w => by kernel_rfl) (show (cp6 l n).length = 17 by simp [cp6, u8s, hl]) (CellsAt.of_blk (blk_new W (.cells (cp6 l n).toArray 39)))
  have HB : Hid _ := hB
  clear hB hT h hf hl hb
  generalize (if okP6 l n then (0 : Int) else 22) = kk at *
  go_enter Try.func54, Try.ntmps54
  go_wp2_with ((with_reducible show wpList _ _ _ _ _ _); refine armLv (.tmp 3) 39 rfl rfl rfl HL.out ?_)
  refine Calls.mono HC.out ?_
  rintro e w1 ⟨rfl, hb1⟩
  have HF : Hid _ := HB.out.trans (hb1.mono HB.out.size)
  clear HC hb1 c0 HL
  go_wp2
  try go_ret
  exact ⟨rfl, HF.out⟩
set_option maxHeartbeats 4000000 in
set_option maxRecDepth 100000 in
theorem Put4_of {W : World} {b : Nat} {lim cnt : Int} {T4 T6 : Tr} (h : W.heap[b]? = some (.cells (tbC true lim cnt T4 T6).toArray 76)) (PC : List Value) (hPC : PC.length = 5) (k : Bs) (v : Int) (wb : Bool) (er : Int) (C' : List Value) (hck : ∀ X : World, X.heap[b]? = some (.cells (tbC true lim cnt T4 T6).toArray 76) → Calls Try.prog 52 #[.pointer (some ⟨b, 0, none⟩), .agg PC.toArray] X fun e w' => e = .returned (.int .i64 0) ∧ Below X.heap.size X w') (hky : ∀ X : World, Calls Try.prog 43 #[.agg PC.toArray] X fun e w' => e = .returned (KV k) ∧ Below X.heap.size X w') (hin : ∀ X : World, X.heap[b]? = some (.cells (tbC true lim cnt T4 T6).toArray 76) → Calls Try.prog 53 #[.pointer (some ⟨b, 0, none⟩), .pointer (some ⟨b, 3, none⟩), LF k v] X fun e w' => e = .returned (.tuple #[.bool wb, .int .i64 er]) ∧ w'.heap[b]? = some (.cells C'.toArray 76) ∧ X.heap.size ≤ w'.heap.size ∧ (∀ B, B ≤ b → B ≤ X.heap.size → Below B X w') ∧ (∀ j, j < X.heap.size → j ≠ b → w'.heap[j]? = X.heap[j]?)) :
    Calls Try.prog 20 #[.pointer (some ⟨b, 0, none⟩), .agg PC.toArray, .int .i64 v] W fun e w' => e = .returned (.tuple #[.bool wb, .int .i64 er]) ∧ w'.heap[b]? = some (.cells C'.toArray 76) ∧ W.heap.size ≤ w'.heap.size ∧ (∀ B, B ≤ b → B ≤ W.heap.size → Below B W w') ∧ (∀ j, j < W.heap.size → j ≠ b → w'.heap[j]? = W.heap[j]?) := by
  obtain ⟨W1, hW1⟩ : ∃ W1, W1 = W.alloc (.cells PC.toArray 35) := ⟨_, rfl⟩
  have hB1 : Below W.heap.size W W1 := by rw [hW1]; exact (Below.refl W.heap.size W).alloc (Nat.le_refl _) _
  have hbx : W1.heap[W.heap.size]? = some (.cells PC.toArray 35) := by rw [hW1]; exact blk_new W _
  have hsT := blk_on h hB1
  have hbn : b < W.heap.size := (Array.getElem?_eq_some_iff.1 h).1
  have HCK : Hid _ := hck
  have HKY : Hid _ := hky
  have HIN : Hid _ := hin
  have HST : Hid (W1.heap[b]? = some (.cells (tbC true lim cnt T4 T6).toArray 76)) := hsT
  have HBX : Hid (W1.heap[W.heap.size]? = some (.cells PC.toArray 35)) := hbx
  have HB1 : Hid (Below W.heap.size W W1) := hB1
  have HBN : Hid (b < W.heap.size) := hbn
  have HL1 : Hid _ := agg_load (t := 35) (n := 5) (fun w => by kernel_rfl) (fun w => by kernel_rfl) hPC (CellsAt.of_blk hbx)
  have hW := hW1.symm
  clear hsT hbx hB1 hbn hW1 h hck hin hky
  generalize hQ : (fun (e : Ending) (w' : World) => e = .returned (.tuple #[.bool wb, .int .i64 er]) ∧ w'.heap[b]? = some (.cells C'.toArray 76) ∧ W.heap.size ≤ w'.heap.size ∧ (∀ B, B ≤ b → B ≤ W.heap.size → Below B W w') ∧ (∀ j, j < W.heap.size → j ≠ b → w'.heap[j]? = W.heap[j]?)) = Q
  have HQ : Hid (∀ e w', e = .returned (.tuple #[.bool wb, .int .i64 er]) ∧ w'.heap[b]? = some (.cells C'.toArray 76) ∧ W.heap.size ≤ w'.heap.size ∧ (∀ B, B ≤ b → B ≤ W.heap.size → Below B W w') ∧ (∀ j, j < W.heap.size → j ≠ b → w'.heap[j]? = W.heap[j]?) → Q e w') := fun e w' hh => by rw [← hQ]; exact hh
  clear hQ
  go_enter Try.func20, Try.ntmps20
  go_wp2_with ((with_reducible show wpList _ _ _ _ _ _); refine armLv (.tmp 4) 35 rfl rfl rfl HL1.out ?_)
  refine Calls.mono (HCK.out _ HST.out) ?_
  rintro e2 w2 ⟨rfl, hb2⟩
  have HT2 : Hid (w2.heap[b]? = some (.cells (tbC true lim cnt T4 T6).toArray 76)) := blk_kept HST.out hb2
  have HX2 : Hid (w2.heap[W.heap.size]? = some (.cells PC.toArray 35)) := blk_kept HBX.out hb2
  have HB2 : Hid (Below W.heap.size W w2) := HB1.out.trans (hb2.mono HB1.out.size)
  clear hb2 HST HBX HB1 HCK hW HL1
  go_wp2_with fail
  refine region_midT (fun aa a' w' => a' = (((((((((((((aa.put (some 15) (.pointer (some ⟨b, 0, none⟩))).put (some 16) (.pointer (some ⟨b, 0, none⟩))).put (some 17) (.pointer (some ⟨b, 0, none⟩))).put (some 18) (.pointer (some ⟨b, 3, none⟩))).put (some 19) (.agg PC.toArray)).put (some 20) (KV k)).put (some 21) (.int .i64 v)).put (some 22) (LF k v)).put (some 23) (.tuple #[.bool wb, .int .i64 er])).put (some 24) (.bool wb)).put (some 25) (.int .i64 er)).put (some 6) (.bool wb)).put (some 7) (.int .i64 er)) ∧ w'.heap[b]? = some (.cells C'.toArray 76) ∧ w2.heap.size ≤ w'.heap.size ∧ (∀ B, B ≤ b → B ≤ w2.heap.size → Below B w2 w') ∧ (∀ j, j < w2.heap.size → j ≠ b → w'.heap[j]? = w2.heap[j]?)) ?_ ?_
  · skip
    refine wp_region_held (S := fun X => X.heap[W.heap.size]? = some (.cells PC.toArray 35)) (by kernel_rfl) ?_
    show wpAnyH _ _ _ _ _ 13 (Array.replicate 13 false) _ _
    have hS0 : w2.drew.heap[W.heap.size]? = some (.cells PC.toArray 35) := HX2.out
    have hT0 : w2.drew.heap[b]? = some (.cells (tbC true lim cnt T4 T6).toArray 76) := HT2.out
    have hb0 : Below w2.heap.size w2 w2.drew := (Below.refl w2.heap.size w2).drew
    refine take_one (i := 0) (d := some 15) (v := .pointer (some ⟨b, 0, none⟩)) rfl rfl rfl (by kernel_rfl) (by kernel_rfl) (by kernel_rfl) (fun _ _ _ _ _ h => h.elim) (fun X hS => by kernel_rfl) hS0 ?_
    simp only [Act.put, List.setIfInBounds_toArray, List.set_cons_zero, List.set_cons_succ]
    refine take_one (i := 1) (d := some 16) (v := .pointer (some ⟨b, 0, none⟩)) rfl rfl rfl (by kernel_rfl) (by kernel_rfl) (by kernel_rfl) (fun _ _ _ _ _ h => h.elim) (fun X hS => by kernel_rfl) hS0 ?_
    simp only [Act.put, List.setIfInBounds_toArray, List.set_cons_zero, List.set_cons_succ]
    refine take_one (i := 2) (d := some 17) (v := .pointer (some ⟨b, 0, none⟩)) rfl rfl rfl (by kernel_rfl) (by kernel_rfl) (by kernel_rfl) (fun _ _ _ _ _ h => h.elim) (fun X hS => by kernel_rfl) hS0 ?_
    simp only [Act.put, List.setIfInBounds_toArray, List.set_cons_zero, List.set_cons_succ]
    refine take_one (i := 3) (d := some 18) (v := .pointer (some ⟨b, 3, none⟩)) rfl rfl rfl (by kernel_rfl) (by kernel_rfl) (by kernel_rfl) (fun _ _ _ _ _ h => h.elim) (fun X hS => by kernel_rfl) hS0 ?_
    simp only [Act.put, List.setIfInBounds_toArray, List.set_cons_zero, List.set_cons_succ]
    refine take_one (i := 4) (d := some 19) (v := .agg PC.toArray) rfl rfl rfl (by kernel_rfl) (by kernel_rfl) (by kernel_rfl) (fun _ _ _ _ _ h => h.elim) (fun X hS => ex_loadA (.tmp 4) 35 rfl rfl (agg_load (t := 35) (n := 5) (fun w => by kernel_rfl) (fun w => by kernel_rfl) hPC (CellsAt.of_blk hS))) hS0 ?_
    simp only [Act.put, List.setIfInBounds_toArray, List.set_cons_zero, List.set_cons_succ]
    refine take_one (i := 6) (d := some 21) (v := .int .i64 v) rfl rfl rfl (by kernel_rfl) (by kernel_rfl) (by kernel_rfl) (fun _ _ _ _ _ h => h.elim) (fun X hS => by kernel_rfl) hS0 ?_
    simp only [Act.put, List.setIfInBounds_toArray, List.set_cons_zero, List.set_cons_succ]
    refine all_one (i := 5) (by kernel_rfl) rfl rfl ?_
    refine wp_call (d := some 20) 43 _ rfl (by kernel_rfl) (callR (HKY.out _)) ?_
    rintro _ X1 ⟨rfl, hc1⟩
    have hS1 := blk_kept hS0 hc1
    have hT1 := blk_kept hT0 hc1
    have hb1 := hb0.trans (hc1.mono hb0.size)
    refine ⟨hS1, ?_⟩
    simp only [Act.put, List.setIfInBounds_toArray, List.set_cons_zero, List.set_cons_succ]
    refine take_one (i := 7) (d := some 22) (v := LF k v) rfl rfl rfl (by kernel_rfl) (by kernel_rfl) (by kernel_rfl) (fun _ _ _ _ _ h => h.elim) (fun X hS => ex_buildA 85 [(0, .tmp 20), (1, .tmp 21)] rfl rfl (build_lfT k v X)) hS1 ?_
    simp only [Act.put, List.setIfInBounds_toArray, List.set_cons_zero, List.set_cons_succ]
    refine all_one (i := 8) (by kernel_rfl) rfl rfl ?_
    refine wp_call (d := some 23) 53 _ rfl (by kernel_rfl) (callR (HIN.out _ hT1)) ?_
    rintro _ X2 ⟨rfl, hT2, hz2, hf2, ho2⟩
    have hS2 := (ho2 W.heap.size (Array.getElem?_eq_some_iff.1 hS1).1 (by have := HBN.out; omega)).trans hS1
    refine ⟨hS2, ?_⟩
    simp only [Act.put, List.setIfInBounds_toArray, List.set_cons_zero, List.set_cons_succ]
    refine take_one (i := 9) (d := some 24) (v := .bool wb) rfl rfl rfl (by kernel_rfl) (by kernel_rfl) (by kernel_rfl) (fun _ _ _ _ _ h => h.elim) (fun X hS => by kernel_rfl) hS2 ?_
    simp only [Act.put, List.setIfInBounds_toArray, List.set_cons_zero, List.set_cons_succ]
    refine take_one (i := 10) (d := some 25) (v := .int .i64 er) rfl rfl rfl (by kernel_rfl) (by kernel_rfl) (by kernel_rfl) (fun _ _ _ _ _ h => h.elim) (fun X hS => by kernel_rfl) hS2 ?_
    simp only [Act.put, List.setIfInBounds_toArray, List.set_cons_zero, List.set_cons_succ]
    refine take_one (i := 11) (d := some 6) (v := .bool wb) rfl rfl rfl (by kernel_rfl) (by kernel_rfl) (by kernel_rfl) (fun _ _ _ _ _ h => h.elim) (fun X hS => by kernel_rfl) hS2 ?_
    simp only [Act.put, List.setIfInBounds_toArray, List.set_cons_zero, List.set_cons_succ]
    refine take_one (i := 12) (d := some 7) (v := .int .i64 er) rfl rfl rfl (by kernel_rfl) (by kernel_rfl) (by kernel_rfl) (fun _ _ _ _ _ h => h.elim) (fun X hS => by kernel_rfl) hS2 ?_
    simp only [Act.put, List.setIfInBounds_toArray, List.set_cons_zero, List.set_cons_succ]
    refine wpAnyH_done (by kernel_rfl) ?_ _
    exact ⟨rfl, hT2, Nat.le_trans hb1.size hz2, fun B hB hB2 => (hb1.mono hB2).trans (hf2 B hB (Nat.le_trans hB2 hb1.size)), fun j hj hn => (ho2 j (Nat.lt_of_lt_of_le hj hb1.size) hn).trans (hb1.block j hj)⟩
  · rintro a' w4 ⟨rfl, hT4, hz4, hb4, ho4⟩
    simp only [Act.put, List.setIfInBounds_toArray, List.set_cons_zero, List.set_cons_succ]
    have HF : Hid (Q (.returned (.tuple #[.bool wb, .int .i64 er])) w4) := HQ.out _ _ ⟨rfl, hT4, Nat.le_trans HB2.out.size hz4, fun B hB hB2 => (HB2.out.mono hB2).trans (hb4 B hB (Nat.le_trans hB2 HB2.out.size)), fun j hj hn => (ho4 j (Nat.lt_of_lt_of_le hj HB2.out.size) hn).trans (HB2.out.block j hj)⟩
    clear hT4 hz4 hb4 ho4 HT2 HX2 HB2 HIN HQ
    go_wp2
    try go_ret2
    exact HF.out
set_option maxHeartbeats 1000000 in
set_option maxRecDepth 100000 in
theorem Put4_bad {W : World} {b : Nat} {lim cnt : Int} {T4 T6 : Tr} (h : W.heap[b]? = some (.cells (tbC true lim cnt T4 T6).toArray 76)) (c : List Value) (hc : c.length = 5) (v : Int) (hck : ∀ X : World, X.heap[b]? = some (.cells (tbC true lim cnt T4 T6).toArray 76) → Calls Try.prog 52 #[.pointer (some ⟨b, 0, none⟩), .agg c.toArray] X fun e w' => e = .returned (.int .i64 22) ∧ Below X.heap.size X w') :
    Calls Try.prog 20 #[.pointer (some ⟨b, 0, none⟩), .agg c.toArray, .int .i64 v] W fun e w' => e = .returned (.tuple #[.bool false, .int .i64 22]) ∧ Below W.heap.size W w' := by
  have HB : Hid _ := (Below.refl W.heap.size W).alloc (Nat.le_refl _) (.cells c.toArray 35)
  have HC : Hid _ := hck _ (blk_on h HB.out)
  have HL : Hid _ := agg_load (t := 35) (n := 5) (fun w => by kernel_rfl) (fun w => by kernel_rfl) hc (CellsAt.of_blk (blk_new W (.cells c.toArray 35)))
  clear h hc hck
  go_enter Try.func20, Try.ntmps20
  go_wp2_with ((with_reducible show wpList _ _ _ _ _ _); refine armLv (.tmp 4) 35 rfl rfl rfl HL.out ?_)
  refine Calls.mono HC.out ?_
  rintro e w1 ⟨rfl, hb1⟩
  have HK : Hid _ := HB.out.trans (hb1.mono HB.out.size)
  clear hb1 HC HL
  go_wp2
  try go_ret2
  exact ⟨rfl, HK.out⟩
set_option maxHeartbeats 4000000 in
set_option maxRecDepth 100000 in
theorem Put6_of {W : World} {b : Nat} {lim cnt : Int} {T4 T6 : Tr} (h : W.heap[b]? = some (.cells (tbC true lim cnt T4 T6).toArray 76)) (k : Bs) (v : Int) (wb : Bool) (er : Int) (C' : List Value) (hck : ∀ X : World, X.heap[b]? = some (.cells (tbC true lim cnt T4 T6).toArray 76) → Calls Try.prog 54 #[.pointer (some ⟨b, 0, none⟩), .agg (kC k).toArray] X fun e w' => e = .returned (.int .i64 0) ∧ Below X.heap.size X w') (hin : ∀ X : World, X.heap[b]? = some (.cells (tbC true lim cnt T4 T6).toArray 76) → Calls Try.prog 53 #[.pointer (some ⟨b, 0, none⟩), .pointer (some ⟨b, 4, none⟩), LF k v] X fun e w' => e = .returned (.tuple #[.bool wb, .int .i64 er]) ∧ w'.heap[b]? = some (.cells C'.toArray 76) ∧ X.heap.size ≤ w'.heap.size ∧ (∀ B, B ≤ b → B ≤ X.heap.size → Below B X w') ∧ (∀ j, j < X.heap.size → j ≠ b → w'.heap[j]? = X.heap[j]?)) :
    Calls Try.prog 21 #[.pointer (some ⟨b, 0, none⟩), .agg (kC k).toArray, .int .i64 v] W fun e w' => e = .returned (.tuple #[.bool wb, .int .i64 er]) ∧ w'.heap[b]? = some (.cells C'.toArray 76) ∧ W.heap.size ≤ w'.heap.size ∧ (∀ B, B ≤ b → B ≤ W.heap.size → Below B W w') ∧ (∀ j, j < W.heap.size → j ≠ b → w'.heap[j]? = W.heap[j]?) := by
  obtain ⟨W1, hW1⟩ : ∃ W1, W1 = W.alloc (.cells (kC k).toArray 39) := ⟨_, rfl⟩
  have hB1 : Below W.heap.size W W1 := by rw [hW1]; exact (Below.refl W.heap.size W).alloc (Nat.le_refl _) _
  have hbx : W1.heap[W.heap.size]? = some (.cells (kC k).toArray 39) := by rw [hW1]; exact blk_new W _
  have hsT := blk_on h hB1
  have hbn : b < W.heap.size := (Array.getElem?_eq_some_iff.1 h).1
  have HCK : Hid _ := hck
  have HIN : Hid _ := hin
  have HST : Hid (W1.heap[b]? = some (.cells (tbC true lim cnt T4 T6).toArray 76)) := hsT
  have HBX : Hid (W1.heap[W.heap.size]? = some (.cells (kC k).toArray 39)) := hbx
  have HB1 : Hid (Below W.heap.size W W1) := hB1
  have HBN : Hid (b < W.heap.size) := hbn
  have HL1 : Hid _ := kb_key (kb0 hbx)
  have hW := hW1.symm
  clear hsT hbx hB1 hbn hW1 h hck hin
  generalize hQ : (fun (e : Ending) (w' : World) => e = .returned (.tuple #[.bool wb, .int .i64 er]) ∧ w'.heap[b]? = some (.cells C'.toArray 76) ∧ W.heap.size ≤ w'.heap.size ∧ (∀ B, B ≤ b → B ≤ W.heap.size → Below B W w') ∧ (∀ j, j < W.heap.size → j ≠ b → w'.heap[j]? = W.heap[j]?)) = Q
  have HQ : Hid (∀ e w', e = .returned (.tuple #[.bool wb, .int .i64 er]) ∧ w'.heap[b]? = some (.cells C'.toArray 76) ∧ W.heap.size ≤ w'.heap.size ∧ (∀ B, B ≤ b → B ≤ W.heap.size → Below B W w') ∧ (∀ j, j < W.heap.size → j ≠ b → w'.heap[j]? = W.heap[j]?) → Q e w') := fun e w' hh => by rw [← hQ]; exact hh
  clear hQ
  go_enter Try.func21, Try.ntmps21
  go_wp2_with ((with_reducible show wpList _ _ _ _ _ _); refine armLv (.tmp 4) 39 rfl rfl rfl HL1.out ?_)
  refine Calls.mono (HCK.out _ HST.out) ?_
  rintro e2 w2 ⟨rfl, hb2⟩
  have HT2 : Hid (w2.heap[b]? = some (.cells (tbC true lim cnt T4 T6).toArray 76)) := blk_kept HST.out hb2
  have HX2 : Hid (w2.heap[W.heap.size]? = some (.cells (kC k).toArray 39)) := blk_kept HBX.out hb2
  have HB2 : Hid (Below W.heap.size W w2) := HB1.out.trans (hb2.mono HB1.out.size)
  clear hb2 HST HBX HB1 HCK hW HL1
  go_wp2_with fail
  refine region_midT (fun aa a' w' => a' = ((((((((((((aa.put (some 15) (.pointer (some ⟨b, 0, none⟩))).put (some 16) (.pointer (some ⟨b, 0, none⟩))).put (some 17) (.pointer (some ⟨b, 0, none⟩))).put (some 18) (.pointer (some ⟨b, 4, none⟩))).put (some 19) (.agg (kC k).toArray)).put (some 20) (.int .i64 v)).put (some 21) (LF k v)).put (some 22) (.tuple #[.bool wb, .int .i64 er])).put (some 23) (.bool wb)).put (some 24) (.int .i64 er)).put (some 6) (.bool wb)).put (some 7) (.int .i64 er)) ∧ w'.heap[b]? = some (.cells C'.toArray 76) ∧ w2.heap.size ≤ w'.heap.size ∧ (∀ B, B ≤ b → B ≤ w2.heap.size → Below B w2 w') ∧ (∀ j, j < w2.heap.size → j ≠ b → w'.heap[j]? = w2.heap[j]?)) ?_ ?_
  · skip
    refine wp_region_held (S := fun X => X.heap[W.heap.size]? = some (.cells (kC k).toArray 39)) (by kernel_rfl) ?_
    show wpAnyH _ _ _ _ _ 12 (Array.replicate 12 false) _ _
    have hS0 : w2.drew.heap[W.heap.size]? = some (.cells (kC k).toArray 39) := HX2.out
    have hT0 : w2.drew.heap[b]? = some (.cells (tbC true lim cnt T4 T6).toArray 76) := HT2.out
    have hb0 : Below w2.heap.size w2 w2.drew := (Below.refl w2.heap.size w2).drew
    refine take_one (i := 0) (d := some 15) (v := .pointer (some ⟨b, 0, none⟩)) rfl rfl rfl (by kernel_rfl) (by kernel_rfl) (by kernel_rfl) (fun _ _ _ _ _ h => h.elim) (fun X hS => by kernel_rfl) hS0 ?_
    simp only [Act.put, List.setIfInBounds_toArray, List.set_cons_zero, List.set_cons_succ]
    refine take_one (i := 1) (d := some 16) (v := .pointer (some ⟨b, 0, none⟩)) rfl rfl rfl (by kernel_rfl) (by kernel_rfl) (by kernel_rfl) (fun _ _ _ _ _ h => h.elim) (fun X hS => by kernel_rfl) hS0 ?_
    simp only [Act.put, List.setIfInBounds_toArray, List.set_cons_zero, List.set_cons_succ]
    refine take_one (i := 2) (d := some 17) (v := .pointer (some ⟨b, 0, none⟩)) rfl rfl rfl (by kernel_rfl) (by kernel_rfl) (by kernel_rfl) (fun _ _ _ _ _ h => h.elim) (fun X hS => by kernel_rfl) hS0 ?_
    simp only [Act.put, List.setIfInBounds_toArray, List.set_cons_zero, List.set_cons_succ]
    refine take_one (i := 3) (d := some 18) (v := .pointer (some ⟨b, 4, none⟩)) rfl rfl rfl (by kernel_rfl) (by kernel_rfl) (by kernel_rfl) (fun _ _ _ _ _ h => h.elim) (fun X hS => by kernel_rfl) hS0 ?_
    simp only [Act.put, List.setIfInBounds_toArray, List.set_cons_zero, List.set_cons_succ]
    refine take_one (i := 4) (d := some 19) (v := .agg (kC k).toArray) rfl rfl rfl (by kernel_rfl) (by kernel_rfl) (by kernel_rfl) (fun _ _ _ _ _ h => h.elim) (fun X hS => ex_loadA (.tmp 4) 39 rfl rfl (kb_key (kb0 hS))) hS0 ?_
    simp only [Act.put, List.setIfInBounds_toArray, List.set_cons_zero, List.set_cons_succ]
    refine take_one (i := 5) (d := some 20) (v := .int .i64 v) rfl rfl rfl (by kernel_rfl) (by kernel_rfl) (by kernel_rfl) (fun _ _ _ _ _ h => h.elim) (fun X hS => by kernel_rfl) hS0 ?_
    simp only [Act.put, List.setIfInBounds_toArray, List.set_cons_zero, List.set_cons_succ]
    refine take_one (i := 6) (d := some 21) (v := LF k v) rfl rfl rfl (by kernel_rfl) (by kernel_rfl) (by kernel_rfl) (fun _ _ _ _ _ h => h.elim) (fun X hS => ex_buildA 85 [(0, .tmp 19), (1, .tmp 20)] rfl rfl (build_lfT k v X)) hS0 ?_
    simp only [Act.put, List.setIfInBounds_toArray, List.set_cons_zero, List.set_cons_succ]
    refine all_one (i := 7) (by kernel_rfl) rfl rfl ?_
    refine wp_call (d := some 22) 53 _ rfl (by kernel_rfl) (callR (HIN.out _ hT0)) ?_
    rintro _ X1 ⟨rfl, hT1, hz1, hf1, ho1⟩
    have hS1 := (ho1 W.heap.size (Array.getElem?_eq_some_iff.1 hS0).1 (by have := HBN.out; omega)).trans hS0
    refine ⟨hS1, ?_⟩
    simp only [Act.put, List.setIfInBounds_toArray, List.set_cons_zero, List.set_cons_succ]
    refine take_one (i := 8) (d := some 23) (v := .bool wb) rfl rfl rfl (by kernel_rfl) (by kernel_rfl) (by kernel_rfl) (fun _ _ _ _ _ h => h.elim) (fun X hS => by kernel_rfl) hS1 ?_
    simp only [Act.put, List.setIfInBounds_toArray, List.set_cons_zero, List.set_cons_succ]
    refine take_one (i := 9) (d := some 24) (v := .int .i64 er) rfl rfl rfl (by kernel_rfl) (by kernel_rfl) (by kernel_rfl) (fun _ _ _ _ _ h => h.elim) (fun X hS => by kernel_rfl) hS1 ?_
    simp only [Act.put, List.setIfInBounds_toArray, List.set_cons_zero, List.set_cons_succ]
    refine take_one (i := 10) (d := some 6) (v := .bool wb) rfl rfl rfl (by kernel_rfl) (by kernel_rfl) (by kernel_rfl) (fun _ _ _ _ _ h => h.elim) (fun X hS => by kernel_rfl) hS1 ?_
    simp only [Act.put, List.setIfInBounds_toArray, List.set_cons_zero, List.set_cons_succ]
    refine take_one (i := 11) (d := some 7) (v := .int .i64 er) rfl rfl rfl (by kernel_rfl) (by kernel_rfl) (by kernel_rfl) (fun _ _ _ _ _ h => h.elim) (fun X hS => by kernel_rfl) hS1 ?_
    simp only [Act.put, List.setIfInBounds_toArray, List.set_cons_zero, List.set_cons_succ]
    refine wpAnyH_done (by kernel_rfl) ?_ _
    exact ⟨rfl, hT1, Nat.le_trans hb0.size hz1, fun B hB hB2 => (hb0.mono hB2).trans (hf1 B hB (Nat.le_trans hB2 hb0.size)), fun j hj hn => (ho1 j (Nat.lt_of_lt_of_le hj hb0.size) hn).trans (hb0.block j hj)⟩
  · rintro a' w4 ⟨rfl, hT4, hz4, hb4, ho4⟩
    simp only [Act.put, List.setIfInBounds_toArray, List.set_cons_zero, List.set_cons_succ]
    have HF : Hid (Q (.returned (.tuple #[.bool wb, .int .i64 er])) w4) := HQ.out _ _ ⟨rfl, hT4, Nat.le_trans HB2.out.size hz4, fun B hB hB2 => (HB2.out.mono hB2).trans (hb4 B hB (Nat.le_trans hB2 HB2.out.size)), fun j hj hn => (ho4 j (Nat.lt_of_lt_of_le hj HB2.out.size) hn).trans (HB2.out.block j hj)⟩
    clear hT4 hz4 hb4 ho4 HT2 HX2 HB2 HIN HQ
    go_wp2
    try go_ret2
    exact HF.out
set_option maxHeartbeats 1000000 in
set_option maxRecDepth 100000 in
theorem Put6_bad {W : World} {b : Nat} {lim cnt : Int} {T4 T6 : Tr} (h : W.heap[b]? = some (.cells (tbC true lim cnt T4 T6).toArray 76)) (c : List Value) (hc : c.length = 17) (v : Int) (hck : ∀ X : World, X.heap[b]? = some (.cells (tbC true lim cnt T4 T6).toArray 76) → Calls Try.prog 54 #[.pointer (some ⟨b, 0, none⟩), .agg c.toArray] X fun e w' => e = .returned (.int .i64 22) ∧ Below X.heap.size X w') :
    Calls Try.prog 21 #[.pointer (some ⟨b, 0, none⟩), .agg c.toArray, .int .i64 v] W fun e w' => e = .returned (.tuple #[.bool false, .int .i64 22]) ∧ Below W.heap.size W w' := by
  have HB : Hid _ := (Below.refl W.heap.size W).alloc (Nat.le_refl _) (.cells c.toArray 39)
  have HC : Hid _ := hck _ (blk_on h HB.out)
  have HL : Hid _ := agg_load (t := 39) (n := 17) (fun w => by kernel_rfl) (fun w => by kernel_rfl) hc (CellsAt.of_blk (blk_new W (.cells c.toArray 39)))
  clear h hc hck
  go_enter Try.func21, Try.ntmps21
  go_wp2_with ((with_reducible show wpList _ _ _ _ _ _); refine armLv (.tmp 4) 39 rfl rfl rfl HL.out ?_)
  refine Calls.mono HC.out ?_
  rintro e w1 ⟨rfl, hb1⟩
  have HK : Hid _ := HB.out.trans (hb1.mono HB.out.size)
  clear hb1 HC HL
  go_wp2
  try go_ret2
  exact ⟨rfl, HK.out⟩
set_option maxHeartbeats 4000000 in
set_option maxRecDepth 100000 in
theorem Get4_of {W : World} {b : Nat} {lim cnt : Int} {T4 T6 : Tr} (h : W.heap[b]? = some (.cells (tbC true lim cnt T4 T6).toArray 76)) (PC : List Value) (hPC : PC.length = 5) (k : Bs) (gv : Int) (gb : Bool) (hck : ∀ X : World, X.heap[b]? = some (.cells (tbC true lim cnt T4 T6).toArray 76) → Calls Try.prog 52 #[.pointer (some ⟨b, 0, none⟩), .agg PC.toArray] X fun e w' => e = .returned (.int .i64 0) ∧ Below X.heap.size X w') (hky : ∀ X : World, Calls Try.prog 43 #[.agg PC.toArray] X fun e w' => e = .returned (KV k) ∧ Below X.heap.size X w') (hin : ∀ X : World, Calls Try.prog 56 #[enc T4, KV k] X fun e w' => e = .returned (.tuple #[.int .i64 gv, .bool gb]) ∧ Below X.heap.size X w') :
    Calls Try.prog 26 #[.pointer (some ⟨b, 0, none⟩), .agg PC.toArray] W fun e w' => e = .returned (.tuple #[.int .i64 gv, .bool gb, .int .i64 0]) ∧ Below W.heap.size W w' := by
  obtain ⟨W1, hW1⟩ : ∃ W1, W1 = W.alloc (.cells PC.toArray 35) := ⟨_, rfl⟩
  have hB1 : Below W.heap.size W W1 := by rw [hW1]; exact (Below.refl W.heap.size W).alloc (Nat.le_refl _) _
  have hbx : W1.heap[W.heap.size]? = some (.cells PC.toArray 35) := by rw [hW1]; exact blk_new W _
  have hsT := blk_on h hB1
  have hbn : b < W.heap.size := (Array.getElem?_eq_some_iff.1 h).1
  have HCK : Hid _ := hck
  have HKY : Hid _ := hky
  have HIN : Hid _ := hin
  have HST : Hid (W1.heap[b]? = some (.cells (tbC true lim cnt T4 T6).toArray 76)) := hsT
  have HBX : Hid (W1.heap[W.heap.size]? = some (.cells PC.toArray 35)) := hbx
  have HB1 : Hid (Below W.heap.size W W1) := hB1
  have HBN : Hid (b < W.heap.size) := hbn
  have HL1 : Hid _ := agg_load (t := 35) (n := 5) (fun w => by kernel_rfl) (fun w => by kernel_rfl) hPC (CellsAt.of_blk hbx)
  have hW := hW1.symm
  clear hsT hbx hB1 hbn hW1 h hck hin hky
  generalize hQ : (fun (e : Ending) (w' : World) => e = .returned (.tuple #[.int .i64 gv, .bool gb, .int .i64 0]) ∧ Below W.heap.size W w') = Q
  have HQ : Hid (∀ e w', e = .returned (.tuple #[.int .i64 gv, .bool gb, .int .i64 0]) ∧ Below W.heap.size W w' → Q e w') := fun e w' hh => by rw [← hQ]; exact hh
  clear hQ
  go_enter Try.func26, Try.ntmps26
  go_wp2_with ((with_reducible show wpList _ _ _ _ _ _); refine armLv (.tmp 3) 35 rfl rfl rfl HL1.out ?_)
  refine Calls.mono (HCK.out _ HST.out) ?_
  rintro e2 w2 ⟨rfl, hb2⟩
  have HT2 : Hid (w2.heap[b]? = some (.cells (tbC true lim cnt T4 T6).toArray 76)) := blk_kept HST.out hb2
  have HX2 : Hid (w2.heap[W.heap.size]? = some (.cells PC.toArray 35)) := blk_kept HBX.out hb2
  have HB2 : Hid (Below W.heap.size W w2) := HB1.out.trans (hb2.mono HB1.out.size)
  clear hb2 HST HBX HB1 HCK hW HL1
  go_wp2_with fail
  refine region_midT (fun aa a' w' => a' = ((((((((((((aa.put (some 17) (.pointer (some ⟨b, 0, none⟩))).put (some 18) (.pointer (some ⟨b, 0, none⟩))).put (some 19) (.pointer (some ⟨b, 3, none⟩))).put (some 20) (enc T4)).put (some 21) (.agg PC.toArray)).put (some 22) (KV k)).put (some 23) (.tuple #[.int .i64 gv, .bool gb])).put (some 16) (.tuple #[.int .i64 gv, .bool gb])).put (some 24) (.int .i64 gv)).put (some 25) (.bool gb)).put (some 8) (.int .i64 gv)).put (some 9) (.bool gb)) ∧ Below w2.heap.size w2 w') ?_ ?_
  · skip
    refine wp_region_held (S := fun X => X.heap[b]? = some (.cells (tbC true lim cnt T4 T6).toArray 76) ∧ X.heap[W.heap.size]? = some (.cells PC.toArray 35)) (by kernel_rfl) ?_
    show wpAnyH _ _ _ _ _ 12 (Array.replicate 12 false) _ _
    have hS0 : w2.drew.heap[b]? = some (.cells (tbC true lim cnt T4 T6).toArray 76) ∧ w2.drew.heap[W.heap.size]? = some (.cells PC.toArray 35) := ⟨HT2.out, HX2.out⟩
    have hT0 : w2.drew.heap[b]? = some (.cells (tbC true lim cnt T4 T6).toArray 76) := HT2.out
    have hb0 : Below w2.heap.size w2 w2.drew := (Below.refl w2.heap.size w2).drew
    refine take_one (i := 0) (d := some 17) (v := .pointer (some ⟨b, 0, none⟩)) rfl rfl rfl (by kernel_rfl) (by kernel_rfl) (by kernel_rfl) (fun _ _ _ _ _ h => h.elim) (fun X hS => by kernel_rfl) hS0 ?_
    simp only [Act.put, List.setIfInBounds_toArray, List.set_cons_zero, List.set_cons_succ]
    refine take_one (i := 1) (d := some 18) (v := .pointer (some ⟨b, 0, none⟩)) rfl rfl rfl (by kernel_rfl) (by kernel_rfl) (by kernel_rfl) (fun _ _ _ _ _ h => h.elim) (fun X hS => by kernel_rfl) hS0 ?_
    simp only [Act.put, List.setIfInBounds_toArray, List.set_cons_zero, List.set_cons_succ]
    refine take_one (i := 2) (d := some 19) (v := .pointer (some ⟨b, 3, none⟩)) rfl rfl rfl (by kernel_rfl) (by kernel_rfl) (by kernel_rfl) (fun _ _ _ _ _ h => h.elim) (fun X hS => by kernel_rfl) hS0 ?_
    simp only [Act.put, List.setIfInBounds_toArray, List.set_cons_zero, List.set_cons_succ]
    refine take_one (i := 3) (d := some 20) (v := enc T4) rfl rfl rfl (by kernel_rfl) (by kernel_rfl) (by kernel_rfl) (fun _ _ _ _ _ h => h.elim) (fun X hS => ex_loadA (.tmp 19) 74 rfl rfl (ld_node3 hS.1)) hS0 ?_
    simp only [Act.put, List.setIfInBounds_toArray, List.set_cons_zero, List.set_cons_succ]
    refine take_one (i := 4) (d := some 21) (v := .agg PC.toArray) rfl rfl rfl (by kernel_rfl) (by kernel_rfl) (by kernel_rfl) (fun _ _ _ _ _ h => h.elim) (fun X hS => ex_loadA (.tmp 3) 35 rfl rfl (agg_load (t := 35) (n := 5) (fun w => by kernel_rfl) (fun w => by kernel_rfl) hPC (CellsAt.of_blk hS.2))) hS0 ?_
    simp only [Act.put, List.setIfInBounds_toArray, List.set_cons_zero, List.set_cons_succ]
    refine all_one (i := 5) (by kernel_rfl) rfl rfl ?_
    refine wp_call (d := some 22) 43 _ rfl (by kernel_rfl) (callR (HKY.out _)) ?_
    rintro _ X1 ⟨rfl, hc1⟩
    have hS1 := And.intro (blk_kept hS0.1 hc1) (blk_kept hS0.2 hc1)
    have hT1 := blk_kept hT0 hc1
    have hb1 := hb0.trans (hc1.mono hb0.size)
    refine ⟨hS1, ?_⟩
    simp only [Act.put, List.setIfInBounds_toArray, List.set_cons_zero, List.set_cons_succ]
    refine all_one (i := 6) (by kernel_rfl) rfl rfl ?_
    refine wp_call (d := some 23) 56 _ rfl (by kernel_rfl) (callR (HIN.out _)) ?_
    rintro _ X2 ⟨rfl, hc2⟩
    have hS2 := And.intro (blk_kept hS1.1 hc2) (blk_kept hS1.2 hc2)
    have hT2 := blk_kept hT1 hc2
    have hb2 := hb1.trans (hc2.mono hb1.size)
    refine ⟨hS2, ?_⟩
    simp only [Act.put, List.setIfInBounds_toArray, List.set_cons_zero, List.set_cons_succ]
    refine take_one (i := 7) (d := some 16) (v := .tuple #[.int .i64 gv, .bool gb]) rfl rfl rfl (by kernel_rfl) (by kernel_rfl) (by kernel_rfl) (fun _ _ _ _ _ h => h.elim) (fun X hS => by kernel_rfl) hS2 ?_
    simp only [Act.put, List.setIfInBounds_toArray, List.set_cons_zero, List.set_cons_succ]
    refine take_one (i := 8) (d := some 24) (v := .int .i64 gv) rfl rfl rfl (by kernel_rfl) (by kernel_rfl) (by kernel_rfl) (fun _ _ _ _ _ h => h.elim) (fun X hS => by kernel_rfl) hS2 ?_
    simp only [Act.put, List.setIfInBounds_toArray, List.set_cons_zero, List.set_cons_succ]
    refine take_one (i := 9) (d := some 25) (v := .bool gb) rfl rfl rfl (by kernel_rfl) (by kernel_rfl) (by kernel_rfl) (fun _ _ _ _ _ h => h.elim) (fun X hS => by kernel_rfl) hS2 ?_
    simp only [Act.put, List.setIfInBounds_toArray, List.set_cons_zero, List.set_cons_succ]
    refine take_one (i := 10) (d := some 8) (v := .int .i64 gv) rfl rfl rfl (by kernel_rfl) (by kernel_rfl) (by kernel_rfl) (fun _ _ _ _ _ h => h.elim) (fun X hS => by kernel_rfl) hS2 ?_
    simp only [Act.put, List.setIfInBounds_toArray, List.set_cons_zero, List.set_cons_succ]
    refine take_one (i := 11) (d := some 9) (v := .bool gb) rfl rfl rfl (by kernel_rfl) (by kernel_rfl) (by kernel_rfl) (fun _ _ _ _ _ h => h.elim) (fun X hS => by kernel_rfl) hS2 ?_
    simp only [Act.put, List.setIfInBounds_toArray, List.set_cons_zero, List.set_cons_succ]
    refine wpAnyH_done (by kernel_rfl) ?_ _
    exact ⟨rfl, hb2⟩
  · rintro a' w4 ⟨rfl, hb4⟩
    simp only [Act.put, List.setIfInBounds_toArray, List.set_cons_zero, List.set_cons_succ]
    have HF : Hid (Q (.returned (.tuple #[.int .i64 gv, .bool gb, .int .i64 0])) w4) := HQ.out _ _ ⟨rfl, HB2.out.trans (hb4.mono HB2.out.size)⟩
    clear hb4 HT2 HX2 HB2 HIN HQ
    go_wp2
    try go_returns
    exact HF.out
set_option maxHeartbeats 1000000 in
set_option maxRecDepth 100000 in
theorem Get4_bad {W : World} {b : Nat} {lim cnt : Int} {T4 T6 : Tr} (h : W.heap[b]? = some (.cells (tbC true lim cnt T4 T6).toArray 76)) (c : List Value) (hc : c.length = 5) (hck : ∀ X : World, X.heap[b]? = some (.cells (tbC true lim cnt T4 T6).toArray 76) → Calls Try.prog 52 #[.pointer (some ⟨b, 0, none⟩), .agg c.toArray] X fun e w' => e = .returned (.int .i64 22) ∧ Below X.heap.size X w') :
    Calls Try.prog 26 #[.pointer (some ⟨b, 0, none⟩), .agg c.toArray] W fun e w' => e = .returned (.tuple #[.int .i64 0, .bool false, .int .i64 22]) ∧ Below W.heap.size W w' := by
  have HB : Hid _ := (Below.refl W.heap.size W).alloc (Nat.le_refl _) (.cells c.toArray 35)
  have HC : Hid _ := hck _ (blk_on h HB.out)
  have HL : Hid _ := agg_load (t := 35) (n := 5) (fun w => by kernel_rfl) (fun w => by kernel_rfl) hc (CellsAt.of_blk (blk_new W (.cells c.toArray 35)))
  clear h hc hck
  go_enter Try.func26, Try.ntmps26
  go_wp2_with ((with_reducible show wpList _ _ _ _ _ _); refine armLv (.tmp 3) 35 rfl rfl rfl HL.out ?_)
  refine Calls.mono HC.out ?_
  rintro e w1 ⟨rfl, hb1⟩
  have HK : Hid _ := HB.out.trans (hb1.mono HB.out.size)
  clear hb1 HC HL
  go_wp2
  try go_returns
  exact ⟨rfl, HK.out⟩
set_option maxHeartbeats 4000000 in
set_option maxRecDepth 100000 in
theorem Get6_of {W : World} {b : Nat} {lim cnt : Int} {T4 T6 : Tr} (h : W.heap[b]? = some (.cells (tbC true lim cnt T4 T6).toArray 76)) (k : Bs) (gv : Int) (gb : Bool) (hck : ∀ X : World, X.heap[b]? = some (.cells (tbC true lim cnt T4 T6).toArray 76) → Calls Try.prog 54 #[.pointer (some ⟨b, 0, none⟩), .agg (kC k).toArray] X fun e w' => e = .returned (.int .i64 0) ∧ Below X.heap.size X w') (hin : ∀ X : World, Calls Try.prog 56 #[enc T6, KV k] X fun e w' => e = .returned (.tuple #[.int .i64 gv, .bool gb]) ∧ Below X.heap.size X w') :
    Calls Try.prog 27 #[.pointer (some ⟨b, 0, none⟩), .agg (kC k).toArray] W fun e w' => e = .returned (.tuple #[.int .i64 gv, .bool gb, .int .i64 0]) ∧ Below W.heap.size W w' := by
  obtain ⟨W1, hW1⟩ : ∃ W1, W1 = W.alloc (.cells (kC k).toArray 39) := ⟨_, rfl⟩
  have hB1 : Below W.heap.size W W1 := by rw [hW1]; exact (Below.refl W.heap.size W).alloc (Nat.le_refl _) _
  have hbx : W1.heap[W.heap.size]? = some (.cells (kC k).toArray 39) := by rw [hW1]; exact blk_new W _
  have hsT := blk_on h hB1
  have hbn : b < W.heap.size := (Array.getElem?_eq_some_iff.1 h).1
  have HCK : Hid _ := hck
  have HIN : Hid _ := hin
  have HST : Hid (W1.heap[b]? = some (.cells (tbC true lim cnt T4 T6).toArray 76)) := hsT
  have HBX : Hid (W1.heap[W.heap.size]? = some (.cells (kC k).toArray 39)) := hbx
  have HB1 : Hid (Below W.heap.size W W1) := hB1
  have HBN : Hid (b < W.heap.size) := hbn
  have HL1 : Hid _ := kb_key (kb0 hbx)
  have hW := hW1.symm
  clear hsT hbx hB1 hbn hW1 h hck hin
  generalize hQ : (fun (e : Ending) (w' : World) => e = .returned (.tuple #[.int .i64 gv, .bool gb, .int .i64 0]) ∧ Below W.heap.size W w') = Q
  have HQ : Hid (∀ e w', e = .returned (.tuple #[.int .i64 gv, .bool gb, .int .i64 0]) ∧ Below W.heap.size W w' → Q e w') := fun e w' hh => by rw [← hQ]; exact hh
  clear hQ
  go_enter Try.func27, Try.ntmps27
  go_wp2_with ((with_reducible show wpList _ _ _ _ _ _); refine armLv (.tmp 3) 39 rfl rfl rfl HL1.out ?_)
  refine Calls.mono (HCK.out _ HST.out) ?_
  rintro e2 w2 ⟨rfl, hb2⟩
  have HT2 : Hid (w2.heap[b]? = some (.cells (tbC true lim cnt T4 T6).toArray 76)) := blk_kept HST.out hb2
  have HX2 : Hid (w2.heap[W.heap.size]? = some (.cells (kC k).toArray 39)) := blk_kept HBX.out hb2
  have HB2 : Hid (Below W.heap.size W w2) := HB1.out.trans (hb2.mono HB1.out.size)
  clear hb2 HST HBX HB1 HCK hW HL1
  go_wp2_with fail
  refine region_midT (fun aa a' w' => a' = (((((((((((aa.put (some 17) (.pointer (some ⟨b, 0, none⟩))).put (some 18) (.pointer (some ⟨b, 0, none⟩))).put (some 19) (.pointer (some ⟨b, 4, none⟩))).put (some 20) (enc T6)).put (some 21) (.agg (kC k).toArray)).put (some 22) (.tuple #[.int .i64 gv, .bool gb])).put (some 16) (.tuple #[.int .i64 gv, .bool gb])).put (some 23) (.int .i64 gv)).put (some 24) (.bool gb)).put (some 8) (.int .i64 gv)).put (some 9) (.bool gb)) ∧ Below w2.heap.size w2 w') ?_ ?_
  · skip
    refine wp_region_held (S := fun X => X.heap[b]? = some (.cells (tbC true lim cnt T4 T6).toArray 76) ∧ X.heap[W.heap.size]? = some (.cells (kC k).toArray 39)) (by kernel_rfl) ?_
    show wpAnyH _ _ _ _ _ 11 (Array.replicate 11 false) _ _
    have hS0 : w2.drew.heap[b]? = some (.cells (tbC true lim cnt T4 T6).toArray 76) ∧ w2.drew.heap[W.heap.size]? = some (.cells (kC k).toArray 39) := ⟨HT2.out, HX2.out⟩
    have hT0 : w2.drew.heap[b]? = some (.cells (tbC true lim cnt T4 T6).toArray 76) := HT2.out
    have hb0 : Below w2.heap.size w2 w2.drew := (Below.refl w2.heap.size w2).drew
    refine take_one (i := 0) (d := some 17) (v := .pointer (some ⟨b, 0, none⟩)) rfl rfl rfl (by kernel_rfl) (by kernel_rfl) (by kernel_rfl) (fun _ _ _ _ _ h => h.elim) (fun X hS => by kernel_rfl) hS0 ?_
    simp only [Act.put, List.setIfInBounds_toArray, List.set_cons_zero, List.set_cons_succ]
    refine take_one (i := 1) (d := some 18) (v := .pointer (some ⟨b, 0, none⟩)) rfl rfl rfl (by kernel_rfl) (by kernel_rfl) (by kernel_rfl) (fun _ _ _ _ _ h => h.elim) (fun X hS => by kernel_rfl) hS0 ?_
    simp only [Act.put, List.setIfInBounds_toArray, List.set_cons_zero, List.set_cons_succ]
    refine take_one (i := 2) (d := some 19) (v := .pointer (some ⟨b, 4, none⟩)) rfl rfl rfl (by kernel_rfl) (by kernel_rfl) (by kernel_rfl) (fun _ _ _ _ _ h => h.elim) (fun X hS => by kernel_rfl) hS0 ?_
    simp only [Act.put, List.setIfInBounds_toArray, List.set_cons_zero, List.set_cons_succ]
    refine take_one (i := 3) (d := some 20) (v := enc T6) rfl rfl rfl (by kernel_rfl) (by kernel_rfl) (by kernel_rfl) (fun _ _ _ _ _ h => h.elim) (fun X hS => ex_loadA (.tmp 19) 74 rfl rfl (ld_node4 hS.1)) hS0 ?_
    simp only [Act.put, List.setIfInBounds_toArray, List.set_cons_zero, List.set_cons_succ]
    refine take_one (i := 4) (d := some 21) (v := .agg (kC k).toArray) rfl rfl rfl (by kernel_rfl) (by kernel_rfl) (by kernel_rfl) (fun _ _ _ _ _ h => h.elim) (fun X hS => ex_loadA (.tmp 3) 39 rfl rfl (kb_key (kb0 hS.2))) hS0 ?_
    simp only [Act.put, List.setIfInBounds_toArray, List.set_cons_zero, List.set_cons_succ]
    refine all_one (i := 5) (by kernel_rfl) rfl rfl ?_
    refine wp_call (d := some 22) 56 _ rfl (by kernel_rfl) (callR (HIN.out _)) ?_
    rintro _ X1 ⟨rfl, hc1⟩
    have hS1 := And.intro (blk_kept hS0.1 hc1) (blk_kept hS0.2 hc1)
    have hT1 := blk_kept hT0 hc1
    have hb1 := hb0.trans (hc1.mono hb0.size)
    refine ⟨hS1, ?_⟩
    simp only [Act.put, List.setIfInBounds_toArray, List.set_cons_zero, List.set_cons_succ]
    refine take_one (i := 6) (d := some 16) (v := .tuple #[.int .i64 gv, .bool gb]) rfl rfl rfl (by kernel_rfl) (by kernel_rfl) (by kernel_rfl) (fun _ _ _ _ _ h => h.elim) (fun X hS => by kernel_rfl) hS1 ?_
    simp only [Act.put, List.setIfInBounds_toArray, List.set_cons_zero, List.set_cons_succ]
    refine take_one (i := 7) (d := some 23) (v := .int .i64 gv) rfl rfl rfl (by kernel_rfl) (by kernel_rfl) (by kernel_rfl) (fun _ _ _ _ _ h => h.elim) (fun X hS => by kernel_rfl) hS1 ?_
    simp only [Act.put, List.setIfInBounds_toArray, List.set_cons_zero, List.set_cons_succ]
    refine take_one (i := 8) (d := some 24) (v := .bool gb) rfl rfl rfl (by kernel_rfl) (by kernel_rfl) (by kernel_rfl) (fun _ _ _ _ _ h => h.elim) (fun X hS => by kernel_rfl) hS1 ?_
    simp only [Act.put, List.setIfInBounds_toArray, List.set_cons_zero, List.set_cons_succ]
    refine take_one (i := 9) (d := some 8) (v := .int .i64 gv) rfl rfl rfl (by kernel_rfl) (by kernel_rfl) (by kernel_rfl) (fun _ _ _ _ _ h => h.elim) (fun X hS => by kernel_rfl) hS1 ?_
    simp only [Act.put, List.setIfInBounds_toArray, List.set_cons_zero, List.set_cons_succ]
    refine take_one (i := 10) (d := some 9) (v := .bool gb) rfl rfl rfl (by kernel_rfl) (by kernel_rfl) (by kernel_rfl) (fun _ _ _ _ _ h => h.elim) (fun X hS => by kernel_rfl) hS1 ?_
    simp only [Act.put, List.setIfInBounds_toArray, List.set_cons_zero, List.set_cons_succ]
    refine wpAnyH_done (by kernel_rfl) ?_ _
    exact ⟨rfl, hb1⟩
  · rintro a' w4 ⟨rfl, hb4⟩
    simp only [Act.put, List.setIfInBounds_toArray, List.set_cons_zero, List.set_cons_succ]
    have HF : Hid (Q (.returned (.tuple #[.int .i64 gv, .bool gb, .int .i64 0])) w4) := HQ.out _ _ ⟨rfl, HB2.out.trans (hb4.mono HB2.out.size)⟩
    clear hb4 HT2 HX2 HB2 HIN HQ
    go_wp2
    try go_returns
    exact HF.out
set_option maxHeartbeats 1000000 in
set_option maxRecDepth 100000 in
theorem Get6_bad {W : World} {b : Nat} {lim cnt : Int} {T4 T6 : Tr} (h : W.heap[b]? = some (.cells (tbC true lim cnt T4 T6).toArray 76)) (c : List Value) (hc : c.length = 17) (hck : ∀ X : World, X.heap[b]? = some (.cells (tbC true lim cnt T4 T6).toArray 76) → Calls Try.prog 54 #[.pointer (some ⟨b, 0, none⟩), .agg c.toArray] X fun e w' => e = .returned (.int .i64 22) ∧ Below X.heap.size X w') :
    Calls Try.prog 27 #[.pointer (some ⟨b, 0, none⟩), .agg c.toArray] W fun e w' => e = .returned (.tuple #[.int .i64 0, .bool false, .int .i64 22]) ∧ Below W.heap.size W w' := by
  have HB : Hid _ := (Below.refl W.heap.size W).alloc (Nat.le_refl _) (.cells c.toArray 39)
  have HC : Hid _ := hck _ (blk_on h HB.out)
  have HL : Hid _ := agg_load (t := 39) (n := 17) (fun w => by kernel_rfl) (fun w => by kernel_rfl) hc (CellsAt.of_blk (blk_new W (.cells c.toArray 39)))
  clear h hc hck
  go_enter Try.func27, Try.ntmps27
  go_wp2_with ((with_reducible show wpList _ _ _ _ _ _); refine armLv (.tmp 3) 39 rfl rfl rfl HL.out ?_)
  refine Calls.mono HC.out ?_
  rintro e w1 ⟨rfl, hb1⟩
  have HK : Hid _ := HB.out.trans (hb1.mono HB.out.size)
  clear hb1 HC HL
  go_wp2
  try go_returns
  exact ⟨rfl, HK.out⟩
set_option maxHeartbeats 4000000 in
set_option maxRecDepth 100000 in
theorem Del4_of {W : World} {b : Nat} {lim cnt : Int} {T4 T6 : Tr} (h : W.heap[b]? = some (.cells (tbC true lim cnt T4 T6).toArray 76)) (PC : List Value) (hPC : PC.length = 5) (k : Bs) (er : Int) (C' : List Value) (hck : ∀ X : World, X.heap[b]? = some (.cells (tbC true lim cnt T4 T6).toArray 76) → Calls Try.prog 52 #[.pointer (some ⟨b, 0, none⟩), .agg PC.toArray] X fun e w' => e = .returned (.int .i64 0) ∧ Below X.heap.size X w') (hky : ∀ X : World, Calls Try.prog 43 #[.agg PC.toArray] X fun e w' => e = .returned (KV k) ∧ Below X.heap.size X w') (hin : ∀ X : World, X.heap[b]? = some (.cells (tbC true lim cnt T4 T6).toArray 76) → Calls Try.prog 55 #[.pointer (some ⟨b, 0, none⟩), .pointer (some ⟨b, 3, none⟩), KV k] X fun e w' => e = .returned (.int .i64 er) ∧ w'.heap[b]? = some (.cells C'.toArray 76) ∧ X.heap.size ≤ w'.heap.size ∧ (∀ B, B ≤ b → B ≤ X.heap.size → Below B X w') ∧ (∀ j, j < X.heap.size → j ≠ b → w'.heap[j]? = X.heap[j]?)) :
    Calls Try.prog 22 #[.pointer (some ⟨b, 0, none⟩), .agg PC.toArray] W fun e w' => e = .returned (.int .i64 er) ∧ w'.heap[b]? = some (.cells C'.toArray 76) ∧ W.heap.size ≤ w'.heap.size ∧ (∀ B, B ≤ b → B ≤ W.heap.size → Below B W w') ∧ (∀ j, j < W.heap.size → j ≠ b → w'.heap[j]? = W.heap[j]?) := by
  obtain ⟨W1, hW1⟩ : ∃ W1, W1 = W.alloc (.cells PC.toArray 35) := ⟨_, rfl⟩
  have hB1 : Below W.heap.size W W1 := by rw [hW1]; exact (Below.refl W.heap.size W).alloc (Nat.le_refl _) _
  have hbx : W1.heap[W.heap.size]? = some (.cells PC.toArray 35) := by rw [hW1]; exact blk_new W _
  have hsT := blk_on h hB1
  have hbn : b < W.heap.size := (Array.getElem?_eq_some_iff.1 h).1
  have HCK : Hid _ := hck
  have HKY : Hid _ := hky
  have HIN : Hid _ := hin
  have HST : Hid (W1.heap[b]? = some (.cells (tbC true lim cnt T4 T6).toArray 76)) := hsT
  have HBX : Hid (W1.heap[W.heap.size]? = some (.cells PC.toArray 35)) := hbx
  have HB1 : Hid (Below W.heap.size W W1) := hB1
  have HBN : Hid (b < W.heap.size) := hbn
  have HL1 : Hid _ := agg_load (t := 35) (n := 5) (fun w => by kernel_rfl) (fun w => by kernel_rfl) hPC (CellsAt.of_blk hbx)
  have hW := hW1.symm
  clear hsT hbx hB1 hbn hW1 h hck hin hky
  generalize hQ : (fun (e : Ending) (w' : World) => e = .returned (.int .i64 er) ∧ w'.heap[b]? = some (.cells C'.toArray 76) ∧ W.heap.size ≤ w'.heap.size ∧ (∀ B, B ≤ b → B ≤ W.heap.size → Below B W w') ∧ (∀ j, j < W.heap.size → j ≠ b → w'.heap[j]? = W.heap[j]?)) = Q
  have HQ : Hid (∀ e w', e = .returned (.int .i64 er) ∧ w'.heap[b]? = some (.cells C'.toArray 76) ∧ W.heap.size ≤ w'.heap.size ∧ (∀ B, B ≤ b → B ≤ W.heap.size → Below B W w') ∧ (∀ j, j < W.heap.size → j ≠ b → w'.heap[j]? = W.heap[j]?) → Q e w') := fun e w' hh => by rw [← hQ]; exact hh
  clear hQ
  go_enter Try.func22, Try.ntmps22
  go_wp2_with ((with_reducible show wpList _ _ _ _ _ _); refine armLv (.tmp 3) 35 rfl rfl rfl HL1.out ?_)
  refine Calls.mono (HCK.out _ HST.out) ?_
  rintro e2 w2 ⟨rfl, hb2⟩
  have HT2 : Hid (w2.heap[b]? = some (.cells (tbC true lim cnt T4 T6).toArray 76)) := blk_kept HST.out hb2
  have HX2 : Hid (w2.heap[W.heap.size]? = some (.cells PC.toArray 35)) := blk_kept HBX.out hb2
  have HB2 : Hid (Below W.heap.size W w2) := HB1.out.trans (hb2.mono HB1.out.size)
  clear hb2 HST HBX HB1 HCK hW HL1
  go_wp2_with fail
  refine region_midT (fun aa a' w' => a' = ((((((((aa.put (some 12) (.pointer (some ⟨b, 0, none⟩))).put (some 13) (.pointer (some ⟨b, 0, none⟩))).put (some 14) (.pointer (some ⟨b, 0, none⟩))).put (some 15) (.pointer (some ⟨b, 3, none⟩))).put (some 16) (.agg PC.toArray)).put (some 17) (KV k)).put (some 18) (.int .i64 er)).put (some 4) (.int .i64 er)) ∧ w'.heap[b]? = some (.cells C'.toArray 76) ∧ w2.heap.size ≤ w'.heap.size ∧ (∀ B, B ≤ b → B ≤ w2.heap.size → Below B w2 w') ∧ (∀ j, j < w2.heap.size → j ≠ b → w'.heap[j]? = w2.heap[j]?)) ?_ ?_
  · skip
    refine wp_region_held (S := fun X => X.heap[W.heap.size]? = some (.cells PC.toArray 35)) (by kernel_rfl) ?_
    show wpAnyH _ _ _ _ _ 8 (Array.replicate 8 false) _ _
    have hS0 : w2.drew.heap[W.heap.size]? = some (.cells PC.toArray 35) := HX2.out
    have hT0 : w2.drew.heap[b]? = some (.cells (tbC true lim cnt T4 T6).toArray 76) := HT2.out
    have hb0 : Below w2.heap.size w2 w2.drew := (Below.refl w2.heap.size w2).drew
    refine take_one (i := 0) (d := some 12) (v := .pointer (some ⟨b, 0, none⟩)) rfl rfl rfl (by kernel_rfl) (by kernel_rfl) (by kernel_rfl) (fun _ _ _ _ _ h => h.elim) (fun X hS => by kernel_rfl) hS0 ?_
    simp only [Act.put, List.setIfInBounds_toArray, List.set_cons_zero, List.set_cons_succ]
    refine take_one (i := 1) (d := some 13) (v := .pointer (some ⟨b, 0, none⟩)) rfl rfl rfl (by kernel_rfl) (by kernel_rfl) (by kernel_rfl) (fun _ _ _ _ _ h => h.elim) (fun X hS => by kernel_rfl) hS0 ?_
    simp only [Act.put, List.setIfInBounds_toArray, List.set_cons_zero, List.set_cons_succ]
    refine take_one (i := 2) (d := some 14) (v := .pointer (some ⟨b, 0, none⟩)) rfl rfl rfl (by kernel_rfl) (by kernel_rfl) (by kernel_rfl) (fun _ _ _ _ _ h => h.elim) (fun X hS => by kernel_rfl) hS0 ?_
    simp only [Act.put, List.setIfInBounds_toArray, List.set_cons_zero, List.set_cons_succ]
    refine take_one (i := 3) (d := some 15) (v := .pointer (some ⟨b, 3, none⟩)) rfl rfl rfl (by kernel_rfl) (by kernel_rfl) (by kernel_rfl) (fun _ _ _ _ _ h => h.elim) (fun X hS => by kernel_rfl) hS0 ?_
    simp only [Act.put, List.setIfInBounds_toArray, List.set_cons_zero, List.set_cons_succ]
    refine take_one (i := 4) (d := some 16) (v := .agg PC.toArray) rfl rfl rfl (by kernel_rfl) (by kernel_rfl) (by kernel_rfl) (fun _ _ _ _ _ h => h.elim) (fun X hS => ex_loadA (.tmp 3) 35 rfl rfl (agg_load (t := 35) (n := 5) (fun w => by kernel_rfl) (fun w => by kernel_rfl) hPC (CellsAt.of_blk hS))) hS0 ?_
    simp only [Act.put, List.setIfInBounds_toArray, List.set_cons_zero, List.set_cons_succ]
    refine all_one (i := 5) (by kernel_rfl) rfl rfl ?_
    refine wp_call (d := some 17) 43 _ rfl (by kernel_rfl) (callR (HKY.out _)) ?_
    rintro _ X1 ⟨rfl, hc1⟩
    have hS1 := blk_kept hS0 hc1
    have hT1 := blk_kept hT0 hc1
    have hb1 := hb0.trans (hc1.mono hb0.size)
    refine ⟨hS1, ?_⟩
    simp only [Act.put, List.setIfInBounds_toArray, List.set_cons_zero, List.set_cons_succ]
    refine all_one (i := 6) (by kernel_rfl) rfl rfl ?_
    refine wp_call (d := some 18) 55 _ rfl (by kernel_rfl) (callR (HIN.out _ hT1)) ?_
    rintro _ X2 ⟨rfl, hT2, hz2, hf2, ho2⟩
    have hS2 := (ho2 W.heap.size (Array.getElem?_eq_some_iff.1 hS1).1 (by have := HBN.out; omega)).trans hS1
    refine ⟨hS2, ?_⟩
    simp only [Act.put, List.setIfInBounds_toArray, List.set_cons_zero, List.set_cons_succ]
    refine take_one (i := 7) (d := some 4) (v := .int .i64 er) rfl rfl rfl (by kernel_rfl) (by kernel_rfl) (by kernel_rfl) (fun _ _ _ _ _ h => h.elim) (fun X hS => by kernel_rfl) hS2 ?_
    simp only [Act.put, List.setIfInBounds_toArray, List.set_cons_zero, List.set_cons_succ]
    refine wpAnyH_done (by kernel_rfl) ?_ _
    exact ⟨rfl, hT2, Nat.le_trans hb1.size hz2, fun B hB hB2 => (hb1.mono hB2).trans (hf2 B hB (Nat.le_trans hB2 hb1.size)), fun j hj hn => (ho2 j (Nat.lt_of_lt_of_le hj hb1.size) hn).trans (hb1.block j hj)⟩
  · rintro a' w4 ⟨rfl, hT4, hz4, hb4, ho4⟩
    simp only [Act.put, List.setIfInBounds_toArray, List.set_cons_zero, List.set_cons_succ]
    have HF : Hid (Q (.returned (.int .i64 er)) w4) := HQ.out _ _ ⟨rfl, hT4, Nat.le_trans HB2.out.size hz4, fun B hB hB2 => (HB2.out.mono hB2).trans (hb4 B hB (Nat.le_trans hB2 HB2.out.size)), fun j hj hn => (ho4 j (Nat.lt_of_lt_of_le hj HB2.out.size) hn).trans (HB2.out.block j hj)⟩
    clear hT4 hz4 hb4 ho4 HT2 HX2 HB2 HIN HQ
    go_wp2
    try go_ret
    exact HF.out
set_option maxHeartbeats 1000000 in
set_option maxRecDepth 100000 in
theorem Del4_bad {W : World} {b : Nat} {lim cnt : Int} {T4 T6 : Tr} (h : W.heap[b]? = some (.cells (tbC true lim cnt T4 T6).toArray 76)) (c : List Value) (hc : c.length = 5) (hck : ∀ X : World, X.heap[b]? = some (.cells (tbC true lim cnt T4 T6).toArray 76) → Calls Try.prog 52 #[.pointer (some ⟨b, 0, none⟩), .agg c.toArray] X fun e w' => e = .returned (.int .i64 22) ∧ Below X.heap.size X w') :
    Calls Try.prog 22 #[.pointer (some ⟨b, 0, none⟩), .agg c.toArray] W fun e w' => e = .returned (.int .i64 22) ∧ Below W.heap.size W w' := by
  have HB : Hid _ := (Below.refl W.heap.size W).alloc (Nat.le_refl _) (.cells c.toArray 35)
  have HC : Hid _ := hck _ (blk_on h HB.out)
  have HL : Hid _ := agg_load (t := 35) (n := 5) (fun w => by kernel_rfl) (fun w => by kernel_rfl) hc (CellsAt.of_blk (blk_new W (.cells c.toArray 35)))
  clear h hc hck
  go_enter Try.func22, Try.ntmps22
  go_wp2_with ((with_reducible show wpList _ _ _ _ _ _); refine armLv (.tmp 3) 35 rfl rfl rfl HL.out ?_)
  refine Calls.mono HC.out ?_
  rintro e w1 ⟨rfl, hb1⟩
  have HK : Hid _ := HB.out.trans (hb1.mono HB.out.size)
  clear hb1 HC HL
  go_wp2
  try go_ret
  exact ⟨rfl, HK.out⟩
set_option maxHeartbeats 4000000 in
set_option maxRecDepth 100000 in
theorem Del6_of {W : World} {b : Nat} {lim cnt : Int} {T4 T6 : Tr} (h : W.heap[b]? = some (.cells (tbC true lim cnt T4 T6).toArray 76)) (k : Bs) (er : Int) (C' : List Value) (hck : ∀ X : World, X.heap[b]? = some (.cells (tbC true lim cnt T4 T6).toArray 76) → Calls Try.prog 54 #[.pointer (some ⟨b, 0, none⟩), .agg (kC k).toArray] X fun e w' => e = .returned (.int .i64 0) ∧ Below X.heap.size X w') (hin : ∀ X : World, X.heap[b]? = some (.cells (tbC true lim cnt T4 T6).toArray 76) → Calls Try.prog 55 #[.pointer (some ⟨b, 0, none⟩), .pointer (some ⟨b, 4, none⟩), KV k] X fun e w' => e = .returned (.int .i64 er) ∧ w'.heap[b]? = some (.cells C'.toArray 76) ∧ X.heap.size ≤ w'.heap.size ∧ (∀ B, B ≤ b → B ≤ X.heap.size → Below B X w') ∧ (∀ j, j < X.heap.size → j ≠ b → w'.heap[j]? = X.heap[j]?)) :
    Calls Try.prog 24 #[.pointer (some ⟨b, 0, none⟩), .agg (kC k).toArray] W fun e w' => e = .returned (.int .i64 er) ∧ w'.heap[b]? = some (.cells C'.toArray 76) ∧ W.heap.size ≤ w'.heap.size ∧ (∀ B, B ≤ b → B ≤ W.heap.size → Below B W w') ∧ (∀ j, j < W.heap.size → j ≠ b → w'.heap[j]? = W.heap[j]?) := by
  obtain ⟨W1, hW1⟩ : ∃ W1, W1 = W.alloc (.cells (kC k).toArray 39) := ⟨_, rfl⟩
  have hB1 : Below W.heap.size W W1 := by rw [hW1]; exact (Below.refl W.heap.size W).alloc (Nat.le_refl _) _
  have hbx : W1.heap[W.heap.size]? = some (.cells (kC k).toArray 39) := by rw [hW1]; exact blk_new W _
  have hsT := blk_on h hB1
  have hbn : b < W.heap.size := (Array.getElem?_eq_some_iff.1 h).1
  have HCK : Hid _ := hck
  have HIN : Hid _ := hin
  have HST : Hid (W1.heap[b]? = some (.cells (tbC true lim cnt T4 T6).toArray 76)) := hsT
  have HBX : Hid (W1.heap[W.heap.size]? = some (.cells (kC k).toArray 39)) := hbx
  have HB1 : Hid (Below W.heap.size W W1) := hB1
  have HBN : Hid (b < W.heap.size) := hbn
  have HL1 : Hid _ := kb_key (kb0 hbx)
  have hW := hW1.symm
  clear hsT hbx hB1 hbn hW1 h hck hin
  generalize hQ : (fun (e : Ending) (w' : World) => e = .returned (.int .i64 er) ∧ w'.heap[b]? = some (.cells C'.toArray 76) ∧ W.heap.size ≤ w'.heap.size ∧ (∀ B, B ≤ b → B ≤ W.heap.size → Below B W w') ∧ (∀ j, j < W.heap.size → j ≠ b → w'.heap[j]? = W.heap[j]?)) = Q
  have HQ : Hid (∀ e w', e = .returned (.int .i64 er) ∧ w'.heap[b]? = some (.cells C'.toArray 76) ∧ W.heap.size ≤ w'.heap.size ∧ (∀ B, B ≤ b → B ≤ W.heap.size → Below B W w') ∧ (∀ j, j < W.heap.size → j ≠ b → w'.heap[j]? = W.heap[j]?) → Q e w') := fun e w' hh => by rw [← hQ]; exact hh
  clear hQ
  go_enter Try.func24, Try.ntmps24
  go_wp2_with ((with_reducible show wpList _ _ _ _ _ _); refine armLv (.tmp 3) 39 rfl rfl rfl HL1.out ?_)
  refine Calls.mono (HCK.out _ HST.out) ?_
  rintro e2 w2 ⟨rfl, hb2⟩
  have HT2 : Hid (w2.heap[b]? = some (.cells (tbC true lim cnt T4 T6).toArray 76)) := blk_kept HST.out hb2
  have HX2 : Hid (w2.heap[W.heap.size]? = some (.cells (kC k).toArray 39)) := blk_kept HBX.out hb2
  have HB2 : Hid (Below W.heap.size W w2) := HB1.out.trans (hb2.mono HB1.out.size)
  clear hb2 HST HBX HB1 HCK hW HL1
  go_wp2_with fail
  refine region_midT (fun aa a' w' => a' = (((((((aa.put (some 12) (.pointer (some ⟨b, 0, none⟩))).put (some 13) (.pointer (some ⟨b, 0, none⟩))).put (some 14) (.pointer (some ⟨b, 0, none⟩))).put (some 15) (.pointer (some ⟨b, 4, none⟩))).put (some 16) (.agg (kC k).toArray)).put (some 17) (.int .i64 er)).put (some 4) (.int .i64 er)) ∧ w'.heap[b]? = some (.cells C'.toArray 76) ∧ w2.heap.size ≤ w'.heap.size ∧ (∀ B, B ≤ b → B ≤ w2.heap.size → Below B w2 w') ∧ (∀ j, j < w2.heap.size → j ≠ b → w'.heap[j]? = w2.heap[j]?)) ?_ ?_
  · skip
    refine wp_region_held (S := fun X => X.heap[W.heap.size]? = some (.cells (kC k).toArray 39)) (by kernel_rfl) ?_
    show wpAnyH _ _ _ _ _ 7 (Array.replicate 7 false) _ _
    have hS0 : w2.drew.heap[W.heap.size]? = some (.cells (kC k).toArray 39) := HX2.out
    have hT0 : w2.drew.heap[b]? = some (.cells (tbC true lim cnt T4 T6).toArray 76) := HT2.out
    have hb0 : Below w2.heap.size w2 w2.drew := (Below.refl w2.heap.size w2).drew
    refine take_one (i := 0) (d := some 12) (v := .pointer (some ⟨b, 0, none⟩)) rfl rfl rfl (by kernel_rfl) (by kernel_rfl) (by kernel_rfl) (fun _ _ _ _ _ h => h.elim) (fun X hS => by kernel_rfl) hS0 ?_
    simp only [Act.put, List.setIfInBounds_toArray, List.set_cons_zero, List.set_cons_succ]
    refine take_one (i := 1) (d := some 13) (v := .pointer (some ⟨b, 0, none⟩)) rfl rfl rfl (by kernel_rfl) (by kernel_rfl) (by kernel_rfl) (fun _ _ _ _ _ h => h.elim) (fun X hS => by kernel_rfl) hS0 ?_
    simp only [Act.put, List.setIfInBounds_toArray, List.set_cons_zero, List.set_cons_succ]
    refine take_one (i := 2) (d := some 14) (v := .pointer (some ⟨b, 0, none⟩)) rfl rfl rfl (by kernel_rfl) (by kernel_rfl) (by kernel_rfl) (fun _ _ _ _ _ h => h.elim) (fun X hS => by kernel_rfl) hS0 ?_
    simp only [Act.put, List.setIfInBounds_toArray, List.set_cons_zero, List.set_cons_succ]
    refine take_one (i := 3) (d := some 15) (v := .pointer (some ⟨b, 4, none⟩)) rfl rfl rfl (by kernel_rfl) (by kernel_rfl) (by kernel_rfl) (fun _ _ _ _ _ h => h.elim) (fun X hS => by kernel_rfl) hS0 ?_
    simp only [Act.put, List.setIfInBounds_toArray, List.set_cons_zero, List.set_cons_succ]
    refine take_one (i := 4) (d := some 16) (v := .agg (kC k).toArray) rfl rfl rfl (by kernel_rfl) (by kernel_rfl) (by kernel_rfl) (fun _ _ _ _ _ h => h.elim) (fun X hS => ex_loadA (.tmp 3) 39 rfl rfl (kb_key (kb0 hS))) hS0 ?_
    simp only [Act.put, List.setIfInBounds_toArray, List.set_cons_zero, List.set_cons_succ]
    refine all_one (i := 5) (by kernel_rfl) rfl rfl ?_
    refine wp_call (d := some 17) 55 _ rfl (by kernel_rfl) (callR (HIN.out _ hT0)) ?_
    rintro _ X1 ⟨rfl, hT1, hz1, hf1, ho1⟩
    have hS1 := (ho1 W.heap.size (Array.getElem?_eq_some_iff.1 hS0).1 (by have := HBN.out; omega)).trans hS0
    refine ⟨hS1, ?_⟩
    simp only [Act.put, List.setIfInBounds_toArray, List.set_cons_zero, List.set_cons_succ]
    refine take_one (i := 6) (d := some 4) (v := .int .i64 er) rfl rfl rfl (by kernel_rfl) (by kernel_rfl) (by kernel_rfl) (fun _ _ _ _ _ h => h.elim) (fun X hS => by kernel_rfl) hS1 ?_
    simp only [Act.put, List.setIfInBounds_toArray, List.set_cons_zero, List.set_cons_succ]
    refine wpAnyH_done (by kernel_rfl) ?_ _
    exact ⟨rfl, hT1, Nat.le_trans hb0.size hz1, fun B hB hB2 => (hb0.mono hB2).trans (hf1 B hB (Nat.le_trans hB2 hb0.size)), fun j hj hn => (ho1 j (Nat.lt_of_lt_of_le hj hb0.size) hn).trans (hb0.block j hj)⟩
  · rintro a' w4 ⟨rfl, hT4, hz4, hb4, ho4⟩
    simp only [Act.put, List.setIfInBounds_toArray, List.set_cons_zero, List.set_cons_succ]
    have HF : Hid (Q (.returned (.int .i64 er)) w4) := HQ.out _ _ ⟨rfl, hT4, Nat.le_trans HB2.out.size hz4, fun B hB hB2 => (HB2.out.mono hB2).trans (hb4 B hB (Nat.le_trans hB2 HB2.out.size)), fun j hj hn => (ho4 j (Nat.lt_of_lt_of_le hj HB2.out.size) hn).trans (HB2.out.block j hj)⟩
    clear hT4 hz4 hb4 ho4 HT2 HX2 HB2 HIN HQ
    go_wp2
    try go_ret
    exact HF.out
set_option maxHeartbeats 1000000 in
set_option maxRecDepth 100000 in
theorem Del6_bad {W : World} {b : Nat} {lim cnt : Int} {T4 T6 : Tr} (h : W.heap[b]? = some (.cells (tbC true lim cnt T4 T6).toArray 76)) (c : List Value) (hc : c.length = 17) (hck : ∀ X : World, X.heap[b]? = some (.cells (tbC true lim cnt T4 T6).toArray 76) → Calls Try.prog 54 #[.pointer (some ⟨b, 0, none⟩), .agg c.toArray] X fun e w' => e = .returned (.int .i64 22) ∧ Below X.heap.size X w') :
    Calls Try.prog 24 #[.pointer (some ⟨b, 0, none⟩), .agg c.toArray] W fun e w' => e = .returned (.int .i64 22) ∧ Below W.heap.size W w' := by
  have HB : Hid _ := (Below.refl W.heap.size W).alloc (Nat.le_refl _) (.cells c.toArray 39)
  have HC : Hid _ := hck _ (blk_on h HB.out)
  have HL : Hid _ := agg_load (t := 39) (n := 17) (fun w => by kernel_rfl) (fun w => by kernel_rfl) hc (CellsAt.of_blk (blk_new W (.cells c.toArray 39)))
  clear h hc hck
  go_enter Try.func24, Try.ntmps24
  go_wp2_with ((with_reducible show wpList _ _ _ _ _ _); refine armLv (.tmp 3) 39 rfl rfl rfl HL.out ?_)
  refine Calls.mono HC.out ?_
  rintro e w1 ⟨rfl, hb1⟩
  have HK : Hid _ := HB.out.trans (hb1.mono HB.out.size)
  clear hb1 HC HL
  go_wp2
  try go_ret
  exact ⟨rfl, HK.out⟩
end Go.Proofs.Ytenahbdopgmpfaa

namespace Go.Proofs.Ytenahbdopgmpfaa
open Go Go.RowKit Go.Shelf
set_option linter.unusedVariables false
set_option linter.unusedSimpArgs false

theorem bitsK_bytN {m : Nat} {k : Bs} (h : k.length ≤ 8 * m) : bitsK (bytN m k) k.length = k :=
  bt_inj (bitsK_length _ _) (fun p hp => by
    rw [bitsK_length] at hp
    rw [bt_bitsK, if_pos hp, bitN_bytN _ _ _ (by omega)])
def keyN (l : List Int) (n : Int) : Bs := bitsK l n.toNat
theorem key4_num {a0 a1 a2 a3 n : Int} (hf : FitB [a0, a1, a2, a3]) (h : okP4 a0 a1 a2 a3 n = true) : (.agg (cp6 ([a0, a1, a2, a3] ++ List.replicate 12 0) n).toArray : Value) = KV (keyN [a0, a1, a2, a3] n) ∧ (keyN [a0, a1, a2, a3] n).length ≤ 32 := by
  obtain ⟨k, hk, e, hn⟩ := ok4_key hf h
  have ek : keyN [a0, a1, a2, a3] n = k := by
    unfold keyN
    rw [e, hn, Int.toNat_natCast]
    exact bitsK_bytN (by omega)
  rw [ek, e, ← byt_16 hk, hn]
  exact ⟨rfl, hk⟩
theorem key6_num {l : List Int} {n : Int} (hf : FitB l) (hl : l.length = 16) (h : okP6 l n = true) : P6 l n = KV (keyN l n) ∧ (keyN l n).length ≤ 128 := by
  obtain ⟨k, hk, e, hn⟩ := ok6_key hf hl h
  have ek : keyN l n = k := by
    unfold keyN
    rw [e, hn, Int.toNat_natCast]
    exact bitsK_bytN (by omega)
  rw [ek, e, hn]
  exact ⟨rfl, hk⟩
abbrev gotN (T : Tr) (k : Bs) : Int × Bool := getN (T.walk (fun q => pre q k)) k
def outP (T : Tr) (ok : Bool) (k : Bs) (lim cnt v : Int) : Bool × Int × Int × Tr := if ok = false then (false, 22, cnt, T) else if (gotN T k).2 then (true, 0, cnt, T.put k v) else if cnt = lim then (false, 3, cnt, T) else (false, 0, cnt + 1, T.put k v)
def outG (T : Tr) (ok : Bool) (k : Bs) : Int × Bool × Int := if ok = false then (0, false, 22) else ((gotN T k).1, (gotN T k).2, 0)
def outD (T : Tr) (ok : Bool) (k : Bs) (cnt : Int) : Int × Int × Tr := if ok = false then (22, cnt, T) else if (gotN T k).2 then (0, cnt - 1, T.del k) else (120, cnt, T)
def FrT (b : Nat) (W w' : World) : Prop := W.heap.size ≤ w'.heap.size ∧ (∀ B, B ≤ b → B ≤ W.heap.size → Below B W w') ∧ (∀ j, j < W.heap.size → j ≠ b → w'.heap[j]? = W.heap[j]?)
theorem FrT.of_below {b : Nat} {W w' : World} (h : Below W.heap.size W w') : FrT b W w' := ⟨h.size, fun B _ hB => h.mono hB, fun j hj _ => h.block j hj⟩
theorem Put4_any {W : World} {b : Nat} {lim cnt : Int} {T4 T6 : Tr} (h : W.heap[b]? = some (.cells (tbC true lim cnt T4 T6).toArray 76)) (hok : T4.Ok) (a0 a1 a2 a3 n : Int) (h0 : 0 ≤ a0 ∧ a0 < 256) (h1 : 0 ≤ a1 ∧ a1 < 256) (h2 : 0 ≤ a2 ∧ a2 < 256) (h3 : 0 ≤ a3 ∧ a3 < 256) (hb : -9223372036854775808 ≤ n ∧ n ≤ 9223372036854775807) (v : Int) (hc : 0 ≤ cnt ∧ cnt ≤ lim ∧ lim ≤ 65536) :
    Calls Try.prog 20 #[.pointer (some ⟨b, 0, none⟩), P4 a0 a1 a2 a3 n, .int .i64 v] W fun e w' => e = .returned (.tuple #[.bool (outP T4 (okP4 a0 a1 a2 a3 n) (keyN [a0, a1, a2, a3] n) lim cnt v).1, .int .i64 (outP T4 (okP4 a0 a1 a2 a3 n) (keyN [a0, a1, a2, a3] n) lim cnt v).2.1]) ∧ w'.heap[b]? = some (.cells (tbC true lim (outP T4 (okP4 a0 a1 a2 a3 n) (keyN [a0, a1, a2, a3] n) lim cnt v).2.2.1 (outP T4 (okP4 a0 a1 a2 a3 n) (keyN [a0, a1, a2, a3] n) lim cnt v).2.2.2 T6).toArray 76) ∧ FrT b W w' := by
  have hf : FitB [a0, a1, a2, a3] := fun z hz => by
    simp at hz
    rcases hz with rfl | rfl | rfl | rfl <;> assumption
  cases hp : okP4 a0 a1 a2 a3 n with
  | false =>
    rw [show outP T4 false (keyN [a0, a1, a2, a3] n) lim cnt v = (false, 22, cnt, T4) from rfl]
    refine (Put4_bad h _ (by rfl) v (fun X hX => by
      have := check4_made hX a0 a1 a2 a3 n h0 h1 h2 h3 hb
      rw [hp] at this
      exact this)).mono ?_
    rintro e w' ⟨rfl, hb1⟩
    exact ⟨rfl, blk_kept h hb1, FrT.of_below hb1⟩
  | true =>
    obtain ⟨hkey, hkl⟩ := key4_num hf hp
    have hck : ∀ X : World, X.heap[b]? = some (.cells (tbC true lim cnt T4 T6).toArray 76) → Calls Try.prog 52 #[.pointer (some ⟨b, 0, none⟩), P4 a0 a1 a2 a3 n] X fun e w' => e = .returned (.int .i64 0) ∧ Below X.heap.size X w' := fun X hX => by
      have := check4_made hX a0 a1 a2 a3 n h0 h1 h2 h3 hb
      rw [hp] at this
      exact this
    have hky : ∀ X : World, Calls Try.prog 43 #[P4 a0 a1 a2 a3 n] X fun e w' => e = .returned (KV (keyN [a0, a1, a2, a3] n)) ∧ Below X.heap.size X w' := fun X => by
      have := key4_any [a0, a1, a2, a3] rfl n X
      rw [hkey] at this
      exact this
    generalize (keyN [a0, a1, a2, a3] n) = k at *
    cases hg : (gotN T4 k).2 with
    | true =>
      rw [show outP T4 true k lim cnt v = (true, 0, cnt, T4.put k v) from by unfold outP; rw [if_neg (by decide)]; rw [if_pos hg]]
      refine (Put4_of h _ rfl k v true 0 (tbC true lim cnt (T4.put k v) T6) hck hky (fun X hX => put4_was hX hok k (by omega) v hg)).mono ?_
      rintro e w' ⟨rfl, g1, g2⟩
      exact ⟨rfl, g1, g2⟩
    | false =>
      by_cases hl2 : cnt = lim
      · skip
        rw [show outP T4 true k lim cnt v = (false, 3, cnt, T4) from by unfold outP; rw [if_neg (by decide)]; rw [if_neg (by rw [hg]; decide), if_pos hl2]]
        refine (Put4_of h _ rfl k v false 3 (tbC true lim cnt T4 T6) hck hky (fun X hX => put4_many hX hok k (by omega) v hg hl2)).mono ?_
        rintro e w' ⟨rfl, g1, g2⟩
        exact ⟨rfl, g1, g2⟩
      · skip
        rw [show outP T4 true k lim cnt v = (false, 0, cnt + 1, T4.put k v) from by unfold outP; rw [if_neg (by decide)]; rw [if_neg (by rw [hg]; decide), if_neg hl2]]
        refine (Put4_of h _ rfl k v false 0 (tbC true lim (cnt + 1) (T4.put k v) T6) hck hky (fun X hX => put4_new hX hok k (by omega) v hg (by omega) (by omega))).mono ?_
        rintro e w' ⟨rfl, g1, g2⟩
        exact ⟨rfl, g1, g2⟩
theorem Put6_any {W : World} {b : Nat} {lim cnt : Int} {T4 T6 : Tr} (h : W.heap[b]? = some (.cells (tbC true lim cnt T4 T6).toArray 76)) (hok : T6.Ok) (l : List Int) (n : Int) (hf : FitB l) (hl : l.length = 16) (hb : -9223372036854775808 ≤ n ∧ n ≤ 9223372036854775807) (v : Int) (hc : 0 ≤ cnt ∧ cnt ≤ lim ∧ lim ≤ 65536) :
    Calls Try.prog 21 #[.pointer (some ⟨b, 0, none⟩), P6 l n, .int .i64 v] W fun e w' => e = .returned (.tuple #[.bool (outP T6 (okP6 l n) (keyN l n) lim cnt v).1, .int .i64 (outP T6 (okP6 l n) (keyN l n) lim cnt v).2.1]) ∧ w'.heap[b]? = some (.cells (tbC true lim (outP T6 (okP6 l n) (keyN l n) lim cnt v).2.2.1 T4 (outP T6 (okP6 l n) (keyN l n) lim cnt v).2.2.2).toArray 76) ∧ FrT b W w' := by
  cases hp : okP6 l n with
  | false =>
    rw [show outP T6 false (keyN l n) lim cnt v = (false, 22, cnt, T6) from rfl]
    refine (Put6_bad h _ (by simp [cp6, u8s, hl]) v (fun X hX => by
      have := check6_made hX l n hf hl hb
      rw [hp] at this
      exact this)).mono ?_
    rintro e w' ⟨rfl, hb1⟩
    exact ⟨rfl, blk_kept h hb1, FrT.of_below hb1⟩
  | true =>
    obtain ⟨hkey, hkl⟩ := key6_num hf hl hp
    have hck : ∀ X : World, X.heap[b]? = some (.cells (tbC true lim cnt T4 T6).toArray 76) → Calls Try.prog 54 #[.pointer (some ⟨b, 0, none⟩), P6 l n] X fun e w' => e = .returned (.int .i64 0) ∧ Below X.heap.size X w' := fun X hX => by
      have := check6_made hX l n hf hl hb
      rw [hp] at this
      exact this
    rw [hkey] at hck ⊢
    generalize (keyN l n) = k at *
    cases hg : (gotN T6 k).2 with
    | true =>
      rw [show outP T6 true k lim cnt v = (true, 0, cnt, T6.put k v) from by unfold outP; rw [if_neg (by decide)]; rw [if_pos hg]]
      refine (Put6_of h k v true 0 (tbC true lim cnt T4 (T6.put k v)) hck (fun X hX => put6_was hX hok k hkl v hg)).mono ?_
      rintro e w' ⟨rfl, g1, g2⟩
      exact ⟨rfl, g1, g2⟩
    | false =>
      by_cases hl2 : cnt = lim
      · skip
        rw [show outP T6 true k lim cnt v = (false, 3, cnt, T6) from by unfold outP; rw [if_neg (by decide)]; rw [if_neg (by rw [hg]; decide), if_pos hl2]]
        refine (Put6_of h k v false 3 (tbC true lim cnt T4 T6) hck (fun X hX => put6_many hX hok k hkl v hg hl2)).mono ?_
        rintro e w' ⟨rfl, g1, g2⟩
        exact ⟨rfl, g1, g2⟩
      · skip
        rw [show outP T6 true k lim cnt v = (false, 0, cnt + 1, T6.put k v) from by unfold outP; rw [if_neg (by decide)]; rw [if_neg (by rw [hg]; decide), if_neg hl2]]
        refine (Put6_of h k v false 0 (tbC true lim (cnt + 1) T4 (T6.put k v)) hck (fun X hX => put6_new hX hok k hkl v hg (by omega) (by omega))).mono ?_
        rintro e w' ⟨rfl, g1, g2⟩
        exact ⟨rfl, g1, g2⟩
theorem Get4_any {W : World} {b : Nat} {lim cnt : Int} {T4 T6 : Tr} (h : W.heap[b]? = some (.cells (tbC true lim cnt T4 T6).toArray 76)) (hok : T4.Ok) (a0 a1 a2 a3 n : Int) (h0 : 0 ≤ a0 ∧ a0 < 256) (h1 : 0 ≤ a1 ∧ a1 < 256) (h2 : 0 ≤ a2 ∧ a2 < 256) (h3 : 0 ≤ a3 ∧ a3 < 256) (hb : -9223372036854775808 ≤ n ∧ n ≤ 9223372036854775807)  :
    Calls Try.prog 26 #[.pointer (some ⟨b, 0, none⟩), P4 a0 a1 a2 a3 n] W fun e w' => e = .returned (.tuple #[.int .i64 (outG T4 (okP4 a0 a1 a2 a3 n) (keyN [a0, a1, a2, a3] n)).1, .bool (outG T4 (okP4 a0 a1 a2 a3 n) (keyN [a0, a1, a2, a3] n)).2.1, .int .i64 (outG T4 (okP4 a0 a1 a2 a3 n) (keyN [a0, a1, a2, a3] n)).2.2]) ∧ w'.heap[b]? = some (.cells (tbC true lim cnt T4 T6).toArray 76) ∧ FrT b W w' := by
  have hf : FitB [a0, a1, a2, a3] := fun z hz => by
    simp at hz
    rcases hz with rfl | rfl | rfl | rfl <;> assumption
  cases hp : okP4 a0 a1 a2 a3 n with
  | false =>
    rw [show outG T4 false (keyN [a0, a1, a2, a3] n) = (0, false, 22) from rfl]
    refine (Get4_bad h _ (by rfl) (fun X hX => by
      have := check4_made hX a0 a1 a2 a3 n h0 h1 h2 h3 hb
      rw [hp] at this
      exact this)).mono ?_
    rintro e w' ⟨rfl, hb1⟩
    exact ⟨rfl, blk_kept h hb1, FrT.of_below hb1⟩
  | true =>
    obtain ⟨hkey, hkl⟩ := key4_num hf hp
    have hck : ∀ X : World, X.heap[b]? = some (.cells (tbC true lim cnt T4 T6).toArray 76) → Calls Try.prog 52 #[.pointer (some ⟨b, 0, none⟩), P4 a0 a1 a2 a3 n] X fun e w' => e = .returned (.int .i64 0) ∧ Below X.heap.size X w' := fun X hX => by
      have := check4_made hX a0 a1 a2 a3 n h0 h1 h2 h3 hb
      rw [hp] at this
      exact this
    have hky : ∀ X : World, Calls Try.prog 43 #[P4 a0 a1 a2 a3 n] X fun e w' => e = .returned (KV (keyN [a0, a1, a2, a3] n)) ∧ Below X.heap.size X w' := fun X => by
      have := key4_any [a0, a1, a2, a3] rfl n X
      rw [hkey] at this
      exact this
    generalize (keyN [a0, a1, a2, a3] n) = k at *
    rw [show outG T4 true k = ((gotN T4 k).1, (gotN T4 k).2, 0) from by unfold outG; rw [if_neg (by decide)]]
    refine (Get4_of h _ rfl k (gotN T4 k).1 (gotN T4 k).2 hck hky (fun X => get_any T4 hok k (by omega) X)).mono ?_
    rintro e w' ⟨rfl, g1⟩
    exact ⟨rfl, blk_kept h g1, FrT.of_below g1⟩
theorem Get6_any {W : World} {b : Nat} {lim cnt : Int} {T4 T6 : Tr} (h : W.heap[b]? = some (.cells (tbC true lim cnt T4 T6).toArray 76)) (hok : T6.Ok) (l : List Int) (n : Int) (hf : FitB l) (hl : l.length = 16) (hb : -9223372036854775808 ≤ n ∧ n ≤ 9223372036854775807)  :
    Calls Try.prog 27 #[.pointer (some ⟨b, 0, none⟩), P6 l n] W fun e w' => e = .returned (.tuple #[.int .i64 (outG T6 (okP6 l n) (keyN l n)).1, .bool (outG T6 (okP6 l n) (keyN l n)).2.1, .int .i64 (outG T6 (okP6 l n) (keyN l n)).2.2]) ∧ w'.heap[b]? = some (.cells (tbC true lim cnt T4 T6).toArray 76) ∧ FrT b W w' := by
  cases hp : okP6 l n with
  | false =>
    rw [show outG T6 false (keyN l n) = (0, false, 22) from rfl]
    refine (Get6_bad h _ (by simp [cp6, u8s, hl]) (fun X hX => by
      have := check6_made hX l n hf hl hb
      rw [hp] at this
      exact this)).mono ?_
    rintro e w' ⟨rfl, hb1⟩
    exact ⟨rfl, blk_kept h hb1, FrT.of_below hb1⟩
  | true =>
    obtain ⟨hkey, hkl⟩ := key6_num hf hl hp
    have hck : ∀ X : World, X.heap[b]? = some (.cells (tbC true lim cnt T4 T6).toArray 76) → Calls Try.prog 54 #[.pointer (some ⟨b, 0, none⟩), P6 l n] X fun e w' => e = .returned (.int .i64 0) ∧ Below X.heap.size X w' := fun X hX => by
      have := check6_made hX l n hf hl hb
      rw [hp] at this
      exact this
    rw [hkey] at hck ⊢
    generalize (keyN l n) = k at *
    rw [show outG T6 true k = ((gotN T6 k).1, (gotN T6 k).2, 0) from by unfold outG; rw [if_neg (by decide)]]
    refine (Get6_of h k (gotN T6 k).1 (gotN T6 k).2 hck (fun X => get_any T6 hok k hkl X)).mono ?_
    rintro e w' ⟨rfl, g1⟩
    exact ⟨rfl, blk_kept h g1, FrT.of_below g1⟩
theorem Del4_any {W : World} {b : Nat} {lim cnt : Int} {T4 T6 : Tr} (h : W.heap[b]? = some (.cells (tbC true lim cnt T4 T6).toArray 76)) (hok : T4.Ok) (a0 a1 a2 a3 n : Int) (h0 : 0 ≤ a0 ∧ a0 < 256) (h1 : 0 ≤ a1 ∧ a1 < 256) (h2 : 0 ≤ a2 ∧ a2 < 256) (h3 : 0 ≤ a3 ∧ a3 < 256) (hb : -9223372036854775808 ≤ n ∧ n ≤ 9223372036854775807) (hwf : T4.wf) (hc : cnt ≤ 65536) (hpos : (gotN T4 (keyN [a0, a1, a2, a3] n)).2 = true → 0 < cnt) :
    Calls Try.prog 22 #[.pointer (some ⟨b, 0, none⟩), P4 a0 a1 a2 a3 n] W fun e w' => e = .returned (.int .i64 (outD T4 (okP4 a0 a1 a2 a3 n) (keyN [a0, a1, a2, a3] n) cnt).1) ∧ w'.heap[b]? = some (.cells (tbC true lim (outD T4 (okP4 a0 a1 a2 a3 n) (keyN [a0, a1, a2, a3] n) cnt).2.1 (outD T4 (okP4 a0 a1 a2 a3 n) (keyN [a0, a1, a2, a3] n) cnt).2.2 T6).toArray 76) ∧ FrT b W w' := by
  have hf : FitB [a0, a1, a2, a3] := fun z hz => by
    simp at hz
    rcases hz with rfl | rfl | rfl | rfl <;> assumption
  cases hp : okP4 a0 a1 a2 a3 n with
  | false =>
    rw [show outD T4 false (keyN [a0, a1, a2, a3] n) cnt = (22, cnt, T4) from rfl]
    refine (Del4_bad h _ (by rfl) (fun X hX => by
      have := check4_made hX a0 a1 a2 a3 n h0 h1 h2 h3 hb
      rw [hp] at this
      exact this)).mono ?_
    rintro e w' ⟨rfl, hb1⟩
    exact ⟨rfl, blk_kept h hb1, FrT.of_below hb1⟩
  | true =>
    obtain ⟨hkey, hkl⟩ := key4_num hf hp
    have hck : ∀ X : World, X.heap[b]? = some (.cells (tbC true lim cnt T4 T6).toArray 76) → Calls Try.prog 52 #[.pointer (some ⟨b, 0, none⟩), P4 a0 a1 a2 a3 n] X fun e w' => e = .returned (.int .i64 0) ∧ Below X.heap.size X w' := fun X hX => by
      have := check4_made hX a0 a1 a2 a3 n h0 h1 h2 h3 hb
      rw [hp] at this
      exact this
    have hky : ∀ X : World, Calls Try.prog 43 #[P4 a0 a1 a2 a3 n] X fun e w' => e = .returned (KV (keyN [a0, a1, a2, a3] n)) ∧ Below X.heap.size X w' := fun X => by
      have := key4_any [a0, a1, a2, a3] rfl n X
      rw [hkey] at this
      exact this
    generalize (keyN [a0, a1, a2, a3] n) = k at *
    cases hg : (gotN T4 k).2 with
    | true =>
      rw [show outD T4 true k cnt = (0, cnt - 1, T4.del k) from by unfold outD; rw [if_neg (by decide)]; rw [if_pos hg]]
      refine (Del4_of h _ rfl k 0 (tbC true lim (cnt - 1) (T4.del k) T6) hck hky (fun X hX => del4_is hX hok hwf k (by omega) hg ⟨hpos hg, hc⟩)).mono ?_
      rintro e w' ⟨rfl, g1, g2⟩
      exact ⟨rfl, g1, g2⟩
    | false =>
      rw [show outD T4 true k cnt = (120, cnt, T4) from by unfold outD; rw [if_neg (by decide)]; rw [if_neg (by rw [hg]; decide)]]
      refine (Del4_of h _ rfl k 120 (tbC true lim cnt T4 T6) hck hky (fun X hX => del4_no hX hok hwf k (by omega) hg)).mono ?_
      rintro e w' ⟨rfl, g1, g2⟩
      exact ⟨rfl, g1, g2⟩
theorem Del6_any {W : World} {b : Nat} {lim cnt : Int} {T4 T6 : Tr} (h : W.heap[b]? = some (.cells (tbC true lim cnt T4 T6).toArray 76)) (hok : T6.Ok) (l : List Int) (n : Int) (hf : FitB l) (hl : l.length = 16) (hb : -9223372036854775808 ≤ n ∧ n ≤ 9223372036854775807) (hwf : T6.wf) (hc : cnt ≤ 65536) (hpos : (gotN T6 (keyN l n)).2 = true → 0 < cnt) :
    Calls Try.prog 24 #[.pointer (some ⟨b, 0, none⟩), P6 l n] W fun e w' => e = .returned (.int .i64 (outD T6 (okP6 l n) (keyN l n) cnt).1) ∧ w'.heap[b]? = some (.cells (tbC true lim (outD T6 (okP6 l n) (keyN l n) cnt).2.1 T4 (outD T6 (okP6 l n) (keyN l n) cnt).2.2).toArray 76) ∧ FrT b W w' := by
  cases hp : okP6 l n with
  | false =>
    rw [show outD T6 false (keyN l n) cnt = (22, cnt, T6) from rfl]
    refine (Del6_bad h _ (by simp [cp6, u8s, hl]) (fun X hX => by
      have := check6_made hX l n hf hl hb
      rw [hp] at this
      exact this)).mono ?_
    rintro e w' ⟨rfl, hb1⟩
    exact ⟨rfl, blk_kept h hb1, FrT.of_below hb1⟩
  | true =>
    obtain ⟨hkey, hkl⟩ := key6_num hf hl hp
    have hck : ∀ X : World, X.heap[b]? = some (.cells (tbC true lim cnt T4 T6).toArray 76) → Calls Try.prog 54 #[.pointer (some ⟨b, 0, none⟩), P6 l n] X fun e w' => e = .returned (.int .i64 0) ∧ Below X.heap.size X w' := fun X hX => by
      have := check6_made hX l n hf hl hb
      rw [hp] at this
      exact this
    rw [hkey] at hck ⊢
    generalize (keyN l n) = k at *
    cases hg : (gotN T6 k).2 with
    | true =>
      rw [show outD T6 true k cnt = (0, cnt - 1, T6.del k) from by unfold outD; rw [if_neg (by decide)]; rw [if_pos hg]]
      refine (Del6_of h k 0 (tbC true lim (cnt - 1) T4 (T6.del k)) hck (fun X hX => del6_is hX hok hwf k hkl hg ⟨hpos hg, hc⟩)).mono ?_
      rintro e w' ⟨rfl, g1, g2⟩
      exact ⟨rfl, g1, g2⟩
    | false =>
      rw [show outD T6 true k cnt = (120, cnt, T6) from by unfold outD; rw [if_neg (by decide)]; rw [if_neg (by rw [hg]; decide)]]
      refine (Del6_of h k 120 (tbC true lim cnt T4 T6) hck (fun X hX => del6_no hX hok hwf k hkl hg)).mono ?_
      rintro e w' ⟨rfl, g1, g2⟩
      exact ⟨rfl, g1, g2⟩
end Go.Proofs.Ytenahbdopgmpfaa
