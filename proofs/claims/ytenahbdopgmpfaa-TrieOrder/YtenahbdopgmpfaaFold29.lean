/-
  list4; Under4, Over4, All4, All6 of a table that was made.
  All4, All6 of a table that was made; what it answers to any prefix.
-/
import Derived.Test.YtenahbdopgmpfaaFold28
import Derived.Test.YtenahbdopgmpfaaFold26
namespace Go.Proofs.Ytenahbdopgmpfaa
open Go Go.RowKit Go.Shelf
set_option linter.unusedVariables false
set_option linter.unusedSimpArgs false

set_option maxHeartbeats 4000000 in
set_option maxRecDepth 100000 in
theorem list4_under {W : World} {b : Nat} {lim cnt : Int} {T4 T6 : Tr} (h : W.heap[b]? = some (.cells (tbC true lim cnt T4 T6).toArray 76)) (hok : T4.Ok) (hn : T4.ents.length ≤ 100000) (PC : List Value) (hPC : PC.length = 5) (k : Bs) (hk : k.length ≤ 128) (hck : ∀ X : World, X.heap[b]? = some (.cells (tbC true lim cnt T4 T6).toArray 76) → Calls Try.prog 52 #[.pointer (some ⟨b, 0, none⟩), .agg PC.toArray] X fun e w' => e = .returned (.int .i64 0) ∧ Below X.heap.size X w') (hky : ∀ X : World, Calls Try.prog 43 #[.agg PC.toArray] X fun e w' => e = .returned (KV k) ∧ Below X.heap.size X w') :
    Calls Try.prog 57 #[.pointer (some ⟨b, 0, none⟩), .agg PC.toArray, .func (.func 46) #[] #[]] W fun e w' => ∃ vs, e = .returned (.tuple #[vs, .int .i64 0]) ∧ w'.ownsRow W.heap.size 47 6 vs ((T4.walk (fun q => pre k q || pre q k)).filter (fun e => pre k e.1)).length (((T4.walk (fun q => pre k q || pre q k)).filter (fun e => pre k e.1)).flatMap ec4) ∧ Below W.heap.size W w' := by
  obtain ⟨W1, hW1⟩ : ∃ W1, W1 = W.alloc (.cells PC.toArray 35) := ⟨_, rfl⟩
  have hB1 : Below W.heap.size W W1 := by rw [hW1]; exact (Below.refl W.heap.size W).alloc (Nat.le_refl _) _
  have hbx : W1.heap[W.heap.size]? = some (.cells PC.toArray 35) := by rw [hW1]; exact blk_new W _
  have hsT := blk_on h hB1
  have HBN : Hid (b < W.heap.size) := (Array.getElem?_eq_some_iff.1 h).1
  have HCK : Hid _ := hck
  have HKY : Hid _ := hky
  have HWK : Hid _ := under4_row k hk T4 hok hn
  have HST : Hid (W1.heap[b]? = some (.cells (tbC true lim cnt T4 T6).toArray 76)) := hsT
  have HBX : Hid (W1.heap[W.heap.size]? = some (.cells PC.toArray 35)) := hbx
  have HB1 : Hid (Below W.heap.size W W1) := hB1
  have HL1 : Hid _ := agg_load (t := 35) (n := 5) (fun w => by kernel_rfl) (fun w => by kernel_rfl) hPC (CellsAt.of_blk hbx)
  have hW := hW1.symm
  clear hsT hbx hB1 hW1 h hck hky hok hn hk
  generalize ((T4.walk (fun q => pre k q || pre q k)).filter (fun e => pre k e.1)) = L at *
  generalize hQ : (fun (e : Ending) (w' : World) => ∃ vs, e = .returned (.tuple #[vs, .int .i64 0]) ∧ w'.ownsRow W.heap.size 47 6 vs L.length (L.flatMap ec4) ∧ Below W.heap.size W w') = Q
  have HQ : Hid (∀ e w', (∃ vs, e = .returned (.tuple #[vs, .int .i64 0]) ∧ w'.ownsRow W.heap.size 47 6 vs L.length (L.flatMap ec4) ∧ Below W.heap.size W w') → Q e w') := fun e w' hh => by rw [← hQ]; exact hh
  clear hQ
  go_enter Try.func57, Try.ntmps57
  go_wp2_with ((with_reducible show wpList _ _ _ _ _ _); refine armLv (.tmp 4) 35 rfl rfl rfl HL1.out ?_)
  refine Calls.mono (HCK.out _ HST.out) ?_
  rintro e2 w2 ⟨rfl, hb2⟩
  obtain ⟨W3, hW3⟩ : ∃ W3, W3 = w2.alloc (.cells #[.slice none 0 0] 54) := ⟨_, rfl⟩
  have hB3 : Below w2.heap.size w2 W3 := by rw [hW3]; exact (Below.refl w2.heap.size w2).alloc (Nat.le_refl _) _
  have ho3 : W3.heap[w2.heap.size]? = some (.cells [Value.slice none 0 0].toArray 54) := by rw [hW3]; exact blk_new w2 _
  have HT3 : Hid (W3.heap[b]? = some (.cells (tbC true lim cnt T4 T6).toArray 76)) := blk_kept (blk_kept HST.out hb2) hB3
  have HX3 : Hid (W3.heap[W.heap.size]? = some (.cells PC.toArray 35)) := blk_kept (blk_kept HBX.out hb2) hB3
  have HO3 : Hid (W3.heap[w2.heap.size]? = some (.cells [Value.slice none 0 0].toArray 54)) := ho3
  have hk2 := HB1.out.trans (hb2.mono HB1.out.size)
  have HLT : Hid (W.heap.size < w2.heap.size) := by have h1 := (Array.getElem?_eq_some_iff.1 (blk_kept HBX.out hb2)).1; exact h1
  have HB3 : Hid (Below W.heap.size W W3) := hk2.trans (hB3.mono hk2.size)
  have hw' := hW3.symm
  generalize hbo : w2.heap.size = bo at *
  clear hb2 hB3 ho3 hk2 hW3 HST HBX HB1 HCK hW HL1
  go_wp2_with fail
  refine region_midT (fun aa a' w' => a' = (((((((((aa.put (some 16) (.func (.func 46) #[] #[])).put (some 17) (.pointer (some ⟨b, 0, none⟩))).put (some 18) (.pointer (some ⟨b, 0, none⟩))).put (some 19) (.pointer (some ⟨b, 3, none⟩))).put (some 20) (enc T4)).put (some 21) (.agg PC.toArray)).put (some 22) (KV k)).put (some 23) (.func (.func 73) #[] #[.pointer (some ⟨bo, 0, none⟩)])).put (some 24) (.tuple #[])) ∧ ∃ vs, w'.heap[bo]? = some (.cells [vs].toArray 54) ∧ w'.ownsRow W.heap.size 47 6 vs L.length (L.flatMap ec4) ∧ Below W.heap.size W w') ?_ ?_
  · skip
    refine wp_region_held (S := fun X => X.heap[b]? = some (.cells (tbC true lim cnt T4 T6).toArray 76) ∧ X.heap[W.heap.size]? = some (.cells PC.toArray 35)) (by kernel_rfl) ?_
    show wpAnyH _ _ _ _ _ 9 (Array.replicate 9 false) _ W3.drew
    have hS0 : W3.drew.heap[b]? = some (.cells (tbC true lim cnt T4 T6).toArray 76) ∧ W3.drew.heap[W.heap.size]? = some (.cells PC.toArray 35) := ⟨HT3.out, HX3.out⟩
    have hO0 : W3.drew.heap[bo]? = some (.cells [Value.slice none 0 0].toArray 54) := HO3.out
    have hb0 : Below W.heap.size W W3.drew := HB3.out.drew
    generalize W3.drew = X0 at *
    refine take_one (i := 0) (d := some 16) (v := .func (.func 46) #[] #[]) rfl rfl rfl (by kernel_rfl) (by kernel_rfl) (by kernel_rfl) (fun _ _ _ _ _ h => h.elim) (fun X hS => by kernel_rfl) hS0 ?_
    simp only [Act.put, List.setIfInBounds_toArray, List.set_cons_zero, List.set_cons_succ]
    refine take_one (i := 1) (d := some 17) (v := .pointer (some ⟨b, 0, none⟩)) rfl rfl rfl (by kernel_rfl) (by kernel_rfl) (by kernel_rfl) (fun _ _ _ _ _ h => h.elim) (fun X hS => by kernel_rfl) hS0 ?_
    simp only [Act.put, List.setIfInBounds_toArray, List.set_cons_zero, List.set_cons_succ]
    refine take_one (i := 2) (d := some 18) (v := .pointer (some ⟨b, 0, none⟩)) rfl rfl rfl (by kernel_rfl) (by kernel_rfl) (by kernel_rfl) (fun _ _ _ _ _ h => h.elim) (fun X hS => by kernel_rfl) hS0 ?_
    simp only [Act.put, List.setIfInBounds_toArray, List.set_cons_zero, List.set_cons_succ]
    refine take_one (i := 3) (d := some 19) (v := .pointer (some ⟨b, 3, none⟩)) rfl rfl rfl (by kernel_rfl) (by kernel_rfl) (by kernel_rfl) (fun _ _ _ _ _ h => h.elim) (fun X hS => by kernel_rfl) hS0 ?_
    simp only [Act.put, List.setIfInBounds_toArray, List.set_cons_zero, List.set_cons_succ]
    refine take_one (i := 4) (d := some 20) (v := enc T4) rfl rfl rfl (by kernel_rfl) (by kernel_rfl) (by kernel_rfl) (fun _ _ _ _ _ h => h.elim) (fun X hS => ex_loadA (.tmp 19) 74 rfl rfl (ld_node3 hS.1)) hS0 ?_
    simp only [Act.put, List.setIfInBounds_toArray, List.set_cons_zero, List.set_cons_succ]
    refine take_one (i := 5) (d := some 21) (v := .agg PC.toArray) rfl rfl rfl (by kernel_rfl) (by kernel_rfl) (by kernel_rfl) (fun _ _ _ _ _ h => h.elim) (fun X hS => ex_loadA (.tmp 4) 35 rfl rfl (agg_load (t := 35) (n := 5) (fun w => by kernel_rfl) (fun w => by kernel_rfl) hPC (CellsAt.of_blk hS.2))) hS0 ?_
    simp only [Act.put, List.setIfInBounds_toArray, List.set_cons_zero, List.set_cons_succ]
    refine take_one (i := 7) (d := some 23) (v := .func (.func 73) #[] #[.pointer (some ⟨bo, 0, none⟩)]) rfl rfl rfl (by kernel_rfl) (by kernel_rfl) (by kernel_rfl) (fun _ _ _ _ _ h => h.elim) (fun X hS => by kernel_rfl) hS0 ?_
    simp only [Act.put, List.setIfInBounds_toArray, List.set_cons_zero, List.set_cons_succ]
    refine all_one (i := 6) (by kernel_rfl) rfl rfl ?_
    refine wp_call (d := some 22) 43 _ rfl (by kernel_rfl) (callR (HKY.out _)) ?_
    rintro _ X1 ⟨rfl, hc1⟩
    have hS1 := And.intro (blk_kept hS0.1 hc1) (blk_kept hS0.2 hc1)
    have hO1 := blk_kept hO0 hc1
    have hb1 := hb0.trans (hc1.mono hb0.size)
    refine ⟨hS1, ?_⟩
    simp only [Act.put, List.setIfInBounds_toArray, List.set_cons_zero, List.set_cons_succ]
    refine all_one (i := 8) (by kernel_rfl) rfl rfl ?_
    refine wp_call (d := some 24) 46 _ rfl (by kernel_rfl) (callR (HWK.out bo X1 hO1)) ?_
    rintro _ X2 ⟨rfl, vs, g1, g2, g3, g4, g5⟩
    have hlt := HLT.out
    have hbn := HBN.out
    refine ⟨⟨(g3 b (Array.getElem?_eq_some_iff.1 hS1.1).1 (by omega)).trans hS1.1, (g3 W.heap.size (Array.getElem?_eq_some_iff.1 hS1.2).1 (by omega)).trans hS1.2⟩, ?_⟩
    simp only [Act.put, List.setIfInBounds_toArray, List.set_cons_zero, List.set_cons_succ]
    refine wpAnyH_done (by kernel_rfl) ?_ _
    exact ⟨rfl, vs, g1, own_monoT g2 hb1.size, hb1.trans (g4.mono (Nat.le_of_lt hlt))⟩
  · rintro a' w4 ⟨rfl, vs, g1, g2, g3⟩
    simp only [Act.put, List.setIfInBounds_toArray, List.set_cons_zero, List.set_cons_succ]
    have HLV : Hid _ := ld_slc4 g1 (by obtain ⟨a, c, e⟩ := own_slcT g2; exact ⟨_, _, _, e⟩)
    have HF : Hid (Q (.returned (.tuple #[vs, .int .i64 0])) w4) := HQ.out _ _ ⟨vs, rfl, g2, g3⟩
    clear g1 g2 g3 HQ HWK HKY HT3 HX3 HO3 HB3
    go_wp2_with ((with_reducible show wpList _ _ _ _ _ _); refine armLv (.tmp 9) 54 rfl rfl rfl HLV.out ?_)
    try go_ret2
    exact HF.out
set_option maxHeartbeats 4000000 in
set_option maxRecDepth 100000 in
theorem list4_over {W : World} {b : Nat} {lim cnt : Int} {T4 T6 : Tr} (h : W.heap[b]? = some (.cells (tbC true lim cnt T4 T6).toArray 76)) (hok : T4.Ok) (hn : T4.ents.length ≤ 100000) (PC : List Value) (hPC : PC.length = 5) (k : Bs) (hk : k.length ≤ 128) (hck : ∀ X : World, X.heap[b]? = some (.cells (tbC true lim cnt T4 T6).toArray 76) → Calls Try.prog 52 #[.pointer (some ⟨b, 0, none⟩), .agg PC.toArray] X fun e w' => e = .returned (.int .i64 0) ∧ Below X.heap.size X w') (hky : ∀ X : World, Calls Try.prog 43 #[.agg PC.toArray] X fun e w' => e = .returned (KV k) ∧ Below X.heap.size X w') :
    Calls Try.prog 57 #[.pointer (some ⟨b, 0, none⟩), .agg PC.toArray, .func (.func 58) #[] #[]] W fun e w' => ∃ vs, e = .returned (.tuple #[vs, .int .i64 0]) ∧ w'.ownsRow W.heap.size 47 6 vs (T4.walk (fun q => pre q k)).length ((T4.walk (fun q => pre q k)).flatMap ec4) ∧ Below W.heap.size W w' := by
  obtain ⟨W1, hW1⟩ : ∃ W1, W1 = W.alloc (.cells PC.toArray 35) := ⟨_, rfl⟩
  have hB1 : Below W.heap.size W W1 := by rw [hW1]; exact (Below.refl W.heap.size W).alloc (Nat.le_refl _) _
  have hbx : W1.heap[W.heap.size]? = some (.cells PC.toArray 35) := by rw [hW1]; exact blk_new W _
  have hsT := blk_on h hB1
  have HBN : Hid (b < W.heap.size) := (Array.getElem?_eq_some_iff.1 h).1
  have HCK : Hid _ := hck
  have HKY : Hid _ := hky
  have HWK : Hid _ := over4_row k hk T4 hok hn
  have HST : Hid (W1.heap[b]? = some (.cells (tbC true lim cnt T4 T6).toArray 76)) := hsT
  have HBX : Hid (W1.heap[W.heap.size]? = some (.cells PC.toArray 35)) := hbx
  have HB1 : Hid (Below W.heap.size W W1) := hB1
  have HL1 : Hid _ := agg_load (t := 35) (n := 5) (fun w => by kernel_rfl) (fun w => by kernel_rfl) hPC (CellsAt.of_blk hbx)
  have hW := hW1.symm
  clear hsT hbx hB1 hW1 h hck hky hok hn hk
  generalize (T4.walk (fun q => pre q k)) = L at *
  generalize hQ : (fun (e : Ending) (w' : World) => ∃ vs, e = .returned (.tuple #[vs, .int .i64 0]) ∧ w'.ownsRow W.heap.size 47 6 vs L.length (L.flatMap ec4) ∧ Below W.heap.size W w') = Q
  have HQ : Hid (∀ e w', (∃ vs, e = .returned (.tuple #[vs, .int .i64 0]) ∧ w'.ownsRow W.heap.size 47 6 vs L.length (L.flatMap ec4) ∧ Below W.heap.size W w') → Q e w') := fun e w' hh => by rw [← hQ]; exact hh
  clear hQ
  go_enter Try.func57, Try.ntmps57
  go_wp2_with ((with_reducible show wpList _ _ _ _ _ _); refine armLv (.tmp 4) 35 rfl rfl rfl HL1.out ?_)
  refine Calls.mono (HCK.out _ HST.out) ?_
  rintro e2 w2 ⟨rfl, hb2⟩
  obtain ⟨W3, hW3⟩ : ∃ W3, W3 = w2.alloc (.cells #[.slice none 0 0] 54) := ⟨_, rfl⟩
  have hB3 : Below w2.heap.size w2 W3 := by rw [hW3]; exact (Below.refl w2.heap.size w2).alloc (Nat.le_refl _) _
  have ho3 : W3.heap[w2.heap.size]? = some (.cells [Value.slice none 0 0].toArray 54) := by rw [hW3]; exact blk_new w2 _
  have HT3 : Hid (W3.heap[b]? = some (.cells (tbC true lim cnt T4 T6).toArray 76)) := blk_kept (blk_kept HST.out hb2) hB3
  have HX3 : Hid (W3.heap[W.heap.size]? = some (.cells PC.toArray 35)) := blk_kept (blk_kept HBX.out hb2) hB3
  have HO3 : Hid (W3.heap[w2.heap.size]? = some (.cells [Value.slice none 0 0].toArray 54)) := ho3
  have hk2 := HB1.out.trans (hb2.mono HB1.out.size)
  have HLT : Hid (W.heap.size < w2.heap.size) := by have h1 := (Array.getElem?_eq_some_iff.1 (blk_kept HBX.out hb2)).1; exact h1
  have HB3 : Hid (Below W.heap.size W W3) := hk2.trans (hB3.mono hk2.size)
  have hw' := hW3.symm
  generalize hbo : w2.heap.size = bo at *
  clear hb2 hB3 ho3 hk2 hW3 HST HBX HB1 HCK hW HL1
  go_wp2_with fail
  refine region_midT (fun aa a' w' => a' = (((((((((aa.put (some 16) (.func (.func 58) #[] #[])).put (some 17) (.pointer (some ⟨b, 0, none⟩))).put (some 18) (.pointer (some ⟨b, 0, none⟩))).put (some 19) (.pointer (some ⟨b, 3, none⟩))).put (some 20) (enc T4)).put (some 21) (.agg PC.toArray)).put (some 22) (KV k)).put (some 23) (.func (.func 73) #[] #[.pointer (some ⟨bo, 0, none⟩)])).put (some 24) (.tuple #[])) ∧ ∃ vs, w'.heap[bo]? = some (.cells [vs].toArray 54) ∧ w'.ownsRow W.heap.size 47 6 vs L.length (L.flatMap ec4) ∧ Below W.heap.size W w') ?_ ?_
  · skip
    refine wp_region_held (S := fun X => X.heap[b]? = some (.cells (tbC true lim cnt T4 T6).toArray 76) ∧ X.heap[W.heap.size]? = some (.cells PC.toArray 35)) (by kernel_rfl) ?_
    show wpAnyH _ _ _ _ _ 9 (Array.replicate 9 false) _ W3.drew
    have hS0 : W3.drew.heap[b]? = some (.cells (tbC true lim cnt T4 T6).toArray 76) ∧ W3.drew.heap[W.heap.size]? = some (.cells PC.toArray 35) := ⟨HT3.out, HX3.out⟩
    have hO0 : W3.drew.heap[bo]? = some (.cells [Value.slice none 0 0].toArray 54) := HO3.out
    have hb0 : Below W.heap.size W W3.drew := HB3.out.drew
    generalize W3.drew = X0 at *
    refine take_one (i := 0) (d := some 16) (v := .func (.func 58) #[] #[]) rfl rfl rfl (by kernel_rfl) (by kernel_rfl) (by kernel_rfl) (fun _ _ _ _ _ h => h.elim) (fun X hS => by kernel_rfl) hS0 ?_
    simp only [Act.put, List.setIfInBounds_toArray, List.set_cons_zero, List.set_cons_succ]
    refine take_one (i := 1) (d := some 17) (v := .pointer (some ⟨b, 0, none⟩)) rfl rfl rfl (by kernel_rfl) (by kernel_rfl) (by kernel_rfl) (fun _ _ _ _ _ h => h.elim) (fun X hS => by kernel_rfl) hS0 ?_
    simp only [Act.put, List.setIfInBounds_toArray, List.set_cons_zero, List.set_cons_succ]
    refine take_one (i := 2) (d := some 18) (v := .pointer (some ⟨b, 0, none⟩)) rfl rfl rfl (by kernel_rfl) (by kernel_rfl) (by kernel_rfl) (fun _ _ _ _ _ h => h.elim) (fun X hS => by kernel_rfl) hS0 ?_
    simp only [Act.put, List.setIfInBounds_toArray, List.set_cons_zero, List.set_cons_succ]
    refine take_one (i := 3) (d := some 19) (v := .pointer (some ⟨b, 3, none⟩)) rfl rfl rfl (by kernel_rfl) (by kernel_rfl) (by kernel_rfl) (fun _ _ _ _ _ h => h.elim) (fun X hS => by kernel_rfl) hS0 ?_
    simp only [Act.put, List.setIfInBounds_toArray, List.set_cons_zero, List.set_cons_succ]
    refine take_one (i := 4) (d := some 20) (v := enc T4) rfl rfl rfl (by kernel_rfl) (by kernel_rfl) (by kernel_rfl) (fun _ _ _ _ _ h => h.elim) (fun X hS => ex_loadA (.tmp 19) 74 rfl rfl (ld_node3 hS.1)) hS0 ?_
    simp only [Act.put, List.setIfInBounds_toArray, List.set_cons_zero, List.set_cons_succ]
    refine take_one (i := 5) (d := some 21) (v := .agg PC.toArray) rfl rfl rfl (by kernel_rfl) (by kernel_rfl) (by kernel_rfl) (fun _ _ _ _ _ h => h.elim) (fun X hS => ex_loadA (.tmp 4) 35 rfl rfl (agg_load (t := 35) (n := 5) (fun w => by kernel_rfl) (fun w => by kernel_rfl) hPC (CellsAt.of_blk hS.2))) hS0 ?_
    simp only [Act.put, List.setIfInBounds_toArray, List.set_cons_zero, List.set_cons_succ]
    refine take_one (i := 7) (d := some 23) (v := .func (.func 73) #[] #[.pointer (some ⟨bo, 0, none⟩)]) rfl rfl rfl (by kernel_rfl) (by kernel_rfl) (by kernel_rfl) (fun _ _ _ _ _ h => h.elim) (fun X hS => by kernel_rfl) hS0 ?_
    simp only [Act.put, List.setIfInBounds_toArray, List.set_cons_zero, List.set_cons_succ]
    refine all_one (i := 6) (by kernel_rfl) rfl rfl ?_
    refine wp_call (d := some 22) 43 _ rfl (by kernel_rfl) (callR (HKY.out _)) ?_
    rintro _ X1 ⟨rfl, hc1⟩
    have hS1 := And.intro (blk_kept hS0.1 hc1) (blk_kept hS0.2 hc1)
    have hO1 := blk_kept hO0 hc1
    have hb1 := hb0.trans (hc1.mono hb0.size)
    refine ⟨hS1, ?_⟩
    simp only [Act.put, List.setIfInBounds_toArray, List.set_cons_zero, List.set_cons_succ]
    refine all_one (i := 8) (by kernel_rfl) rfl rfl ?_
    refine wp_call (d := some 24) 58 _ rfl (by kernel_rfl) (callR (HWK.out bo X1 hO1)) ?_
    rintro _ X2 ⟨rfl, vs, g1, g2, g3, g4, g5⟩
    have hlt := HLT.out
    have hbn := HBN.out
    refine ⟨⟨(g3 b (Array.getElem?_eq_some_iff.1 hS1.1).1 (by omega)).trans hS1.1, (g3 W.heap.size (Array.getElem?_eq_some_iff.1 hS1.2).1 (by omega)).trans hS1.2⟩, ?_⟩
    simp only [Act.put, List.setIfInBounds_toArray, List.set_cons_zero, List.set_cons_succ]
    refine wpAnyH_done (by kernel_rfl) ?_ _
    exact ⟨rfl, vs, g1, own_monoT g2 hb1.size, hb1.trans (g4.mono (Nat.le_of_lt hlt))⟩
  · rintro a' w4 ⟨rfl, vs, g1, g2, g3⟩
    simp only [Act.put, List.setIfInBounds_toArray, List.set_cons_zero, List.set_cons_succ]
    have HLV : Hid _ := ld_slc4 g1 (by obtain ⟨a, c, e⟩ := own_slcT g2; exact ⟨_, _, _, e⟩)
    have HF : Hid (Q (.returned (.tuple #[vs, .int .i64 0])) w4) := HQ.out _ _ ⟨vs, rfl, g2, g3⟩
    clear g1 g2 g3 HQ HWK HKY HT3 HX3 HO3 HB3
    go_wp2_with ((with_reducible show wpList _ _ _ _ _ _); refine armLv (.tmp 9) 54 rfl rfl rfl HLV.out ?_)
    try go_ret2
    exact HF.out
set_option maxHeartbeats 4000000 in
set_option maxRecDepth 100000 in
theorem Under4_made {W : World} {b : Nat} {lim cnt : Int} {T4 T6 : Tr} (h : W.heap[b]? = some (.cells (tbC true lim cnt T4 T6).toArray 76)) (hok : T4.Ok) (hn : T4.ents.length ≤ 100000) (PC : List Value) (hPC : PC.length = 5) (k : Bs) (hk : k.length ≤ 128) (hck : ∀ X : World, X.heap[b]? = some (.cells (tbC true lim cnt T4 T6).toArray 76) → Calls Try.prog 52 #[.pointer (some ⟨b, 0, none⟩), .agg PC.toArray] X fun e w' => e = .returned (.int .i64 0) ∧ Below X.heap.size X w') (hky : ∀ X : World, Calls Try.prog 43 #[.agg PC.toArray] X fun e w' => e = .returned (KV k) ∧ Below X.heap.size X w') :
    Calls Try.prog 28 #[.pointer (some ⟨b, 0, none⟩), .agg PC.toArray] W fun e w' => ∃ vs, e = .returned (.tuple #[vs, .int .i64 0]) ∧ w'.ownsRow W.heap.size 47 6 vs ((T4.walk (fun q => pre k q || pre q k)).filter (fun e => pre k e.1)).length (((T4.walk (fun q => pre k q || pre q k)).filter (fun e => pre k e.1)).flatMap ec4) ∧ Below W.heap.size W w' := by
  have HB : Hid _ := (Below.refl W.heap.size W).alloc (Nat.le_refl _) (.cells PC.toArray 35)
  have HC : Hid _ := list4_under (blk_on h HB.out) hok hn PC hPC k hk hck hky
  have HL : Hid _ := agg_load (t := 35) (n := 5) (fun w => by kernel_rfl) (fun w => by kernel_rfl) hPC (CellsAt.of_blk (blk_new W (.cells PC.toArray 35)))
  clear h hok hn hPC hk hck hky
  generalize ((T4.walk (fun q => pre k q || pre q k)).filter (fun e => pre k e.1)) = L at *
  go_enter Try.func28, Try.ntmps28
  go_wp2_with ((with_reducible show wpList _ _ _ _ _ _); refine armLv (.tmp 3) 35 rfl rfl rfl HL.out ?_)
  refine Calls.mono HC.out ?_
  rintro e w1 ⟨vs, rfl, hr1, hb1⟩
  have HK : Hid _ := HB.out.trans (hb1.mono HB.out.size)
  have HR : Hid _ := own_monoT hr1 HB.out.size
  clear hb1 hr1 HC HL
  go_wp2
  try go_ret2
  exact ⟨vs, rfl, HR.out, HK.out⟩
set_option maxHeartbeats 4000000 in
set_option maxRecDepth 100000 in
theorem Over4_made {W : World} {b : Nat} {lim cnt : Int} {T4 T6 : Tr} (h : W.heap[b]? = some (.cells (tbC true lim cnt T4 T6).toArray 76)) (hok : T4.Ok) (hn : T4.ents.length ≤ 100000) (PC : List Value) (hPC : PC.length = 5) (k : Bs) (hk : k.length ≤ 128) (hck : ∀ X : World, X.heap[b]? = some (.cells (tbC true lim cnt T4 T6).toArray 76) → Calls Try.prog 52 #[.pointer (some ⟨b, 0, none⟩), .agg PC.toArray] X fun e w' => e = .returned (.int .i64 0) ∧ Below X.heap.size X w') (hky : ∀ X : World, Calls Try.prog 43 #[.agg PC.toArray] X fun e w' => e = .returned (KV k) ∧ Below X.heap.size X w') :
    Calls Try.prog 29 #[.pointer (some ⟨b, 0, none⟩), .agg PC.toArray] W fun e w' => ∃ vs, e = .returned (.tuple #[vs, .int .i64 0]) ∧ w'.ownsRow W.heap.size 47 6 vs (T4.walk (fun q => pre q k)).length ((T4.walk (fun q => pre q k)).flatMap ec4) ∧ Below W.heap.size W w' := by
  have HB : Hid _ := (Below.refl W.heap.size W).alloc (Nat.le_refl _) (.cells PC.toArray 35)
  have HC : Hid _ := list4_over (blk_on h HB.out) hok hn PC hPC k hk hck hky
  have HL : Hid _ := agg_load (t := 35) (n := 5) (fun w => by kernel_rfl) (fun w => by kernel_rfl) hPC (CellsAt.of_blk (blk_new W (.cells PC.toArray 35)))
  clear h hok hn hPC hk hck hky
  generalize (T4.walk (fun q => pre q k)) = L at *
  go_enter Try.func29, Try.ntmps29
  go_wp2_with ((with_reducible show wpList _ _ _ _ _ _); refine armLv (.tmp 3) 35 rfl rfl rfl HL.out ?_)
  refine Calls.mono HC.out ?_
  rintro e w1 ⟨vs, rfl, hr1, hb1⟩
  have HK : Hid _ := HB.out.trans (hb1.mono HB.out.size)
  have HR : Hid _ := own_monoT hr1 HB.out.size
  clear hb1 hr1 HC HL
  go_wp2
  try go_ret2
  exact ⟨vs, rfl, HR.out, HK.out⟩
end Go.Proofs.Ytenahbdopgmpfaa

namespace Go.Proofs.Ytenahbdopgmpfaa
open Go Go.RowKit Go.Shelf
set_option linter.unusedVariables false
set_option linter.unusedSimpArgs false

theorem walk_all {g : Bs → Bool} (hg : ∀ k, g k = true) : ∀ t : Tr, t.walk g = t.ents
  | .nil => rfl
  | .leaf k v => by simp [Tr.walk, Tr.ents, hg]
  | .fork k a b c => by simp [Tr.walk, Tr.ents, hg, walk_all hg a, walk_all hg b, walk_all hg c]
theorem under_all (t : Tr) : (t.walk (fun q => pre [] q || pre q [])).filter (fun e => pre [] e.1) = t.ents := by
  have h : ∀ k : Bs, pre [] k = true := fun k => pre_iff.2 (List.nil_prefix)
  rw [walk_all (fun k => by rw [h k]; rfl)]
  exact List.filter_eq_self.2 (fun e _ => h e.1)
theorem key_zero : (.agg (cp6 ([0, 0, 0, 0] ++ List.replicate 12 0) 0).toArray : Value) = KV [] := by kernel_rfl
set_option maxHeartbeats 4000000 in
set_option maxRecDepth 100000 in
theorem All4_made {W : World} {b : Nat} {lim cnt : Int} {T4 T6 : Tr} (h : W.heap[b]? = some (.cells (tbC true lim cnt T4 T6).toArray 76)) (hok : T4.Ok) (hn : T4.ents.length ≤ 100000) :
    Calls Try.prog 16 #[.pointer (some ⟨b, 0, none⟩)] W fun e w' => ∃ vs, e = .returned vs ∧ w'.ownsRow W.heap.size 47 6 vs T4.ents.length (T4.ents.flatMap ec4) ∧ Below W.heap.size W w' := by
  have HC := Under4_made h hok hn [.int .u8 0, .int .u8 0, .int .u8 0, .int .u8 0, .int .i64 0] rfl [] (by simp) (fun X hX => by
    have := check4_made hX 0 0 0 0 0 (by omega) (by omega) (by omega) (by omega) (by omega)
    rw [show okP4 0 0 0 0 0 = true by decide] at this
    exact this) (fun X => by
    have := key4_any [0, 0, 0, 0] rfl 0 X
    rw [key_zero] at this
    exact this)
  rw [under_all] at HC
  have HC : Hid _ := HC
  clear h hok hn
  generalize T4.ents = L at *
  go_enter Try.func16, Try.ntmps16
  go_wp2_with fail
  refine Calls.mono HC.out ?_
  rintro e w1 ⟨vs, rfl, hr1, hb1⟩
  have HK : Hid _ := hb1
  have HR : Hid _ := hr1
  clear hb1 hr1 HC
  go_wp2
  try go_ret
  exact ⟨vs, rfl, HR.out, HK.out⟩
set_option maxHeartbeats 4000000 in
set_option maxRecDepth 100000 in
theorem All6_made {W : World} {b : Nat} {lim cnt : Int} {T4 T6 : Tr} (h : W.heap[b]? = some (.cells (tbC true lim cnt T4 T6).toArray 76)) (hok : T6.Ok) (hn : T6.ents.length ≤ 100000) :
    Calls Try.prog 17 #[.pointer (some ⟨b, 0, none⟩)] W fun e w' => ∃ vs, e = .returned vs ∧ w'.ownsRow W.heap.size 51 18 vs T6.ents.length (T6.ents.flatMap ec6) ∧ Below W.heap.size W w' := by
  obtain ⟨W1, hW1⟩ : ∃ W1, W1 = W.alloc (.cells #[.slice none 0 0] 56) := ⟨_, rfl⟩
  have hB1 : Below W.heap.size W W1 := by rw [hW1]; exact (Below.refl W.heap.size W).alloc (Nat.le_refl _) _
  have hO1 : W1.heap[W.heap.size]? = some (.cells [Value.slice none 0 0].toArray 56) := by rw [hW1]; exact blk_new W _
  have hT1 := blk_on h hB1
  have HLN : Hid _ := ld_node4 hT1
  have hs1 : W1.heap.size = W.heap.size + 1 := by rw [hW1]; simp
  have hwk := under6_row [] (by simp) T6 hok hn W.heap.size W1 hO1
  rw [under_all] at hwk
  have HWK : Hid _ := hwk
  have HB1 : Hid (Below W.heap.size W W1) := hB1
  have HBD : Hid (∀ W : World, (Instr.build 39 ([] : List (Nat × Value)).toArray).run Try.prog W = .ok (KV []) W) := fun W => by kernel_rfl
  have hw' := hW1.symm
  have HNV : Hid _ := enc_node T6
  clear h hok hn hB1 hO1 hT1 hW1 hwk hs1
  generalize T6.ents = L at *
  go_enter Try.func17, Try.ntmps17
  go_wp2_with first
    | ((with_reducible show wpList _ _ _ _ _ _); refine armLv (.tmp 8) 74 rfl rfl rfl HLN.out ?_)
    | ((with_reducible show wpList _ _ _ ({ dst := _, op := Op.build 39 _, type := _, pos := _, after := _, guard := _ } :: _) _ _); refine arm_build rfl 39 [] rfl rfl (HBD.out _) ?_)
  refine Calls.mono HWK.out ?_
  rintro e w4 ⟨rfl, vs, g1, g2, g3, g4, g5⟩
  have HLV : Hid _ := ld_slc6 g1 (by obtain ⟨a, c, e⟩ := own_slcT g2; exact ⟨_, _, _, e⟩)
  have HR : Hid _ := own_monoT g2 HB1.out.size
  have HK : Hid _ := HB1.out.trans g4
  clear g1 g2 g3 g4 g5 HWK HLN
  go_wp2_with ((with_reducible show wpList _ _ _ _ _ _); refine armLv (.tmp 3) 56 rfl rfl rfl HLV.out ?_)
  try go_ret
  exact ⟨vs, rfl, HR.out, HK.out⟩
end Go.Proofs.Ytenahbdopgmpfaa
