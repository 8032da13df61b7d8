/-
  Put4 of a new entry in a table of package trie.
-/
import Derived.Test.YtabmkbhmgfneiaaTd3
namespace Go.Proofs.Ytabmkbhmgfneiaa
open Go Go.RowKit Go.Shelf
set_option linter.unusedVariables false
set_option linter.unusedSimpArgs false

theorem build_lfT (k : Bs) (v : Int) (W : World) : (Instr.build 85 #[(0, KV k), (1, .int .i64 v)]).run Try.prog W = .ok (LF k v) W := by
  have hl : (bytN 16 k).length = 16 := bytN_length _ _
  have h : ∀ l : List Int, l.length = 16 → (Instr.build 85 #[(0, .agg (cp6 l k.length).toArray), (1, .int .i64 v)]).run Try.prog W = .ok (.agg (cp6 l k.length ++ [Value.int .i64 v]).toArray) W := by
    intro l hl
    obtain ⟨a0, a1, a2, a3, a4, a5, a6, a7, a8, a9, a10, a11, a12, a13, a14, a15, rfl⟩ := six16 hl
    exact run_build W _ _ _ (by kernel_rfl)
  exact h _ hl
set_option maxHeartbeats 4000000 in
set_option maxRecDepth 100000 in
theorem Put4_new {W : World} {b : Nat} {lim cnt : Int} {T4 T6 : Tr} (h : W.heap[b]? = some (.cells (tbC true lim cnt T4 T6).toArray 76)) (hok : T4.Ok) (a0 a1 a2 a3 n : Int) (h0 : 0 ≤ a0 ∧ a0 < 256) (h1 : 0 ≤ a1 ∧ a1 < 256) (h2 : 0 ≤ a2 ∧ a2 < 256) (h3 : 0 ≤ a3 ∧ a3 < 256) (hb : -9223372036854775808 ≤ n ∧ n ≤ 9223372036854775807) (hp : okP4 a0 a1 a2 a3 n = true)
    (k : Bs) (hk : k.length ≤ 128) (hkey : (.agg (cp6 ([a0, a1, a2, a3] ++ List.replicate 12 0) n).toArray : Value) = KV k) (v : Int) (hwas : (getN (T4.walk (fun q => pre q k)) k).2 = false) (hcn : 0 ≤ cnt ∧ cnt < lim) (hlim : lim ≤ 65536) :
    Calls Try.prog 20 #[.pointer (some ⟨b, 0, none⟩), P4 a0 a1 a2 a3 n, .int .i64 v] W fun e w' => e = .returned (.tuple #[.bool false, .int .i64 0]) ∧ w'.heap[b]? = some (.cells (tbC true lim (cnt + 1) (T4.put k v) T6).toArray 76) ∧ W.heap.size ≤ w'.heap.size ∧ (∀ B, B ≤ b → B ≤ W.heap.size → Below B W w') := by
  obtain ⟨W1, hW1⟩ : ∃ W1, W1 = W.alloc (.cells #[.int .u8 a0, .int .u8 a1, .int .u8 a2, .int .u8 a3, .int .i64 n] 35) := ⟨_, rfl⟩
  have hB1 : Below W.heap.size W W1 := by rw [hW1]; exact (Below.refl W.heap.size W).alloc (Nat.le_refl _) _
  have hbx : W1.heap[W.heap.size]? = some (.cells [.int .u8 a0, .int .u8 a1, .int .u8 a2, .int .u8 a3, .int .i64 n].toArray 35) := by rw [hW1]; exact blk_new W _
  have hsT := blk_on h hB1
  have hbn : b < W.heap.size := (Array.getElem?_eq_some_iff.1 h).1
  have HCK : Hid (∀ X : World, X.heap[b]? = some (.cells (tbC true lim cnt T4 T6).toArray 76) → Calls Try.prog 52 #[.pointer (some ⟨b, 0, none⟩), P4 a0 a1 a2 a3 n] X fun e w' => e = .returned (.int .i64 0) ∧ Below X.heap.size X w') := fun X hX => by
    have := check4_made hX a0 a1 a2 a3 n h0 h1 h2 h3 hb
    rw [hp] at this
    exact this
  have HKY : Hid (∀ X : World, Calls Try.prog 43 #[P4 a0 a1 a2 a3 n] X fun e w' => e = .returned (KV k) ∧ Below X.heap.size X w') := fun X => by
    have := key4_any [a0, a1, a2, a3] rfl n X
    rw [hkey] at this
    exact this
  have HPT : Hid (∀ X : World, X.heap[b]? = some (.cells (tbC true lim cnt T4 T6).toArray 76) → Calls Try.prog 53 #[.pointer (some ⟨b, 0, none⟩), .pointer (some ⟨b, 3, none⟩), LF k v] X fun e w' => e = .returned (.tuple #[.bool false, .int .i64 0]) ∧ w'.heap[b]? = some (.cells (tbC true lim (cnt + 1) (T4.put k v) T6).toArray 76) ∧ X.heap.size ≤ w'.heap.size ∧ (∀ B, B ≤ b → B ≤ X.heap.size → Below B X w') ∧ (∀ j, j < X.heap.size → j ≠ b → w'.heap[j]? = X.heap[j]?)) := fun X hX => put4_new hX hok k hk v hwas hcn hlim
  have HST : Hid (W1.heap[b]? = some (.cells (tbC true lim cnt T4 T6).toArray 76)) := hsT
  have HBX : Hid (W1.heap[W.heap.size]? = some (.cells [.int .u8 a0, .int .u8 a1, .int .u8 a2, .int .u8 a3, .int .i64 n].toArray 35)) := hbx
  have HB1 : Hid (Below W.heap.size W W1) := hB1
  have HBN : Hid (b < W.heap.size) := hbn
  have hW := hW1.symm
  clear hsT hbx hB1 hbn hW1 h hok hp hkey hwas hcn hlim hk h0 h1 h2 h3 hb
  generalize hQ : (fun (e : Ending) (w' : World) => e = .returned (.tuple #[.bool false, .int .i64 0]) ∧ w'.heap[b]? = some (.cells (tbC true lim (cnt + 1) (T4.put k v) T6).toArray 76) ∧ W.heap.size ≤ w'.heap.size ∧ (∀ B, B ≤ b → B ≤ W.heap.size → Below B W w')) = Q
  have HQ : Hid (∀ e w', e = .returned (.tuple #[.bool false, .int .i64 0]) ∧ w'.heap[b]? = some (.cells (tbC true lim (cnt + 1) (T4.put k v) T6).toArray 76) ∧ W.heap.size ≤ w'.heap.size ∧ (∀ B, B ≤ b → B ≤ W.heap.size → Below B W w') → Q e w') := fun e w' hh => by rw [← hQ]; exact hh
  clear hQ
  have c0 := blk_cell HBX.out (j := 0) rfl
  have c1 := blk_cell HBX.out (j := 1) rfl
  have c2 := blk_cell HBX.out (j := 2) rfl
  have c3 := blk_cell HBX.out (j := 3) rfl
  have c4 := blk_cell HBX.out (j := 4) rfl
  go_enter Try.func20, Try.ntmps20
  go_wp2_with fail
  refine Calls.mono (HCK.out _ HST.out) ?_
  rintro e2 w2 ⟨rfl, hb2⟩
  have HT2 : Hid (w2.heap[b]? = some (.cells (tbC true lim cnt T4 T6).toArray 76)) := blk_kept HST.out hb2
  have HX2 : Hid (w2.heap[W.heap.size]? = some (.cells [.int .u8 a0, .int .u8 a1, .int .u8 a2, .int .u8 a3, .int .i64 n].toArray 35)) := blk_kept HBX.out hb2
  have HB2 : Hid (Below W.heap.size W w2) := HB1.out.trans (hb2.mono HB1.out.size)
  clear hb2 HST HBX HB1 HCK hW c0 c1 c2 c3 c4
  go_wp2_with fail
  refine region_midT (fun aa a' w' => a' = (((((((((((((aa.put (some 15) (.pointer (some ⟨b, 0, none⟩))).put (some 16) (.pointer (some ⟨b, 0, none⟩))).put (some 17) (.pointer (some ⟨b, 0, none⟩))).put (some 18) (.pointer (some ⟨b, 3, none⟩))).put (some 19) (P4 a0 a1 a2 a3 n)).put (some 20) (KV k)).put (some 21) (.int .i64 v)).put (some 22) (LF k v)).put (some 23) (.tuple #[.bool false, .int .i64 0])).put (some 24) (.bool false)).put (some 25) (.int .i64 0)).put (some 6) (.bool false)).put (some 7) (.int .i64 0)) ∧ w'.heap[b]? = some (.cells (tbC true lim (cnt + 1) (T4.put k v) T6).toArray 76) ∧ w2.heap.size ≤ w'.heap.size ∧ (∀ B, B ≤ b → B ≤ w2.heap.size → Below B w2 w')) ?_ ?_
  · skip
    refine wp_region_held (S := fun X => X.heap[W.heap.size]? = some (.cells [.int .u8 a0, .int .u8 a1, .int .u8 a2, .int .u8 a3, .int .i64 n].toArray 35)) (by kernel_rfl) ?_
    show wpAnyH _ _ _ _ _ 13 (Array.replicate 13 false) _ _
    have hS0 : w2.drew.heap[W.heap.size]? = some (.cells [.int .u8 a0, .int .u8 a1, .int .u8 a2, .int .u8 a3, .int .i64 n].toArray 35) := HX2.out
    refine take_one (i := 0) (d := some 15) (v := .pointer (some ⟨b, 0, none⟩)) rfl rfl rfl (by kernel_rfl) (by kernel_rfl) (by kernel_rfl) (fun _ _ _ _ _ h => h.elim) (fun X hS => by kernel_rfl) hS0 ?_
    simp only [Act.put, List.setIfInBounds_toArray, List.set_cons_zero, List.set_cons_succ]
    refine take_one (i := 1) (d := some 16) (v := .pointer (some ⟨b, 0, none⟩)) rfl rfl rfl (by kernel_rfl) (by kernel_rfl) (by kernel_rfl) (fun _ _ _ _ _ h => h.elim) (fun X hS => by kernel_rfl) hS0 ?_
    simp only [Act.put, List.setIfInBounds_toArray, List.set_cons_zero, List.set_cons_succ]
    refine take_one (i := 2) (d := some 17) (v := .pointer (some ⟨b, 0, none⟩)) rfl rfl rfl (by kernel_rfl) (by kernel_rfl) (by kernel_rfl) (fun _ _ _ _ _ h => h.elim) (fun X hS => by kernel_rfl) hS0 ?_
    simp only [Act.put, List.setIfInBounds_toArray, List.set_cons_zero, List.set_cons_succ]
    refine take_one (i := 3) (d := some 18) (v := .pointer (some ⟨b, 3, none⟩)) rfl rfl rfl (by kernel_rfl) (by kernel_rfl) (by kernel_rfl) (fun _ _ _ _ _ h => h.elim) (fun X hS => by kernel_rfl) hS0 ?_
    simp only [Act.put, List.setIfInBounds_toArray, List.set_cons_zero, List.set_cons_succ]
    refine take_one (i := 4) (d := some 19) (v := P4 a0 a1 a2 a3 n) rfl rfl rfl (by kernel_rfl) (by kernel_rfl) (by kernel_rfl) (fun _ _ _ _ _ h => h.elim) (fun X hS => ex_loadA (.tmp 4) 35 rfl rfl (agg_load (n := 5) (fun w => by kernel_rfl) (fun w => by kernel_rfl) (by rfl) (CellsAt.of_blk hS))) hS0 ?_
    simp only [Act.put, List.setIfInBounds_toArray, List.set_cons_zero, List.set_cons_succ]
    refine take_one (i := 6) (d := some 21) (v := .int .i64 v) rfl rfl rfl (by kernel_rfl) (by kernel_rfl) (by kernel_rfl) (fun _ _ _ _ _ h => h.elim) (fun X hS => by kernel_rfl) hS0 ?_
    simp only [Act.put, List.setIfInBounds_toArray, List.set_cons_zero, List.set_cons_succ]
    refine all_one (i := 5) (by kernel_rfl) rfl rfl ?_
    refine wp_call (d := some 20) 43 _ rfl (by kernel_rfl) (callR (HKY.out _)) ?_
    rintro _ X1 ⟨rfl, hb1⟩
    have hS1 := blk_kept hS0 hb1
    have hT1 := blk_kept (show w2.drew.heap[b]? = _ from HT2.out) hb1
    refine ⟨hS1, ?_⟩
    simp only [Act.put, List.setIfInBounds_toArray, List.set_cons_zero, List.set_cons_succ]
    refine take_one (i := 7) (d := some 22) (v := LF k v) rfl rfl rfl (by kernel_rfl) (by kernel_rfl) (by kernel_rfl) (fun _ _ _ _ _ h => h.elim) (fun X hS => ex_buildA 85 [(0, .tmp 20), (1, .tmp 21)] rfl rfl (build_lfT k v X)) hS1 ?_
    simp only [Act.put, List.setIfInBounds_toArray, List.set_cons_zero, List.set_cons_succ]
    refine all_one (i := 8) (by kernel_rfl) rfl rfl ?_
    refine wp_call (d := some 23) 53 _ rfl (by kernel_rfl) (callR (HPT.out _ hT1)) ?_
    rintro _ X2 ⟨rfl, hT3, hz3, hbb3, hoo3⟩
    have hS3 := (hoo3 W.heap.size (Array.getElem?_eq_some_iff.1 hS1).1 (by have := HBN.out; omega)).trans hS1
    refine ⟨hS3, ?_⟩
    simp only [Act.put, List.setIfInBounds_toArray, List.set_cons_zero, List.set_cons_succ]
    refine take_one (i := 9) (d := some 24) (v := .bool false) rfl rfl rfl (by kernel_rfl) (by kernel_rfl) (by kernel_rfl) (fun _ _ _ _ _ h => h.elim) (fun X hS => by kernel_rfl) hS3 ?_
    simp only [Act.put, List.setIfInBounds_toArray, List.set_cons_zero, List.set_cons_succ]
    refine take_one (i := 10) (d := some 25) (v := .int .i64 0) rfl rfl rfl (by kernel_rfl) (by kernel_rfl) (by kernel_rfl) (fun _ _ _ _ _ h => h.elim) (fun X hS => by kernel_rfl) hS3 ?_
    simp only [Act.put, List.setIfInBounds_toArray, List.set_cons_zero, List.set_cons_succ]
    refine take_one (i := 11) (d := some 6) (v := .bool false) rfl rfl rfl (by kernel_rfl) (by kernel_rfl) (by kernel_rfl) (fun _ _ _ _ _ h => h.elim) (fun X hS => by kernel_rfl) hS3 ?_
    simp only [Act.put, List.setIfInBounds_toArray, List.set_cons_zero, List.set_cons_succ]
    refine take_one (i := 12) (d := some 7) (v := .int .i64 0) rfl rfl rfl (by kernel_rfl) (by kernel_rfl) (by kernel_rfl) (fun _ _ _ _ _ h => h.elim) (fun X hS => by kernel_rfl) hS3 ?_
    simp only [Act.put, List.setIfInBounds_toArray, List.set_cons_zero, List.set_cons_succ]
    refine wpAnyH_done (by kernel_rfl) ?_ _
    have hz1 : w2.heap.size ≤ X1.heap.size := hb1.size
    exact ⟨rfl, hT3, Nat.le_trans hz1 hz3, fun B hB hB2 => (((Below.refl w2.heap.size w2).drew.trans hb1).mono hB2).trans (hbb3 B hB (Nat.le_trans hB2 hz1))⟩
  · rintro a' w4 ⟨rfl, hT4, hz4, hb4⟩
    simp only [Act.put, List.setIfInBounds_toArray, List.set_cons_zero, List.set_cons_succ]
    have HF : Hid (Q (.returned (.tuple #[.bool false, .int .i64 0])) w4) := HQ.out _ _ ⟨rfl, hT4, Nat.le_trans HB2.out.size hz4, fun B hB hB2 => (HB2.out.mono hB2).trans (hb4 B hB (Nat.le_trans hB2 HB2.out.size))⟩
    clear hT4 hz4 hb4 HT2 HX2 HB2 HKY HPT HQ
    go_wp2
    try go_ret2
    exact HF.out
end Go.Proofs.Ytabmkbhmgfneiaa
