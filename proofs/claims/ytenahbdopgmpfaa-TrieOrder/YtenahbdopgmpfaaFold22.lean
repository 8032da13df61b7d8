/-
  Put4 of a new entry in a table of package trie.
  awake of package trie's statements.
-/
import Derived.Test.YtenahbdopgmpfaaFold21
namespace Go.Proofs.Ytenahbdopgmpfaa
open Go Go.RowKit Go.Shelf
set_option linter.unusedVariables false
set_option linter.unusedSimpArgs false

theorem build_lfT (k : Bs) (v : Int) (W : World) : (Instr.build 85 #[(0, KV k), (1, .int .i64 v)]).run Try.prog W = .ok (LF k v) W := by
  have hl : (bytN 16 k).length = 16 := bytN_length _ _
  have h : ∀ l : List Int, l.length = 16 → (Instr.build 85 #[(0, .agg (cp6 l k.length).toArray), (1, .int .i64 v)]).run Try.prog W = .ok (.agg (cp6 l k.length ++ [Value.int .i64 v]).toArray) W := by
    intro l hl
    obtain ⟨a0, a1, a2, a3, a4, a5, a6, a7, a8, a9, a10, a11, a12, a13, a14, a15, rfl⟩ := six16 hl
    exact run_build W _ _ _ (by kernel_rfl)
  exact h _ hl
set_option maxHeartbeats 4000000 in
set_option maxRecDepth 100000 in
theorem Put4_new {W : World} {b : Nat} {lim cnt : Int} {T4 T6 : Tr} (h : W.heap[b]? = some (.cells (tbC true lim cnt T4 T6).toArray 76)) (hok : T4.Ok) (a0 a1 a2 a3 n : Int) (h0 : 0 ≤ a0 ∧ a0 < 256) (h1 : 0 ≤ a1 ∧ a1 < 256) (h2 : 0 ≤ a2 ∧ a2 < 256) (h3 : 0 ≤ a3 ∧ a3 < 256) (hb : -9223372036854775808 ≤ n ∧ n ≤ 9223372036854775807) (hp : okP4 a0 a1 a2 a3 n = true)
    (k : Bs) (hk : k.length ≤ 128) (hkey : (.agg (cp6 ([a0, a1, a2, a3] ++ List.replicate 12 0) n).toArray : Value) = KV k) (v : Int) (hwas : (getN (T4.walk (fun q => pre q k)) k).2 = false) (hcn : 0 ≤ cnt ∧ cnt < lim) (hlim : lim ≤ 65536) :
    Calls Try.prog 20 #[.pointer (some ⟨b, 0, none⟩), P4 a0 a1 a2 a3 n, .int .i64 v] W fun e w' => e = .returned (.tuple #[.bool false, .int .i64 0]) ∧ w'.heap[b]? = some (.cells (tbC true lim (cnt + 1) (T4.put k v) T6).toArray 76) ∧ W.heap.size ≤ w'.heap.size ∧ (∀ B, B ≤ b → B ≤ W.heap.size → Below B W w') := by
  obtain ⟨W1, hW1⟩ : ∃ W1, W1 = W.alloc (.cells #[.int .u8 a0, .int .u8 a1, .int .u8 a2, .int .u8 a3, .int .i64 n] 35) := ⟨_, rfl⟩
  have hB1 : Below W.heap.size W W1 := by rw [hW1]; exact (Below.refl W.heap.size W).alloc (Nat.le_refl _) _
  have hbx : W1.heap[W.heap.size]? = some (.cells [.int .u8 a0, .int .u8 a1, .int .u8 a2, .int .u8 a3, .int .i64 n].toArray 35) := by rw [hW1]; exact blk_new W _
  have hsT := blk_on h hB1
  have hbn : b < W.heap.size := (Array.getElem?_eq_some_iff.1 h).1
  have HCK : Hid (∀ X : World, X.heap[b]? = some (.cells (tbC true lim cnt T4 T6).toArray 76) → Calls Try.prog 52 #[.pointer (some ⟨b, 0, none⟩), P4 a0 a1 a2 a3 n] X fun e w' => e = .returned (.int .i64 0) ∧ Below X.heap.size X w') := fun X hX => by
    have := check4_made hX a0 a1 a2 a3 n h0 h1 h2 h3 hb
    rw [hp] at this
    exact this
  have HKY : Hid (∀ X : World, Calls Try.prog 43 #[P4 a0 a1 a2 a3 n] X fun e w' => e = .returned (KV k) ∧ Below X.heap.size X w') := fun X => by
    have := key4_any [a0, a1, a2, a3] rfl n X
    rw [hkey] at this
    exact this
  have HPT : Hid (∀ X : World, X.heap[b]? = some (.cells (tbC true lim cnt T4 T6).toArray 76) → Calls Try.prog 53 #[.pointer (some ⟨b, 0, none⟩), .pointer (some ⟨b, 3, none⟩), LF k v] X fun e w' => e = .returned (.tuple #[.bool false, .int .i64 0]) ∧ w'.heap[b]? = some (.cells (tbC true lim (cnt + 1) (T4.put k v) T6).toArray 76) ∧ X.heap.size ≤ w'.heap.size ∧ (∀ B, B ≤ b → B ≤ X.heap.size → Below B X w') ∧ (∀ j, j < X.heap.size → j ≠ b → w'.heap[j]? = X.heap[j]?)) := fun X hX => put4_new hX hok k hk v hwas hcn hlim
  have HST : Hid (W1.heap[b]? = some (.cells (tbC true lim cnt T4 T6).toArray 76)) := hsT
  have HBX : Hid (W1.heap[W.heap.size]? = some (.cells [.int .u8 a0, .int .u8 a1, .int .u8 a2, .int .u8 a3, .int .i64 n].toArray 35)) := hbx
  have HB1 : Hid (Below W.heap.size W W1) := hB1
  have HBN : Hid (b < W.heap.size) := hbn
  have hW := hW1.symm
  clear hsT hbx hB1 hbn hW1 h hok hp hkey hwas hcn hlim hk h0 h1 h2 h3 hb
  generalize hQ : (fun (e : Ending) (w' : World) => e = .returned (.tuple #[.bool false, .int .i64 0]) ∧ w'.heap[b]? = some (.cells (tbC true lim (cnt + 1) (T4.put k v) T6).toArray 76) ∧ W.heap.size ≤ w'.heap.size ∧ (∀ B, B ≤ b → B ≤ W.heap.size → Below B W w')) = Q
  have HQ : Hid (∀ e w', e = .returned (.tuple #[.bool false, .int .i64 0]) ∧ w'.heap[b]? = some (.cells (tbC true lim (cnt + 1) (T4.put k v) T6).toArray 76) ∧ W.heap.size ≤ w'.heap.size ∧ (∀ B, B ≤ b → B ≤ W.heap.size → Below B W w') → Q e w') := fun e w' hh => by rw [← hQ]; exact hh
  clear hQ
  have c0 := blk_cell HBX.out (j := 0) rfl
  have c1 := blk_cell HBX.out (j := 1) rfl
  have c2 := blk_cell HBX.out (j := 2) rfl
  have c3 := blk_cell HBX.out (j := 3) rfl
  have c4 := blk_cell HBX.out (j := 4) rfl
  go_enter Try.func20, Try.ntmps20
  go_wp2_with fail
  refine Calls.mono (HCK.out _ HST.out) ?_
  rintro e2 w2 ⟨rfl, hb2⟩
  have HT2 : Hid (w2.heap[b]? = some (.cells (tbC true lim cnt T4 T6).toArray 76)) := blk_kept HST.out hb2
  have HX2 : Hid (w2.heap[W.heap.size]? = some (.cells [.int .u8 a0, .int .u8 a1, .int .u8 a2, .int .u8 a3, .int .i64 n].toArray 35)) := blk_kept HBX.out hb2
  have HB2 : Hid (Below W.heap.size W w2) := HB1.out.trans (hb2.mono HB1.out.size)
  clear hb2 HST HBX HB1 HCK hW c0 c1 c2 c3 c4
  go_wp2_with fail
  refine region_midT (fun aa a' w' => a' = (((((((((((((aa.put (some 15) (.pointer (some ⟨b, 0, none⟩))).put (some 16) (.pointer (some ⟨b, 0, none⟩))).put (some 17) (.pointer (some ⟨b, 0, none⟩))).put (some 18) (.pointer (some ⟨b, 3, none⟩))).put (some 19) (P4 a0 a1 a2 a3 n)).put (some 20) (KV k)).put (some 21) (.int .i64 v)).put (some 22) (LF k v)).put (some 23) (.tuple #[.bool false, .int .i64 0])).put (some 24) (.bool false)).put (some 25) (.int .i64 0)).put (some 6) (.bool false)).put (some 7) (.int .i64 0)) ∧ w'.heap[b]? = some (.cells (tbC true lim (cnt + 1) (T4.put k v) T6).toArray 76) ∧ w2.heap.size ≤ w'.heap.size ∧ (∀ B, B ≤ b → B ≤ w2.heap.size → Below B w2 w')) ?_ ?_
  · skip
    refine wp_region_held (S := fun X => X.heap[W.heap.size]? = some (.cells [.int .u8 a0, .int .u8 a1, .int .u8 a2, .int .u8 a3, .int .i64 n].toArray 35)) (by kernel_rfl) ?_
    show wpAnyH _ _ _ _ _ 13 (Array.replicate 13 false) _ _
    have hS0 : w2.drew.heap[W.heap.size]? = some (.cells [.int .u8 a0, .int .u8 a1, .int .u8 a2, .int .u8 a3, .int .i64 n].toArray 35) := HX2.out
    refine take_one (i := 0) (d := some 15) (v := .pointer (some ⟨b, 0, none⟩)) rfl rfl rfl (by kernel_rfl) (by kernel_rfl) (by kernel_rfl) (fun _ _ _ _ _ h => h.elim) (fun X hS => by kernel_rfl) hS0 ?_
    simp only [Act.put, List.setIfInBounds_toArray, List.set_cons_zero, List.set_cons_succ]
    refine take_one (i := 1) (d := some 16) (v := .pointer (some ⟨b, 0, none⟩)) rfl rfl rfl (by kernel_rfl) (by kernel_rfl) (by kernel_rfl) (fun _ _ _ _ _ h => h.elim) (fun X hS => by kernel_rfl) hS0 ?_
    simp only [Act.put, List.setIfInBounds_toArray, List.set_cons_zero, List.set_cons_succ]
    refine take_one (i := 2) (d := some 17) (v := .pointer (some ⟨b, 0, none⟩)) rfl rfl rfl (by kernel_rfl) (by kernel_rfl) (by kernel_rfl) (fun _ _ _ _ _ h => h.elim) (fun X hS => by kernel_rfl) hS0 ?_
    simp only [Act.put, List.setIfInBounds_toArray, List.set_cons_zero, List.set_cons_succ]
    refine take_one (i := 3) (d := some 18) (v := .pointer (some ⟨b, 3, none⟩)) rfl rfl rfl (by kernel_rfl) (by kernel_rfl) (by kernel_rfl) (fun _ _ _ _ _ h => h.elim) (fun X hS => by kernel_rfl) hS0 ?_
    simp only [Act.put, List.setIfInBounds_toArray, List.set_cons_zero, List.set_cons_succ]
    refine take_one (i := 4) (d := some 19) (v := P4 a0 a1 a2 a3 n) rfl rfl rfl (by kernel_rfl) (by kernel_rfl) (by kernel_rfl) (fun _ _ _ _ _ h => h.elim) (fun X hS => ex_loadA (.tmp 4) 35 rfl rfl (agg_load (n := 5) (fun w => by kernel_rfl) (fun w => by kernel_rfl) (by rfl) (CellsAt.of_blk hS))) hS0 ?_
    simp only [Act.put, List.setIfInBounds_toArray, List.set_cons_zero, List.set_cons_succ]
    refine take_one (i := 6) (d := some 21) (v := .int .i64 v) rfl rfl rfl (by kernel_rfl) (by kernel_rfl) (by kernel_rfl) (fun _ _ _ _ _ h => h.elim) (fun X hS => by kernel_rfl) hS0 ?_
    simp only [Act.put, List.setIfInBounds_toArray, List.set_cons_zero, List.set_cons_succ]
    refine all_one (i := 5) (by kernel_rfl) rfl rfl ?_
    refine wp_call (d := some 20) 43 _ rfl (by kernel_rfl) (callR (HKY.out _)) ?_
    rintro _ X1 ⟨rfl, hb1⟩
    have hS1 := blk_kept hS0 hb1
    have hT1 := blk_kept (show w2.drew.heap[b]? = _ from HT2.out) hb1
    refine ⟨hS1, ?_⟩
    simp only [Act.put, List.setIfInBounds_toArray, List.set_cons_zero, List.set_cons_succ]
    refine take_one (i := 7) (d := some 22) (v := LF k v) rfl rfl rfl (by kernel_rfl) (by kernel_rfl) (by kernel_rfl) (fun _ _ _ _ _ h => h.elim) (fun X hS => ex_buildA 85 [(0, .tmp 20), (1, .tmp 21)] rfl rfl (build_lfT k v X)) hS1 ?_
    simp only [Act.put, List.setIfInBounds_toArray, List.set_cons_zero, List.set_cons_succ]
    refine all_one (i := 8) (by kernel_rfl) rfl rfl ?_
    refine wp_call (d := some 23) 53 _ rfl (by kernel_rfl) (callR (HPT.out _ hT1)) ?_
    rintro _ X2 ⟨rfl, hT3, hz3, hbb3, hoo3⟩
    have hS3 := (hoo3 W.heap.size (Array.getElem?_eq_some_iff.1 hS1).1 (by have := HBN.out; omega)).trans hS1
    refine ⟨hS3, ?_⟩
    simp only [Act.put, List.setIfInBounds_toArray, List.set_cons_zero, List.set_cons_succ]
    refine take_one (i := 9) (d := some 24) (v := .bool false) rfl rfl rfl (by kernel_rfl) (by kernel_rfl) (by kernel_rfl) (fun _ _ _ _ _ h => h.elim) (fun X hS => by kernel_rfl) hS3 ?_
    simp only [Act.put, List.setIfInBounds_toArray, List.set_cons_zero, List.set_cons_succ]
    refine take_one (i := 10) (d := some 25) (v := .int .i64 0) rfl rfl rfl (by kernel_rfl) (by kernel_rfl) (by kernel_rfl) (fun _ _ _ _ _ h => h.elim) (fun X hS => by kernel_rfl) hS3 ?_
    simp only [Act.put, List.setIfInBounds_toArray, List.set_cons_zero, List.set_cons_succ]
    refine take_one (i := 11) (d := some 6) (v := .bool false) rfl rfl rfl (by kernel_rfl) (by kernel_rfl) (by kernel_rfl) (fun _ _ _ _ _ h => h.elim) (fun X hS => by kernel_rfl) hS3 ?_
    simp only [Act.put, List.setIfInBounds_toArray, List.set_cons_zero, List.set_cons_succ]
    refine take_one (i := 12) (d := some 7) (v := .int .i64 0) rfl rfl rfl (by kernel_rfl) (by kernel_rfl) (by kernel_rfl) (fun _ _ _ _ _ h => h.elim) (fun X hS => by kernel_rfl) hS3 ?_
    simp only [Act.put, List.setIfInBounds_toArray, List.set_cons_zero, List.set_cons_succ]
    refine wpAnyH_done (by kernel_rfl) ?_ _
    have hz1 : w2.heap.size ≤ X1.heap.size := hb1.size
    exact ⟨rfl, hT3, Nat.le_trans hz1 hz3, fun B hB hB2 => (((Below.refl w2.heap.size w2).drew.trans hb1).mono hB2).trans (hbb3 B hB (Nat.le_trans hB2 hz1))⟩
  · rintro a' w4 ⟨rfl, hT4, hz4, hb4⟩
    simp only [Act.put, List.setIfInBounds_toArray, List.set_cons_zero, List.set_cons_succ]
    have HF : Hid (Q (.returned (.tuple #[.bool false, .int .i64 0])) w4) := HQ.out _ _ ⟨rfl, hT4, Nat.le_trans HB2.out.size hz4, fun B hB hB2 => (HB2.out.mono hB2).trans (hb4 B hB (Nat.le_trans hB2 HB2.out.size))⟩
    clear hT4 hz4 hb4 HT2 HX2 HB2 HKY HPT HQ
    go_wp2
    try go_ret2
    exact HF.out
end Go.Proofs.Ytenahbdopgmpfaa

namespace Go.Proofs.Ytenahbdopgmpfaa
open Go Go.RowKit Go.Shelf
set_option linter.unusedVariables false
set_option linter.unusedSimpArgs false

def aK1 : Bs := bitsK [10] 8
def aK2 : Bs := bitsK [10, 1] 16
def aT1 : Tr := Tr.nil.put aK1 1
def aT2 : Tr := aT1.put aK2 2
theorem aK1_key : (.agg (cp6 ([10, 0, 0, 0] ++ List.replicate 12 0) 8).toArray : Value) = KV aK1 := by kernel_rfl
theorem aK2_key : (.agg (cp6 ([10, 1, 0, 0] ++ List.replicate 12 0) 16).toArray : Value) = KV aK2 := by kernel_rfl
theorem aT1_was : (getN (Tr.nil.walk (fun q => pre q aK1)) aK1).2 = false := by kernel_rfl
theorem aT2_was : (getN (aT1.walk (fun q => pre q aK2)) aK2).2 = false := by kernel_rfl
theorem aL1 : [(aK1, (1 : Int)), (aK2, 2)] = aT2.walk (fun k => pre k (bitsK ([10, 1, 2, 3] ++ List.replicate 12 0) 32)) := by kernel_rfl
theorem aL2 : [(aK1, (1 : Int))] = aT2.walk (fun k => pre k (bitsK ([10, 2, 0, 0] ++ List.replicate 12 0) 32)) := by kernel_rfl
theorem aL3 : ([] : List Ent) = aT2.walk (fun k => pre k (bitsK ([11, 0, 0, 0] ++ List.replicate 12 0) 32)) := by kernel_rfl
theorem aE1 : (.agg (enC ((lastE [(aK1, 1), (aK2, 2)]).1.take 4) (lastE [(aK1, 1), (aK2, 2)]).2.1 (lastE [(aK1, 1), (aK2, 2)]).2.2).toArray : Value) = .agg #[.int .u8 10, .int .u8 1, .int .u8 0, .int .u8 0, .int .i64 16, .int .i64 2] := by kernel_rfl
theorem aE2 : (.agg (enC ((lastE [(aK1, 1)]).1.take 4) (lastE [(aK1, 1)]).2.1 (lastE [(aK1, 1)]).2.2).toArray : Value) = .agg #[.int .u8 10, .int .u8 0, .int .u8 0, .int .u8 0, .int .i64 8, .int .i64 1] := by kernel_rfl
theorem aE3 : (.agg (enC ((lastE []).1.take 4) (lastE []).2.1 (lastE []).2.2).toArray : Value) = .agg #[.int .u8 0, .int .u8 0, .int .u8 0, .int .u8 0, .int .i64 0, .int .i64 0] := by kernel_rfl
theorem fit4T {a b c d : Int} (ha : 0 ≤ a ∧ a < 256) (hb : 0 ≤ b ∧ b < 256) (hc : 0 ≤ c ∧ c < 256) (hd : 0 ≤ d ∧ d < 256) : FitB [a, b, c, d] := fun z hz => by
  simp at hz
  rcases hz with rfl | rfl | rfl | rfl <;> assumption
set_option maxHeartbeats 1000000 in
theorem Len_made {W : World} {b : Nat} {mk : Bool} {lim cnt : Int} {T4 T6 : Tr} (h : W.heap[b]? = some (.cells (tbC mk lim cnt T4 T6).toArray 76)) : Calls Try.prog 30 #[.pointer (some ⟨b, 0, none⟩)] W fun e w' => e = .returned (.int .i64 cnt) ∧ w' = W := by
  have c2 : W.cell? ⟨b, 2, none⟩ = some (.int .i64 cnt) := blk_cell h rfl
  clear h
  go_enter Try.func30, Try.ntmps30
  go_wp2
  try go_ret
  exact ⟨rfl, rfl⟩
theorem setK_ok {f : Bs} {a b c x : Tr} (h : (Tr.fork f a b c).Ok) (hx : x.Ok) (j : Nat) : (Tr.setK f a b c j x).Ok := by
  obtain ⟨h0, h1, h2, h3⟩ := h
  unfold Tr.setK
  repeat' split
  all_goals exact ⟨h0, by assumption, by assumption, by assumption⟩
theorem parted_okT {n : Tr} (hn : n.Ok) {k : Bs} (hk : k.length ≤ 128) (v : Int) : (Tr.parted n k v).Ok := by
  unfold Tr.parted
  have h1 : (lcp n.top k).length ≤ 128 := Nat.le_trans (List.IsPrefix.length_le (lcp_snd n.top k)) hk
  have hs := setK_ok (f := lcp n.top k) (a := .nil) (b := .nil) (c := .nil) ⟨h1, trivial, trivial, trivial⟩ hn (Tr.sd (lcp n.top k) n.top)
  generalize Tr.setK (lcp n.top k) .nil .nil .nil (Tr.sd (lcp n.top k) n.top) n = s at hs ⊢
  cases s with
  | nil => exact trivial
  | leaf k' v' => exact hs
  | fork f a b c => exact setK_ok hs (x := .leaf k v) hk _
theorem put_okT {t : Tr} (h : t.Ok) {k : Bs} (hk : k.length ≤ 128) (v : Int) : (t.put k v).Ok := by
  induction t with
  | nil => exact hk
  | leaf k' v' =>
    unfold Tr.put
    split
    · exact hk
    · exact parted_okT h hk v
  | fork f a b c iha ihb ihc =>
    obtain ⟨h0, h1, h2, h3⟩ := h
    unfold Tr.put
    split
    · split
      · exact ⟨h0, iha h1, h2, h3⟩
      · split
        · exact ⟨h0, h1, ihb h2, h3⟩
        · exact ⟨h0, h1, h2, ihc h3⟩
    · exact parted_okT (n := .fork f a b c) ⟨h0, h1, h2, h3⟩ hk v
set_option maxHeartbeats 4000000 in
set_option maxRecDepth 100000 in
theorem awake_any (w : World) : Calls Try.prog 10 #[] w fun e w' => e = .returned (.bool true) ∧ Below w.heap.size w w' := by
  have hk1 : aK1.length ≤ 128 := by unfold aK1; rw [bitsK_length]; decide
  have hk2 : aK2.length ≤ 128 := by unfold aK2; rw [bitsK_length]; decide
  have ho0 : Tr.nil.Ok := trivial
  have ho1 : aT1.Ok := put_okT ho0 hk1 1
  have ho2 : aT2.Ok := put_okT ho1 hk2 2
  have HN : Hid _ := New_good 5 (by omega) w
  have HP1 : Hid (∀ X : World, X.heap[w.heap.size]? = some (.cells (tbC true 5 0 .nil .nil).toArray 76) → Calls Try.prog 20 #[.pointer (some ⟨w.heap.size, 0, none⟩), P4 10 0 0 0 8, .int .i64 1] X fun e w' => e = .returned (.tuple #[.bool false, .int .i64 0]) ∧ w'.heap[w.heap.size]? = some (.cells (tbC true 5 1 aT1 .nil).toArray 76) ∧ X.heap.size ≤ w'.heap.size ∧ (∀ B, B ≤ w.heap.size → B ≤ X.heap.size → Below B X w')) := fun X hX => Put4_new hX ho0 10 0 0 0 8 (by omega) (by omega) (by omega) (by omega) (by omega) (by kernel_rfl) aK1 hk1 aK1_key 1 aT1_was (by omega) (by omega)
  have HP2 : Hid (∀ X : World, X.heap[w.heap.size]? = some (.cells (tbC true 5 1 aT1 .nil).toArray 76) → Calls Try.prog 20 #[.pointer (some ⟨w.heap.size, 0, none⟩), P4 10 1 0 0 16, .int .i64 2] X fun e w' => e = .returned (.tuple #[.bool false, .int .i64 0]) ∧ w'.heap[w.heap.size]? = some (.cells (tbC true 5 2 aT2 .nil).toArray 76) ∧ X.heap.size ≤ w'.heap.size ∧ (∀ B, B ≤ w.heap.size → B ≤ X.heap.size → Below B X w')) := fun X hX => Put4_new hX ho1 10 1 0 0 16 (by omega) (by omega) (by omega) (by omega) (by omega) (by kernel_rfl) aK2 hk2 aK2_key 2 aT2_was (by omega) (by omega)
  have HA1 : Hid (∀ X : World, X.heap[w.heap.size]? = some (.cells (tbC true 5 2 aT2 .nil).toArray 76) → Calls Try.prog 14 #[.pointer (some ⟨w.heap.size, 0, none⟩), .agg #[.int .u8 10, .int .u8 1, .int .u8 2, .int .u8 3]] X fun e w' => e = .returned (.tuple #[.agg #[.int .u8 10, .int .u8 1, .int .u8 0, .int .u8 0, .int .i64 16, .int .i64 2], .bool true]) ∧ Below X.heap.size X w') := fun X hX => by
    have := Best4_any hX ho2 [10, 1, 2, 3] rfl (fit4T (by omega) (by omega) (by omega) (by omega)) _ aL1
    rw [aE1] at this
    exact this
  have HA2 : Hid (∀ X : World, X.heap[w.heap.size]? = some (.cells (tbC true 5 2 aT2 .nil).toArray 76) → Calls Try.prog 14 #[.pointer (some ⟨w.heap.size, 0, none⟩), .agg #[.int .u8 10, .int .u8 2, .int .u8 0, .int .u8 0]] X fun e w' => e = .returned (.tuple #[.agg #[.int .u8 10, .int .u8 0, .int .u8 0, .int .u8 0, .int .i64 8, .int .i64 1], .bool true]) ∧ Below X.heap.size X w') := fun X hX => by
    have := Best4_any hX ho2 [10, 2, 0, 0] rfl (fit4T (by omega) (by omega) (by omega) (by omega)) _ aL2
    rw [aE2] at this
    exact this
  have HA3 : Hid (∀ X : World, X.heap[w.heap.size]? = some (.cells (tbC true 5 2 aT2 .nil).toArray 76) → Calls Try.prog 14 #[.pointer (some ⟨w.heap.size, 0, none⟩), .agg #[.int .u8 11, .int .u8 0, .int .u8 0, .int .u8 0]] X fun e w' => e = .returned (.tuple #[.agg #[.int .u8 0, .int .u8 0, .int .u8 0, .int .u8 0, .int .i64 0, .int .i64 0], .bool false]) ∧ Below X.heap.size X w') := fun X hX => by
    have := Best4_any hX ho2 [11, 0, 0, 0] rfl (fit4T (by omega) (by omega) (by omega) (by omega)) _ aL3
    rw [aE3] at this
    exact this
  have HLN : Hid (∀ X : World, X.heap[w.heap.size]? = some (.cells (tbC true 5 2 aT2 .nil).toArray 76) → Calls Try.prog 30 #[.pointer (some ⟨w.heap.size, 0, none⟩)] X fun e w' => e = .returned (.int .i64 2) ∧ w' = X) := fun X hX => Len_made hX
  clear hk1 hk2 ho0 ho1 ho2
  generalize hB : w.heap.size = b at *
  have HBB : Hid (w.heap.size = b) := hB
  clear hB
  go_enter Try.func10, Try.ntmps10
  go_wp2_with fail
  refine Calls.mono HN.out ?_
  rintro e1 w1 ⟨rfl, hT1, hb1, hz1⟩
  have HC1 : Hid _ := HP1.out w1 hT1
  have HB1 : Hid (Below b w w1 ∧ b < w1.heap.size) := ⟨hb1, hz1⟩
  clear hT1 hb1 hz1 HN HP1
  go_wp2_with fail
  refine Calls.mono HC1.out ?_
  rintro e2 w2 ⟨rfl, hT2, hz2, hb2⟩
  have HC2 : Hid _ := HP2.out w2 hT2
  have HB2 : Hid (Below b w w2 ∧ b < w2.heap.size) := ⟨HB1.out.1.trans (hb2 b (Nat.le_refl _) (Nat.le_of_lt HB1.out.2)), Nat.lt_of_lt_of_le HB1.out.2 hz2⟩
  clear hT2 hz2 hb2 HC1 HP2 HB1
  go_wp2_with fail
  refine Calls.mono HC2.out ?_
  rintro e3 w3 ⟨rfl, hT3, hz3, hb3⟩
  have HC3 : Hid _ := HA1.out w3 hT3
  have HT3 : Hid (w3.heap[b]? = some (.cells (tbC true 5 2 aT2 .nil).toArray 76)) := hT3
  have HB3 : Hid (Below b w w3 ∧ b < w3.heap.size) := ⟨HB2.out.1.trans (hb3 b (Nat.le_refl _) (Nat.le_of_lt HB2.out.2)), Nat.lt_of_lt_of_le HB2.out.2 hz3⟩
  clear hT3 hz3 hb3 HC2 HB2 HA1
  go_wp2_with fail
  refine Calls.mono HC3.out ?_
  rintro e4 v4 ⟨rfl, hb4⟩
  obtain ⟨w4, hw4⟩ : ∃ x, x = v4.alloc (.cells #[.int .u8 10, .int .u8 1, .int .u8 0, .int .u8 0, .int .i64 16, .int .i64 2] 47) := ⟨_, rfl⟩
  have hbb4 : Below v4.heap.size v4 w4 := by rw [hw4]; exact (Below.refl v4.heap.size v4).alloc (Nat.le_refl _) _
  have hx4 : w4.heap[v4.heap.size]? = some (.cells ([.int .u8 10, .int .u8 1, .int .u8 0, .int .u8 0, .int .i64 16, .int .i64 2] : List Value).toArray 47) := by rw [hw4]; exact blk_new v4 _
  have hq4 := hb4.trans (hbb4.mono hb4.size)
  have HT4 : Hid (w4.heap[b]? = some (.cells (tbC true 5 2 aT2 .nil).toArray 76)) := blk_kept HT3.out hq4
  have HB4 : Hid (Below b w w4 ∧ b < w4.heap.size) := ⟨HB3.out.1.trans (hq4.mono (Nat.le_of_lt HB3.out.2)), Nat.lt_of_lt_of_le HB3.out.2 hq4.size⟩
  have HX4 : Hid (w4.heap[v4.heap.size]? = some (.cells ([.int .u8 10, .int .u8 1, .int .u8 0, .int .u8 0, .int .i64 16, .int .i64 2] : List Value).toArray 47)) := hx4
  have HC4 : Hid _ := HA2.out w4 HT4.out
  have hw' := hw4.symm
  clear hb4 hbb4 hx4 hq4 hw4 HC3 HT3 HB3
  clear HA2
  go_wp2_with fail
  clear hw'
  refine Calls.mono HC4.out ?_
  rintro e5 v5 ⟨rfl, hb5⟩
  obtain ⟨w5, hw5⟩ : ∃ x, x = v5.alloc (.cells #[.int .u8 10, .int .u8 0, .int .u8 0, .int .u8 0, .int .i64 8, .int .i64 1] 47) := ⟨_, rfl⟩
  have hbb5 : Below v5.heap.size v5 w5 := by rw [hw5]; exact (Below.refl v5.heap.size v5).alloc (Nat.le_refl _) _
  have hx5 : w5.heap[v5.heap.size]? = some (.cells ([.int .u8 10, .int .u8 0, .int .u8 0, .int .u8 0, .int .i64 8, .int .i64 1] : List Value).toArray 47) := by rw [hw5]; exact blk_new v5 _
  have hq5 := hb5.trans (hbb5.mono hb5.size)
  have HT5 : Hid (w5.heap[b]? = some (.cells (tbC true 5 2 aT2 .nil).toArray 76)) := blk_kept HT4.out hq5
  have HB5 : Hid (Below b w w5 ∧ b < w5.heap.size) := ⟨HB4.out.1.trans (hq5.mono (Nat.le_of_lt HB4.out.2)), Nat.lt_of_lt_of_le HB4.out.2 hq5.size⟩
  have HX5 : Hid (w5.heap[v5.heap.size]? = some (.cells ([.int .u8 10, .int .u8 0, .int .u8 0, .int .u8 0, .int .i64 8, .int .i64 1] : List Value).toArray 47)) := hx5
  have HX4 : Hid (w5.heap[v4.heap.size]? = some (.cells ([.int .u8 10, .int .u8 1, .int .u8 0, .int .u8 0, .int .i64 16, .int .i64 2] : List Value).toArray 47)) := blk_kept HX4.out hq5
  have HC5 : Hid _ := HA3.out w5 HT5.out
  have hw' := hw5.symm
  clear hb5 hbb5 hx5 hq5 hw5 HC4 HT4 HB4
  clear HA3
  go_wp2_with fail
  clear hw'
  refine Calls.mono HC5.out ?_
  rintro e6 v6 ⟨rfl, hb6⟩
  obtain ⟨w6, hw6⟩ : ∃ x, x = v6.alloc (.cells #[.int .u8 0, .int .u8 0, .int .u8 0, .int .u8 0, .int .i64 0, .int .i64 0] 47) := ⟨_, rfl⟩
  have hbb6 : Below v6.heap.size v6 w6 := by rw [hw6]; exact (Below.refl v6.heap.size v6).alloc (Nat.le_refl _) _
  have hx6 : w6.heap[v6.heap.size]? = some (.cells ([.int .u8 0, .int .u8 0, .int .u8 0, .int .u8 0, .int .i64 0, .int .i64 0] : List Value).toArray 47) := by rw [hw6]; exact blk_new v6 _
  have hq6 := hb6.trans (hbb6.mono hb6.size)
  have HT6 : Hid (w6.heap[b]? = some (.cells (tbC true 5 2 aT2 .nil).toArray 76)) := blk_kept HT5.out hq6
  have HB6 : Hid (Below b w w6 ∧ b < w6.heap.size) := ⟨HB5.out.1.trans (hq6.mono (Nat.le_of_lt HB5.out.2)), Nat.lt_of_lt_of_le HB5.out.2 hq6.size⟩
  have HX6 : Hid (w6.heap[v6.heap.size]? = some (.cells ([.int .u8 0, .int .u8 0, .int .u8 0, .int .u8 0, .int .i64 0, .int .i64 0] : List Value).toArray 47)) := hx6
  have HX4v : Hid _ := HX4.out
  have HX5v : Hid _ := HX5.out
  have HX4 : Hid (w6.heap[v4.heap.size]? = some (.cells ([.int .u8 10, .int .u8 1, .int .u8 0, .int .u8 0, .int .i64 16, .int .i64 2] : List Value).toArray 47)) := blk_kept HX4.out hq6
  have HX5 : Hid (w6.heap[v5.heap.size]? = some (.cells ([.int .u8 10, .int .u8 0, .int .u8 0, .int .u8 0, .int .i64 8, .int .i64 1] : List Value).toArray 47)) := blk_kept HX5.out hq6
  obtain ⟨w7, hst7, hx7, ho7⟩ := box_store (ty := 47) (n := 6) (fun w => by kernel_rfl) hx6 (by rfl) [.int .u8 0, .int .u8 0, .int .u8 0, .int .u8 0, .int .i64 0, .int .i64 0] (by rfl) (by intro v hv; simp at hv; rcases hv with rfl | rfl | rfl | rfl | rfl | rfl <;> rfl)
  have HST7 : Hid _ := hst7
  have hl6 : v6.heap.size < w6.heap.size := (Array.getElem?_eq_some_iff.1 hx6).1
  have hne : b ≠ v6.heap.size := by have h1 := HB5.out.2; have h2 := hb6.size; omega
  have hne4 : v4.heap.size ≠ v6.heap.size := by have h1 := (Array.getElem?_eq_some_iff.1 HX4v.out).1; have h2 := hb6.size; omega
  have hne5 : v5.heap.size ≠ v6.heap.size := by have h1 := (Array.getElem?_eq_some_iff.1 HX5v.out).1; have h2 := hb6.size; omega
  have HT7 : Hid (w7.heap[b]? = some (.cells (tbC true 5 2 aT2 .nil).toArray 76)) := (ho7.other b hne).trans HT6.out
  have HX4b := (ho7.other _ hne4).trans HX4.out
  have HX5b := (ho7.other _ hne5).trans HX5.out
  have HB7 : Hid (Below b w w7) := HB6.out.1.trans (ho7.below (by have := HB5.out.2; have h2 := hb6.size; omega))
  have c4 : w7.cell? ⟨v4.heap.size, 5, none⟩ = some (.int .i64 2) := blk_cell HX4b rfl
  have c5 : w7.cell? ⟨v5.heap.size, 5, none⟩ = some (.int .i64 1) := blk_cell HX5b rfl
  have HL : Hid _ := HLN.out w7 HT7.out
  clear hst7 hx7 ho7 HX4b HX5b hl6 hne hne4 hne5 HX4v HX5v
  have hw' := hw6.symm
  clear hb6 hbb6 hx6 hq6 hw6 HC5 HT5 HB5
  go_wp2_with ((with_reducible show wpList _ _ _ ({ dst := _, op := Op.store 47 (Operand.tmp 7) _, type := _, pos := _, after := _, guard := _ } :: _) _ _); refine armS (.tmp 7) (.tmp 43) 47 rfl rfl rfl rfl HST7.out ?_; try simp only [Act.put])
  refine Calls.mono HL.out ?_
  rintro e7 w8 ⟨rfl, hw7⟩
  obtain rfl := hw7.symm
  clear hw7
  go_wp2
  go_ret
  exact ⟨rfl, HB7.out⟩
end Go.Proofs.Ytenahbdopgmpfaa
