/-
  slices.Insert in the middle of a row of pointers.
  slices.Insert where the row must grow; slices.Insert at any place.
-/
import Derived.Test.YtgndiblonhgihaaFold24
import Derived.Shelf.Spec.SlicesInsertGrow
import Derived.Lib.Overlaps
import Derived.Lib.AppendZerosOnto
import Derived.Laws.IdiomCopy
import Derived.Laws.NewBlocks
namespace Go.Proofs.Ytgndiblonhgihaa
open Go Go.RowKit Go.Lib
set_option linter.unusedVariables false
set_option linter.unusedSimpArgs false

theorem szP (w : World) : (Go.sizeOf 74).run Try.prog w = .ok 1 w := by kernel_rfl
theorem ovl_no (w : World) {vb b o lb cb : Nat} {tA tB : TypeId} {kB : Nat} (hne : vb ≠ b) (hsa : w.shape? vb = some (tA, 1)) (hsb : w.shape? b = some (tB, kB)) (hkB : kB ≠ 0) (hfa : ∀ j, w.frozen? ⟨vb, j, none⟩ = false) :
    (callFunc 47 #[.slice (some ⟨vb, 0, none⟩) 1 1, .slice (some ⟨b, o, none⟩) lb cb]).run Try.prog w = .ok (.value (.bool false)) w := by
  rw [run_callFunc_extern Try.func47 (by kernel_rfl) (by kernel_rfl) (by kernel_rfl) (e := Extern.SlicesOverlaps.overlaps #[62, 62] #[4]) (by kernel_rfl),
    Lib.run_overlaps_apart w 62 4 74 Try.underlying62 1 szP ⟨vb, 0, none⟩ ⟨b, o, none⟩ 1 1 lb cb hne tA tB 1 kB hsa hsb hkB (hfa 0) (hfa 1)]
  rfl
set_option maxHeartbeats 8000000 in
set_option maxRecDepth 100000 in
theorem insert_shift (b n c i vb : Nat) (cs : List Value) (p : Value) (w : World) (hi : i < n) (hroom : n + 1 ≤ c) (hc63 : c ≤ 9223372036854775807) (hvb : vb ≠ b)
    (hcl : cs.length = n) (hcs : ∀ j v, cs[j]? = some v → w.cell? ⟨b, j, none⟩ = some v) (hsp : ∀ j, j < n + 1 → (w.cell? ⟨b, j, none⟩).isSome = true) (hfz : ∀ j, w.frozen? ⟨b, j, none⟩ = false)
    (hvs : w.heap[vb]? = some (.cells [p].toArray 74)) (h1c : ∀ v ∈ cs, v.oneCell' = true) (h1v : p.oneCell' = true)
    (tB : TypeId) (kB : Nat) (hsb : w.shape? b = some (tB, kB)) (hkB : kB ≠ 0) :
    Calls Try.prog 41 #[.slice (some ⟨b, 0, none⟩) n c, .int .i64 i, .slice (some ⟨vb, 0, none⟩) 1 1] w fun e w' =>
      e = .returned (.slice (some ⟨b, 0, none⟩) (n + 1) c) ∧ w' = (w.drew.setCells b (i + 1) (cs.drop i)).setCells b i [p] := by
  have u1 := run_underlying Try.underlying62
  have hz2 : ¬ ((i : Int) = (n : Int)) := by omega
  have hsz : (Try.prog.info? 74).map (·.size) = some 1 := by kernel_rfl
  have hsa : w.shape? vb = some (74, 1) := by simp [World.shape?, hvs]
  have hfa : ∀ j, w.frozen? ⟨vb, j, none⟩ = false := fun j => blk_open hvs j
  have hov : ∀ lb cb, (callFunc 47 #[.slice (some ⟨vb, 0, none⟩) 1 1, .slice (some ⟨b, i + 1, none⟩) lb cb]).run Try.prog w = .ok (.value (.bool false)) w := fun lb cb =>
    ovl_no w hvb hsa hsb hkB hfa
  have hdl : (cs.drop i).length = n - i := by rw [List.length_drop, hcl]
  have hw1 : IntKind.i64.wrap ((i : Int) + 1) = (i : Int) + 1 := by rw [IntKind.wrap_i64]; omega
  have hb1 : (0 : Int) ≤ (i : Int) + 1 := by omega
  have hin : i ≤ n := by omega
  have htn : ((i : Int) + 1).toNat = i + 1 := by omega
  have hb2 : ¬ (c = i + 1) := by omega
  have hb3 : (i : Int) ≤ (n : Int) + 1 := by omega
  have hb4 : ¬ (c = i) := by omega
  have hcp1 : ∀ ty dc sc, (Builtin.copy_ #[62, 62] ty #[.slice (some ⟨b, i + 1, none⟩) (n - i) dc, .slice (some ⟨b, i, none⟩) (n + 1 - i) sc]).run Try.prog w.drew = .ok (goInt (cs.drop i).length) (w.drew.setCells b (i + 1) (cs.drop i)) := fun ty dc sc =>
    run_copy_cells w.drew _ _ ty 74 b (i + 1) (n - i) dc ⟨b, i, none⟩ (n + 1 - i) sc (cs.drop i) Try.underlying62 hsz (by rw [hdl]; simp only [Nat.min_def]; split <;> omega)
      (fun j v hj => by rw [Addr.add_lit]; exact hcs (i + j) v (by rwa [List.getElem?_drop] at hj))
      (fun j hj => hsp _ (by omega)) (fun j hj => hfz _) (fun v hv => h1c v (List.mem_of_mem_drop hv))
  obtain ⟨W1, hW1⟩ : ∃ W1, W1 = w.drew.setCells b (i + 1) (cs.drop i) := ⟨_, rfl⟩
  have hsp1 : ∀ k, k < n + 1 → (W1.cell? ⟨b, k, none⟩).isSome = true := fun k hk => by
    rw [hW1]
    exact isSome_setCells b (cs.drop i) (i + 1) w.drew (fun j hj => hsp (i + 1 + j) (by omega)) k (hsp k hk)
  have hcp2 : ∀ (W : World), (∀ x, W.cell? x = W1.cell? x) → (∀ x, W.frozen? x = W1.frozen? x) → ∀ ty dc, (Builtin.copy_ #[62, 62] ty #[.slice (some ⟨b, i, none⟩) (n + 1 - i) dc, .slice (some ⟨vb, 0, none⟩) 1 1]).run Try.prog W = .ok (goInt [p].length) (W.setCells b i [p]) := fun W hWc hWf ty dc =>
    run_copy_cells W _ _ ty 74 b i (n + 1 - i) dc ⟨vb, 0, none⟩ 1 1 [p] Try.underlying62 hsz (by simp only [List.length_singleton, Nat.min_def]; split <;> omega)
      (fun j v hj => by
        rw [Addr.add_lit, hWc, hW1, World.cell?_setCells_out b _ _ _ _ (fun h _ => absurd h hvb), Nat.zero_add]
        exact blk_cell (w := w.drew) (c := [p]) hvs hj)
      (fun j hj => by rw [hWc]; exact hsp1 _ (by simp at hj; omega)) (fun j hj => by rw [hWf, hW1, World.frozen?_setCells]; exact hfz _) (fun v hv => by simp at hv; rw [hv]; exact h1v)
  rw [← hW1] at hcp1
  have mixed : Try.prog.follows .mixedOrders = true := by kernel_rfl
  go_enter Try.func41, Try.ntmps41
  go_wp2_with (simp only [hov])
  go_region_law_o (refine step_copy_runI rfl _ _ 62 62 rfl _ _ (by simp [Act.eval, Act.put]) (by simp [Act.eval, Act.put]) (hcp1 _ _ _) ?_)
  go_wp2_with (at_builtin; refine wpList_copy_runI _ rfl _ _ 62 62 rfl _ _ rfl rfl (hcp2 _ (fun _ => rfl) (fun _ => rfl) _ _) ?_)
  go_ret
  first | exact ⟨rfl, rfl⟩ | exact ⟨rfl, by rw [hW1]⟩
end Go.Proofs.Ytgndiblonhgihaa

namespace Go.Proofs.Ytgndiblonhgihaa
open Go Go.RowKit Go.Lib
set_option linter.unusedVariables false
set_option linter.unusedSimpArgs false

set_option maxHeartbeats 8000000 in
set_option maxRecDepth 100000 in
theorem insert_grow (b n c i vb : Nat) (cs : List Value) (p : Value) (w : World) (hi : i < n) (hnc : n ≤ c) (hroom : c < n + 1) (hbig : n ≤ 1000000)
    (hcl : cs.length = n) (hcs : ∀ j v, cs[j]? = some v → w.cell? ⟨b, j, none⟩ = some v)
    (hvs : w.heap[vb]? = some (.cells [p].toArray 74)) (h1c : ∀ v ∈ cs, v.oneCell' = true) (h1v : p.oneCell' = true) :
    Calls Try.prog 41 #[.slice (some ⟨b, 0, none⟩) n c, .int .i64 i, .slice (some ⟨vb, 0, none⟩) 1 1] w fun e w' =>
      e = .returned (.slice (some ⟨w.heap.size, 0, none⟩) (n + 1) (grownCap w (n + 1) c 74)) ∧
      w' = (((w.alloc (.cells ((cs.take i).toArray ++ Builtin.zeroCells (Value.pointer none).cells (n + 1 - i) ++ Builtin.zeroCells (Value.pointer none).cells (grownCap w (n + 1) c 74 - (n + 1))) 74)).drew.setCells w.heap.size i [p]).drew).setCells w.heap.size (i + 1) (cs.drop i) := by
  have u1 := run_underlying Try.underlying62
  obtain ⟨i0, hi0, hz0, hzs, hzb⟩ := infoP8
  have hz2 : ¬ ((i : Int) = (n : Int)) := by omega
  have hz3 : (c : Int) < (n : Int) + 1 := by omega
  have hsz : (Try.prog.info? 74).map (·.size) = some 1 := by rw [hi0]; simp [hzs]
  have hbw : b < w.heap.size := World.block_lt_of_cell? w _ (hcs 0 _ (List.getElem?_eq_getElem (by omega)))
  have hvw : vb < w.heap.size := (Array.getElem?_eq_some_iff.1 hvs).1
  have hkk : (n : Int) + 1 - (i : Int) = ((n + 1 - i : Nat) : Int) := by omega
  have hik : i + (n + 1 - i) = n + 1 := by omega
  have hold : (Builtin.firstCells i0.size i (.slice (some ⟨b, 0, none⟩) i c)).run Try.prog w.drew = .ok (cs.take i).toArray w.drew := by
    rw [hzs]
    exact run_firstCells_some w.drew 1 i ⟨b, 0, none⟩ i c (cs.take i) (by rw [List.length_take]; omega) (fun j v hj => by
      rw [Addr.add_lit, Nat.zero_add]
      rw [List.getElem?_take] at hj
      split at hj
      · exact hcs j v hj
      · cases hj)
  have hrz : ∀ ty, (Builtin.append_ #[62, 3] ty #[.slice (some ⟨b, 0, none⟩) i c, .int .i64 ((n : Int) + 1 - (i : Int))]).run Try.prog w =
      .ok (.slice (some ⟨w.heap.size, 0, none⟩) (n + 1) (grownCap w (n + 1) c 74)) (w.drew.alloc (.cells ((cs.take i).toArray ++ Builtin.zeroCells (Value.pointer none).cells (n + 1 - i) ++ Builtin.zeroCells (Value.pointer none).cells (grownCap w (n + 1) c 74 - (n + 1))) 74)) := fun ty => by
    have h := Lib.run_append_grow_zeros w 62 3 ty 74 i0 _ .i64 .i64 Try.underlying62 Try.underlying3 hi0 hz0 (some ⟨b, 0, none⟩) i c (cs.take i) hold (n + 1 - i) (by omega) (by omega) (by omega) (by omega) (by rw [hzb]; omega) (by rw [hzb, hik]; exact growslice_fits hroom (by omega))
    rw [hik] at h
    rw [hkk]
    exact h
  obtain ⟨G, hG⟩ : ∃ G, G = grownCap w (n + 1) c 74 := ⟨_, rfl⟩
  rw [← hG] at hrz ⊢
  obtain ⟨ROW, hROW⟩ : ∃ ROW : Array Value, ROW = (cs.take i).toArray ++ Builtin.zeroCells (Value.pointer none).cells (n + 1 - i) ++ Builtin.zeroCells (Value.pointer none).cells (G - (n + 1)) := ⟨_, rfl⟩
  rw [← hROW] at hrz ⊢
  have hRl : n + 1 ≤ ROW.size := by
    rw [hROW]
    simp [Builtin.zeroCells, Value.cells]
    omega
  obtain ⟨W1, hW1⟩ : ∃ W1, W1 = w.drew.alloc (.cells ROW 74) := ⟨_, rfl⟩
  rw [← hW1] at hrz
  have hN : ∀ j, j < n + 1 → (W1.cell? ⟨w.heap.size, j, none⟩).isSome = true := fun j hj => by
    rw [hW1, World.cell?_alloc_at (w := w.drew) ROW _ w.heap.size j rfl, Array.getElem?_eq_getElem (by omega)]; rfl
  have hNf : ∀ j, W1.frozen? ⟨w.heap.size, j, none⟩ = false := fun j => by rw [hW1]; exact World.frozen?_alloc_at (w := w.drew) ROW _ w.heap.size j rfl
  have hOb : ∀ j v, w.cell? ⟨b, j, none⟩ = some v → W1.cell? ⟨b, j, none⟩ = some v := fun j v h => by rw [hW1, World.cell?_alloc_past (w := w.drew) _ b j hbw]; exact h
  have hOv : ∀ j v, w.cell? ⟨vb, j, none⟩ = some v → W1.cell? ⟨vb, j, none⟩ = some v := fun j v h => by rw [hW1, World.cell?_alloc_past (w := w.drew) _ vb j hvw]; exact h
  have hcpA : ∀ (W : World), (∀ x, W.cell? x = W1.cell? x) → (∀ x, W.frozen? x = W1.frozen? x) → ∀ ty dc, (Builtin.copy_ #[62, 62] ty #[.slice (some ⟨w.heap.size, i, none⟩) (n + 1 - i) dc, .slice (some ⟨vb, 0, none⟩) 1 1]).run Try.prog W = .ok (goInt [p].length) (W.setCells w.heap.size i [p]) := fun W hWc hWf ty dc =>
    run_copy_cells W _ _ ty 74 w.heap.size i (n + 1 - i) dc ⟨vb, 0, none⟩ 1 1 [p] Try.underlying62 hsz (by simp only [List.length_singleton, Nat.min_def]; split <;> omega)
      (fun j v hj => by rw [Addr.add_lit, hWc, Nat.zero_add]; exact hOv _ v (blk_cell (c := [p]) hvs hj))
      (fun j hj => by rw [hWc]; exact hN _ (by simp at hj; omega)) (fun j hj => by rw [hWf]; exact hNf _) (fun v hv => by simp at hv; rw [hv]; exact h1v)
  have hGn : n + 1 ≤ G := by rw [hG]; exact grownCap_ge w _ _ _
  have hG63 : G ≤ 9223372036854775807 := by
    have := grownCap_le_maxLen w (n + 1) c 74 (by unfold maxLen; omega)
    rw [← hG] at this
    unfold maxLen at this
    omega
  have hGi : ¬ (G = i) := by omega
  have hGim : ¬ (G = i + 1) := by omega
  have hci : ¬ (c = i) := by omega
  have hbN : b ≠ w.heap.size := by omega
  have hdl : (cs.drop i).length = n - i := by rw [List.length_drop, hcl]
  have hcpB : ∀ (W : World), (∀ x, W.cell? x = (W1.setCells w.heap.size i [p]).cell? x) → (∀ x, W.frozen? x = (W1.setCells w.heap.size i [p]).frozen? x) → ∀ ty dc sc, (Builtin.copy_ #[62, 62] ty #[.slice (some ⟨w.heap.size, i + 1, none⟩) (n - i) dc, .slice (some ⟨b, i, none⟩) (n - i) sc]).run Try.prog W = .ok (goInt (cs.drop i).length) (W.setCells w.heap.size (i + 1) (cs.drop i)) := fun W hWc hWf ty dc sc =>
    run_copy_cells W _ _ ty 74 w.heap.size (i + 1) (n - i) dc ⟨b, i, none⟩ (n - i) sc (cs.drop i) Try.underlying62 hsz (by rw [hdl]; simp only [Nat.min_def]; split <;> omega)
      (fun j v hj => by
        rw [Addr.add_lit, hWc, World.cell?_setCells_out _ _ _ _ _ (fun h _ => absurd h hbN)]
        exact hOb _ v (hcs (i + j) v (by rwa [List.getElem?_drop] at hj)))
      (fun j hj => by rw [hWc]; exact isSome_setCells w.heap.size [p] i W1 (fun t ht => hN _ (by simp at ht; omega)) (i + 1 + j) (hN _ (by omega)))
      (fun j hj => by rw [hWf, World.frozen?_setCells]; exact hNf _) (fun v hv => h1c v (List.mem_of_mem_drop hv))
  subst hW1
  have hE1 : ∀ x, ((w.alloc (.cells ROW 74)).drew).cell? x = (w.drew.alloc (.cells ROW 74)).cell? x := fun x => rfl
  have hE2 : ∀ x, ((w.alloc (.cells ROW 74)).drew).frozen? x = (w.drew.alloc (.cells ROW 74)).frozen? x := fun x => rfl
  have hF1 : ∀ x, (((w.alloc (.cells ROW 74)).drew.setCells w.heap.size i [p]).drew).cell? x = ((w.drew.alloc (.cells ROW 74)).setCells w.heap.size i [p]).cell? x := fun x => rfl
  have hF2 : ∀ x, (((w.alloc (.cells ROW 74)).drew.setCells w.heap.size i [p]).drew).frozen? x = ((w.drew.alloc (.cells ROW 74)).setCells w.heap.size i [p]).frozen? x := fun x => rfl
  have hw1 : IntKind.i64.wrap ((i : Int) + 1) = (i : Int) + 1 := by rw [IntKind.wrap_i64]; omega
  have hb1 : (0 : Int) ≤ (i : Int) + 1 := by omega
  have hin : i ≤ n := by omega
  have htn : ((i : Int) + 1).toNat = i + 1 := by omega
  have hb3 : (i : Int) ≤ (n : Int) := by omega
  have mixed : Try.prog.follows .mixedOrders = true := by kernel_rfl
  clear hkk hik hold hROW hG hRl
  go_enter Try.func41, Try.ntmps41
  go_wp2_with (first
    | (at_builtin; refine Lib.wpList_append_run _ rfl _ _ _ _ rfl _ _ rfl rfl _ _ (hrz _) ?_)
    | (at_builtin; refine wpList_copy_runI _ rfl _ _ 62 62 rfl _ _ rfl rfl (hcpA _ hE1 hE2 _ _) ?_)
    | (at_builtin; refine wpList_copy_runI _ rfl _ _ 62 62 rfl _ _ rfl rfl (hcpB _ (fun _ => rfl) (fun _ => rfl) _ _ _) ?_))
  go_region_law_o (refine step_copy_runI rfl _ _ 62 62 rfl (.slice (some ⟨w.heap.size, i + 1, none⟩) (n - i) (G - (i + 1))) (.slice (some ⟨b, i, none⟩) (n - i) (c - i)) (by simp [Act.eval, Act.put]) (by simp [Act.eval, Act.put]) (hcpB _ hF1 hF2 3 (G - (i + 1)) (c - i)) ?_)
  go_wp2
  go_ret
  exact ⟨rfl, rfl⟩
theorem only_drew {b : Nat} (w : World) : Only b w w.drew := ⟨rfl, rfl, rfl, rfl, fun _ _ => rfl⟩
/-- slices.Insert at any place. -/
theorem insK_any {n k : Nat} (hk : k ≤ n) (hn : n ≤ 1000000) : InsK n k := by
  by_cases c : k = n
  · subst c
    exact insK_end hn
  intro W v xs vb p h hp hb hne hone
  have hxl : xs.length = n := by have := h.1; omega
  rcases id h.2 with ⟨_, h0⟩ | ⟨g, cap, cur, rfl, h1, h2, h3, h4, h5, h6⟩
  · omega
  have hvb : vb ≠ g := fun e => hne (by rw [e]; rfl)
  have hcs : ∀ j u, xs[j]? = some u → W.cell? ⟨g, j, none⟩ = some u := fun j u hj => by
    have := h.cells (g := g) rfl j u hj
    rw [Go.WideShapes.add_plain] at this
    simpa using this
  have h2' : W.heap[g]? = some (.cells cur.toList.toArray 74) := by rw [h2]
  have hcl : cur.toList.length = cap := by simp; omega
  have h6' : cur.toList.take n = xs := by rw [← h6, Nat.mul_one]
  generalize cur.toList = L0 at *
  clear h2 h5 h6
  have hxd : (xs.drop k).length = n - k := by simp; omega
  by_cases hr : n + 1 ≤ cap
  · refine (insert_shift g n cap k vb xs p W (by omega) hr (by unfold maxLen at h4; omega) hvb hxl hcs (fun j hj => ?_) (fun j => blk_open h2' j) hb hone hp 74 cap (by simp [World.shape?, h2', hcl]) (by omega)).mono ?_
    · rw [blk_cell h2' (List.getElem?_eq_getElem (by omega))]; rfl
    · rintro e w' ⟨rfl, rfl⟩
      have o1 : Only g W ((W.drew.setCells g (k + 1) (xs.drop k)).setCells g k [p]) := Only.sets _ _ _ (Only.sets _ _ _ (only_drew W))
      have b1 : ((W.drew.setCells g (k + 1) (xs.drop k)).setCells g k [p]).heap[g]? = some (.cells (setsL (setsL L0 (k + 1) (xs.drop k)) k [p]).toArray 74) := blk_sets _ _ _ _ (blk_sets _ _ _ _ h2')
      have l1 : (L0.take (k + 1)).length = k + 1 := by simp; omega
      have e1 : setsL L0 (k + 1) (xs.drop k) = L0.take (k + 1) ++ (xs.drop k ++ L0.drop (n + 1)) := by
        rw [setsL_eq _ _ _ (by omega), hxd, show k + 1 + (n - k) = n + 1 by omega, List.append_assoc]
      have t1 : (L0.take (k + 1) ++ (xs.drop k ++ L0.drop (n + 1))).take k = L0.take k := by
        rw [List.take_append_of_le_length (by omega), List.take_take, Nat.min_eq_left (by omega)]
      have t2 : (L0.take (k + 1) ++ (xs.drop k ++ L0.drop (n + 1))).drop (k + 1) = xs.drop k ++ L0.drop (n + 1) := List.drop_left' l1
      have e2 : setsL (setsL L0 (k + 1) (xs.drop k)) k [p] = L0.take k ++ (p :: xs.drop k) ++ L0.drop (n + 1) := by
        rw [e1, setsL_eq _ _ _ (by simp; omega), t1, show k + [p].length = k + 1 from rfl, t2]
        simp
      have e3 : xs.take k = L0.take k := by rw [← h6', List.take_take, Nat.min_eq_left (by omega)]
      rw [e2] at b1
      refine ⟨_, rfl, ⟨?_, .inr ⟨g, cap, _, rfl, h1, b1, hr, h4, ?_, ?_⟩⟩, .inl rfl, o1.os, o1.tape, o1.output, by rw [o1.size]; exact Nat.le_refl _, fun j hj hn' => o1.other j (fun e => hn' (by rw [e]; rfl))⟩
      · simp; omega
      · simp; omega
      · rw [e3]
        simp only [Nat.mul_one]
        rw [List.take_left' (by simp; omega)]
  · refine (insert_grow g n cap k vb xs p W (by omega) h3 (by omega) hn hxl hcs hb hone hp).mono ?_
    rintro e w' ⟨rfl, rfl⟩
    have hG := grownCap_ge W (n + 1) cap 74
    have hGm := grownCap_le_maxLen W (n + 1) cap 74 (by unfold maxLen; omega)
    generalize grownCap W (n + 1) cap 74 = G at *
    obtain ⟨R0, hR0⟩ : ∃ R0 : List Value, R0 = xs.take k ++ (List.replicate (n + 1 - k) (Value.pointer none) ++ List.replicate (G - (n + 1)) (Value.pointer none)) := ⟨_, rfl⟩
    have hzc : ∀ m, (Builtin.zeroCells (Value.pointer none).cells m).toList = List.replicate m (Value.pointer none) := fun m => by
      refine List.ext_getElem? fun j => ?_
      by_cases cj : j < m
      · simp [Builtin.zeroCells, Value.cells, cj, Nat.mod_one]
      · rw [List.getElem?_eq_none (by simp [Builtin.zeroCells, Value.cells]; omega), List.getElem?_eq_none (by simp; omega)]
    have hR : ((xs.take k).toArray ++ Builtin.zeroCells (Value.pointer none).cells (n + 1 - k) ++ Builtin.zeroCells (Value.pointer none).cells (G - (n + 1))) = R0.toArray := by
      rw [hR0]
      apply Array.ext'
      simp only [Array.toList_append, hzc, List.append_assoc]
    rw [hR]
    have hRl : R0.length = G := by rw [hR0]; simp; omega
    have bn : (W.alloc (.cells R0.toArray 74)).drew.heap[W.heap.size]? = some (.cells R0.toArray 74) := blk_new W _
    have B1 : Below W.heap.size W (W.alloc (.cells R0.toArray 74)).drew := ((Below.refl W.heap.size W).alloc (Nat.le_refl _) _).drew
    have o1 : Only W.heap.size (W.alloc (.cells R0.toArray 74)).drew (((((W.alloc (.cells R0.toArray 74)).drew.setCells W.heap.size k [p]).drew).setCells W.heap.size (k + 1) (xs.drop k))) := Only.sets _ _ _ ((Only.sets _ _ _ (Only.refl _ _)).trans (only_drew _))
    have b1 : ((((W.alloc (.cells R0.toArray 74)).drew.setCells W.heap.size k [p]).drew).setCells W.heap.size (k + 1) (xs.drop k)).heap[W.heap.size]? = some (.cells (setsL (setsL R0 k [p]) (k + 1) (xs.drop k)).toArray 74) := blk_sets _ _ _ _ (show ((((W.alloc (.cells R0.toArray 74)).drew.setCells W.heap.size k [p]).drew).heap[W.heap.size]? = _) from blk_sets _ _ _ _ bn)
    have e1 : setsL R0 k [p] = R0.take k ++ [p] ++ R0.drop (k + 1) := by rw [setsL_eq _ _ _ (by simp; omega)]; rfl
    have e3 : R0.take k = xs.take k := by rw [hR0, List.take_left' (by simp; omega)]
    have l1 : (xs.take k ++ [p]).length = k + 1 := by simp; omega
    have t1 : ((xs.take k ++ [p]) ++ R0.drop (k + 1)).take (k + 1) = xs.take k ++ [p] := List.take_left' l1
    have t2 : ((xs.take k ++ [p]) ++ R0.drop (k + 1)).drop (n + 1) = R0.drop (n + 1) := by
      rw [List.drop_append, List.drop_eq_nil_of_le (by rw [l1]; omega), l1, List.drop_drop, List.nil_append]
      congr 1
      omega
    have e2 : setsL (setsL R0 k [p]) (k + 1) (xs.drop k) = xs.take k ++ (p :: xs.drop k) ++ R0.drop (n + 1) := by
      rw [e1, e3, setsL_eq _ _ _ (by rw [List.length_append, l1, List.length_drop, List.length_drop, hxl, hRl]; omega), t1, hxd, show k + 1 + (n - k) = n + 1 by omega, t2]
      simp
    rw [e2] at b1
    refine ⟨_, rfl, ⟨?_, .inr ⟨W.heap.size, G, _, rfl, Nat.zero_le _, b1, hG, hGm, ?_, ?_⟩⟩, .inr (fun q hq => by simp [Value.ownBlock] at hq; omega), o1.os.trans B1.os, o1.tape.trans B1.tape, o1.output.trans B1.output, by rw [o1.size]; exact B1.size, fun j hj _ => (o1.other j (by omega)).trans (B1.block j hj)⟩
    · simp; omega
    · simp; omega
    · simp only [Nat.mul_one]
      rw [List.take_left' (by simp; omega)]
end Go.Proofs.Ytgndiblonhgihaa
