/-
  Own of a rule set.
  A domain of one rule may be: relayFits, domain, Check.
  The document's Best4 and Best6.
  The document's Own.
-/
import Derived.Test.YtaebknkjhhcneaaGreatDoorFold22
import Derived.Test.YtaebknkjhhcneaaGreatDoorFold24
import Derived.Test.YtaebknkjhhcneaaGreatDoorFold25
import Derived.Test.YtaebknkjhhcneaaGreatDoorFold19
namespace Go.Proofs.YtaebknkjhhcneaaGreatDoor
open Go Go.RowKit
set_option linter.unusedVariables false
set_option linter.unusedSimpArgs false

theorem ex_idx {o : Oper} {a : Act} {W : World} (j k : Nat) {g off n c i : Nat} (hop : o.op = Op.indexAddr 27 (.tmp j) (.tmp k)) (hj : a.eval (.tmp j) = .slice (some ⟨g, off, none⟩) n c) (hk : a.eval (.tmp k) = .int .i64 (i : Nat)) (hi : i < n) :
    (execOp a.eval o).run Tryz.prog W = .ok (.value (.pointer (some ⟨g, off + i * 25, none⟩))) W := by
  generalize a.eval = ev at *
  simp [execOp, hop, hj, hk, go_sem, hi]
theorem ex_loadSl {o : Oper} {a : Act} {W : World} (k : Nat) {p : Addr} {x : Option Addr} {n c : Nat} (hop : o.op = Op.load 27 (.tmp k)) (hk : a.eval (.tmp k) = .pointer (some p)) (hc : W.cell? p = some (.slice x n c)) :
    (execOp a.eval o).run Tryz.prog W = .ok (.value (.slice x n c)) W := by
  generalize a.eval = ev at *
  simp [execOp, hop, hk, go_sem, hc]

/-- Whose an address and port are: the address, the rule's number, the error. -/
def ownT (rs : List Ru) (y : List Int) (n : Nat) : List Int × Int × Int :=
  if 0 ≤ (bestN Ru.n4 (has4R y) rs rs.length).2 then
    match rs[(bestN Ru.n4 (has4R y) rs rs.length).1.toNat]? with
    | some r => if (ofV r y n).2 = 0 then (ownL r (ofV r y n).1, (bestN Ru.n4 (has4R y) rs rs.length).1, 0) else (List.replicate 16 0, 0, (ofV r y n).2)
    | none => (List.replicate 16 0, 0, 113)
  else (List.replicate 16 0, 0, 113)
def ownE (t : List Int × Int × Int) : Value := .tuple #[A6 t.1, .int .i64 t.2.1, .int .i64 t.2.2]

theorem bestN_found {n : Ru → Int} {hs : Ru → Bool} {rs : List Ru} : ∀ k, k ≤ rs.length → 0 ≤ (bestN n hs rs k).2 → ∃ i : Nat, i < k ∧ (bestN n hs rs k).1 = (i : Nat)
  | 0, _, h => by simp [bestN] at h
  | k + 1, hk, h => by
    unfold bestN at h ⊢
    split at h
    · rename_i r hr
      split at h
      · rename_i hc
        simp only [hc, and_self, if_true]
        exact ⟨k, by omega, rfl⟩
      · rename_i hc
        rw [if_neg hc]
        obtain ⟨i, hi, e⟩ := bestN_found k (by omega) h
        exact ⟨i, by omega, e⟩
    · obtain ⟨i, hi, e⟩ := bestN_found k (by omega) h
      exact ⟨i, by omega, e⟩

theorem map_form (r : Ru) (hr : r.In) (y : List Int) (n : Nat) : ∃ L : List Int, L.length = 16 ∧ mapE r y n = .tuple #[A6 L, .int .i64 (ofV r y n).2] ∧ ((ofV r y n).2 = 0 → L = ownL r (ofV r y n).1) := by
  unfold mapE
  by_cases h : (ofV r y n).2 = 0
  · rw [if_pos h, h]
    exact ⟨_, ownL_length (of_ok hr h).1, rfl, fun _ => rfl⟩
  · rw [if_neg h]
    exact ⟨List.replicate 16 0, rfl, rfl, fun e => absurd e h⟩


set_option maxRecDepth 100000 in
set_option maxHeartbeats 4000000 in
theorem Own_any (d : Dom) (hd : d.In) (rs : List Ru) (hrs : ∀ r ∈ rs, r.In) (hlen : rs.length ≤ 1000000) (v : Value) (y : List Int) (yf : FitB y) (yl : y.length = 4) (n : Nat) (hn : n < 65536) (w : World) (hv : RsAt w v rs) :
    Calls Tryz.prog 22 #[DV d v, A4L y, .int .u16 n] w fun e w' => e = .returned (ownE (ownT rs y n)) ∧ Below w.heap.size w w' := by
  generalize hQ : (fun (e : Ending) (w' : World) => e = .returned (ownE (ownT rs y n)) ∧ Below w.heap.size w w') = Q
  have HQ : Hid _ := hQ
  clear hQ
  have hB0 : Below w.heap.size w (((w.alloc (DO d v)).alloc (.cells (b8 y).toArray 61)).alloc (.cells zero16V.toArray 24)) := (((Below.refl _ w).alloc (Nat.le_refl _) _).alloc (by simp) _).alloc (by simp; omega) _
  have hd0 : (((w.alloc (DO d v)).alloc (.cells (b8 y).toArray 61)).alloc (.cells zero16V.toArray 24)).heap[w.heap.size]? = some (DO d v) := blk_alloc (blk_alloc (blk_new w _) _) _
  have hy0 : (((w.alloc (DO d v)).alloc (.cells (b8 y).toArray 61)).alloc (.cells zero16V.toArray 24)).heap[w.heap.size + 1]? = some (.cells (b8 y).toArray 61) := by
    have := blk_alloc (blk_new (w.alloc (DO d v)) (.cells (b8 y).toArray 61)) (.cells zero16V.toArray 24)
    rwa [show (w.alloc (DO d v)).heap.size = w.heap.size + 1 by simp] at this
  have hz0 : (((w.alloc (DO d v)).alloc (.cells (b8 y).toArray 61)).alloc (.cells zero16V.toArray 24)).heap[w.heap.size + 2]? = some (.cells zero16V.toArray 24) := by
    have := blk_new ((w.alloc (DO d v)).alloc (.cells (b8 y).toArray 61)) (.cells zero16V.toArray 24)
    rwa [show ((w.alloc (DO d v)).alloc (.cells (b8 y).toArray 61)).heap.size = w.heap.size + 2 by simp] at this
  generalize hW0 : ((w.alloc (DO d v)).alloc (.cells (b8 y).toArray 61)).alloc (.cells zero16V.toArray 24) = W0 at *
  have HV0 : Hid _ := hv.below hB0
  have HB : Hid _ := Best4_any d hd rs hrs hlen v y yf yl W0 (hv.below hB0)
  have HLD : Hid _ := loadD hd hd0
  have HLY : Hid ((Instr.loadAt 61 (.pointer (some ⟨w.heap.size + 1, 0, none⟩))).run Tryz.prog W0 = .ok (A4L y) W0) := agg_load (n := 4) (fun w => by kernel_rfl) (fun w => by kernel_rfl) (by rw [b8_length, yl]) (CellsAt.blk hy0)
  have HW0 : Hid (((w.alloc (.cells (dc d v).toArray 29)).alloc (.cells (b8 y).toArray 61)).alloc (.cells zero16V.toArray 24) = W0) := hW0
  clear hW0
  go_enter Tryz.func22, Tryz.ntmps22
  go_wp2_with first
    | ((with_reducible show wpList _ _ _ _ _ _); rw [show ((w.alloc (.cells (dc d v).toArray 29)).alloc (.cells (b8 y).toArray 61)).alloc (.cells #[.int .u8 0, .int .u8 0, .int .u8 0, .int .u8 0, .int .u8 0, .int .u8 0, .int .u8 0, .int .u8 0, .int .u8 0, .int .u8 0, .int .u8 0, .int .u8 0, .int .u8 0, .int .u8 0, .int .u8 0, .int .u8 0] 24) = W0 from HW0.out]; refine armL (.tmp 3) 29 rfl rfl rfl HLD.out ?_)
    | ((with_reducible show wpList _ _ _ _ _ _); refine armL (.tmp 4) 61 rfl rfl rfl HLY.out ?_)
  refine Calls.mono HB.out ?_
  rintro e w1 ⟨rfl, hB1⟩
  have hB1' := hB0.trans (hB1.mono hB0.size)
  have hz1 := (hB1.block _ (Array.getElem?_eq_some_iff.1 hz0).1).trans hz0
  have hd1 := (hB1.block _ (Array.getElem?_eq_some_iff.1 hd0).1).trans hd0
  have hy1 := (hB1.block _ (Array.getElem?_eq_some_iff.1 hy0).1).trans hy0
  have hv1 := RsAt.below HV0.out hB1
  have lz := (Array.getElem?_eq_some_iff.1 hz1).1
  unfold bestE
  clear HB HLD HLY HW0 HV0 hz0 hd0 hy0 hB0 hB1
  by_cases hf : 0 ≤ (bestN Ru.n4 (has4R y) rs rs.length).2
  · obtain ⟨i, hi, ei⟩ := bestN_found (n := Ru.n4) (hs := has4R y) rs.length (Nat.le_refl _) hf
    obtain ⟨r, hr⟩ : ∃ r, rs[i]? = some r := ⟨_, List.getElem?_eq_getElem hi⟩
    have hrin := hrs r (List.mem_of_getElem? hr)
    obtain ⟨L, hL, hme, hL0⟩ := map_form r hrin y n
    have hT : ownT rs y n = if (ofV r y n).2 = 0 then (ownL r (ofV r y n).1, (i : Int), 0) else (List.replicate 16 0, 0, (ofV r y n).2) := by
      unfold ownT
      rw [if_pos hf, ei, Int.toNat_natCast, hr]
    have HT : Hid _ := hT
    have hM := fun W => Map_any r hrin y yf yl n hn W
    rw [hme] at hM
    have HM : Hid _ := hM
    obtain ⟨ad, cap, rfl, k1, k2, k3⟩ := hv1
    obtain ⟨g, off, rfl, hg, hc⟩ := k3 (fun e => by rw [e] at hi; simp at hi)
    rw [ei]
    have q1 : decide (0 ≤ (bestN Ru.n4 (has4R y) rs rs.length).2) = true := by simpa using hf
    rw [q1]
    clear hT hM hme k3 q1 hf ei
    generalize (ofV r y n).2 = er at *
    have HLR : Hid (∀ W, Below w1.heap.size w1 W → (Instr.loadAt 65 (.pointer (some ⟨g, off + i * 25, none⟩))).run Tryz.prog W = .ok (RV r) W) := fun W hW => agg_load (n := 25) (fun w => by kernel_rfl) (fun w => by kernel_rfl) (rc_length hrin) (fun j u hj => (hW.cell (p := ⟨g, _, none⟩) hg).trans (hc i r hr j u hj))
    have HLS : Hid (∀ W, Below w1.heap.size w1 W → W.cell? ⟨w.heap.size, 34, none⟩ = some (.slice (some ⟨g, off, none⟩) rs.length cap)) := fun W hW => blk_cell ((hW.block _ (Array.getElem?_eq_some_iff.1 hd1).1).trans hd1) (dc_34 hd _)
    have HLY : Hid (∀ W, Below w1.heap.size w1 W → (Instr.loadAt 61 (.pointer (some ⟨w.heap.size + 1, 0, none⟩))).run Tryz.prog W = .ok (A4L y) W) := fun W hW => agg_load (n := 4) (fun w => by kernel_rfl) (fun w => by kernel_rfl) (by rw [b8_length, yl]) (CellsAt.blk ((hW.block _ (Array.getElem?_eq_some_iff.1 hy1).1).trans hy1))
    have hs0 : Below w1.heap.size w1 w1.drew := (Below.refl _ w1).drew
    go_wp2_with fail
    refine region_midG (fun a0 a' w' => ∃ b9, a' = ((((((((((((((a0.put (some 23) (.pointer (some ⟨w.heap.size, 34, none⟩))).put (some 24) (.slice (some ⟨g, off, none⟩) rs.length cap)).put (some 25) (.int .i64 (i : Nat))).put (some 26) (.pointer (some ⟨g, off + i * 25, none⟩))).put (some 27) (RV r)).put (some 28) (A4L y)).put (some 29) (.int .u16 (n : Nat))).put (some 30) (.tuple #[A6 L, .int .i64 er])).put (some 22) (.tuple #[A6 L, .int .i64 er])).put (some 31) (A6 L)).put (some 32) (.int .i64 er)).put (some 11) (.pointer (some ⟨b9, 0, none⟩))).put (some 12) (.int .i64 er))) ∧ w'.heap[b9]? = some (.cells (u8s L).toArray 24) ∧ Below w1.heap.size w1 w') ?_ ?_
    · skip

      refine wp_region_held (S := fun W => Below w1.heap.size w1 W) (by kernel_rfl) ?_
      show wpAnyH _ _ _ _ _ 14 (Array.replicate 14 false) _ w1.drew
      refine take_one (i := 0) (d := some 23) (v := .pointer (some ⟨w.heap.size, 34, none⟩)) rfl rfl rfl (by kernel_rfl) (by kernel_rfl) (by kernel_rfl) (fun _ _ _ _ _ h => h.elim) (fun W hS => by kernel_rfl) hs0 ?_
      simp only [Act.put, List.setIfInBounds_toArray, List.set_cons_zero, List.set_cons_succ]
      refine take_one (i := 1) (d := some 24) (v := .slice (some ⟨g, off, none⟩) rs.length cap) rfl rfl rfl (by kernel_rfl) (by kernel_rfl) (by kernel_rfl) (fun _ _ _ _ _ h => h.elim) (fun W hS => ex_loadSl 23 rfl rfl (HLS.out W hS)) hs0 ?_
      simp only [Act.put, List.setIfInBounds_toArray, List.set_cons_zero, List.set_cons_succ]
      refine take_one (i := 2) (d := some 25) (v := .int .i64 (i : Nat)) rfl rfl rfl (by kernel_rfl) (by kernel_rfl) (by kernel_rfl) (fun _ _ _ _ _ h => h.elim) (fun W hS => by kernel_rfl) hs0 ?_
      simp only [Act.put, List.setIfInBounds_toArray, List.set_cons_zero, List.set_cons_succ]
      refine take_one (i := 3) (d := some 26) (v := .pointer (some ⟨g, off + i * 25, none⟩)) rfl rfl rfl (by kernel_rfl) (by kernel_rfl) (by kernel_rfl) (fun _ _ _ _ _ h => h.elim) (fun W hS => ex_idx 24 25 rfl rfl rfl hi) hs0 ?_
      simp only [Act.put, List.setIfInBounds_toArray, List.set_cons_zero, List.set_cons_succ]
      refine take_one (i := 4) (d := some 27) (v := RV r) rfl rfl rfl (by kernel_rfl) (by kernel_rfl) (by kernel_rfl) (fun _ _ _ _ _ h => h.elim) (fun W hS => ex_loadA (.tmp 26) 65 rfl rfl (HLR.out W hS)) hs0 ?_
      simp only [Act.put, List.setIfInBounds_toArray, List.set_cons_zero, List.set_cons_succ]
      refine take_one (i := 5) (d := some 28) (v := A4L y) rfl rfl rfl (by kernel_rfl) (by kernel_rfl) (by kernel_rfl) (fun _ _ _ _ _ h => h.elim) (fun W hS => ex_loadA (.tmp 4) 61 rfl rfl (HLY.out W hS)) hs0 ?_
      simp only [Act.put, List.setIfInBounds_toArray, List.set_cons_zero, List.set_cons_succ]
      refine take_one (i := 6) (d := some 29) (v := .int .u16 (n : Nat)) rfl rfl rfl (by kernel_rfl) (by kernel_rfl) (by kernel_rfl) (fun _ _ _ _ _ h => h.elim) (fun W hS => by kernel_rfl) hs0 ?_
      simp only [Act.put, List.setIfInBounds_toArray, List.set_cons_zero, List.set_cons_succ]
      refine all_two (i1 := 7) (i2 := 11) (by kernel_rfl) rfl rfl rfl rfl ?_ ?_
      · refine wp_call (d := some 30) 54 _ rfl (by kernel_rfl) (callG (HM.out _)) ?_
        rintro _ W2 ⟨rfl, hB2⟩
        have hB2s := hs0.trans hB2
        refine ⟨hB2s, ?_⟩
        simp only [Act.put, List.setIfInBounds_toArray, List.set_cons_zero, List.set_cons_succ]
        refine take_one (i := 8) (d := some 22) (v := .tuple #[A6 L, .int .i64 er]) rfl rfl rfl (by kernel_rfl) (by kernel_rfl) (by kernel_rfl) (fun _ _ _ _ _ h => h.elim) (fun W hS => by kernel_rfl) hB2s ?_
        simp only [Act.put, List.setIfInBounds_toArray, List.set_cons_zero, List.set_cons_succ]
        refine take_one (i := 9) (d := some 31) (v := A6 L) rfl rfl rfl (by kernel_rfl) (by kernel_rfl) (by kernel_rfl) (fun _ _ _ _ _ h => h.elim) (fun W hS => by kernel_rfl) hB2s ?_
        simp only [Act.put, List.setIfInBounds_toArray, List.set_cons_zero, List.set_cons_succ]
        refine take_one (i := 10) (d := some 32) (v := .int .i64 er) rfl rfl rfl (by kernel_rfl) (by kernel_rfl) (by kernel_rfl) (fun _ _ _ _ _ h => h.elim) (fun W hS => by kernel_rfl) hB2s ?_
        simp only [Act.put, List.setIfInBounds_toArray, List.set_cons_zero, List.set_cons_succ]
        obtain ⟨w5, hst, hb5, hB5⟩ := box_new (ty := 24) (n := 16) (fun w => by kernel_rfl) W2 zero16V rfl (u8s L) (by rw [u8s_length, hL]) (u8s_one L)
        refine all_one (i := 11) (by kernel_rfl) rfl rfl ?_
        refine wp_allocA (d := some 11) 24 rfl rfl (v := .pointer (some ⟨W2.heap.size, 0, none⟩)) (w2 := W2.alloc (.cells zero16V.toArray 24)) (by simp [execOp, go_sem]) ⟨hB2s.trans (((Below.refl _ W2).alloc (Nat.le_refl _) _).mono hB2s.size), ?_⟩
        simp only [Act.put, List.setIfInBounds_toArray, List.set_cons_zero, List.set_cons_succ]
        have hB5s := hB2s.trans (hB5.mono hB2s.size)
        refine all_one (i := 12) (by kernel_rfl) rfl rfl ?_
        refine wp_storeA (.tmp 11) (.tmp 31) 24 rfl rfl rfl rfl hst ⟨hB5s, ?_⟩
        refine take_one (i := 13) (d := some 12) (v := .int .i64 er) rfl rfl rfl (by kernel_rfl) (by kernel_rfl) (by kernel_rfl) (fun _ _ _ _ _ h => h.elim) (fun W hS => by kernel_rfl) hB5s ?_
        simp only [Act.put, List.setIfInBounds_toArray, List.set_cons_zero, List.set_cons_succ]
        refine wpAnyH_done (by kernel_rfl) ?_ _
        exact ⟨W2.heap.size, rfl, hb5, hB5s⟩
      · have hBa := hs0.trans ((Below.refl _ w1.drew).alloc (Nat.le_refl _) (.cells zero16V.toArray 24))
        have hk := blk_new w1.drew (.cells zero16V.toArray 24)
        refine wp_allocA (d := some 11) 24 rfl rfl (v := .pointer (some ⟨w1.heap.size, 0, none⟩)) (w2 := w1.drew.alloc (.cells zero16V.toArray 24)) (by simp [execOp, go_sem]) ⟨hBa, ?_⟩
        simp only [Act.put, List.setIfInBounds_toArray, List.set_cons_zero, List.set_cons_succ]
        refine all_one (i := 7) (by kernel_rfl) rfl rfl ?_
        refine wp_call (d := some 30) 54 _ rfl (by kernel_rfl) (callG (HM.out _)) ?_
        rintro _ W2 ⟨rfl, hB2⟩
        have hB2s := hBa.trans (hB2.mono hBa.size)
        have hk2 := (hB2.block w1.heap.size (by simp)).trans hk
        refine ⟨hB2s, ?_⟩
        simp only [Act.put, List.setIfInBounds_toArray, List.set_cons_zero, List.set_cons_succ]
        refine take_one (i := 8) (d := some 22) (v := .tuple #[A6 L, .int .i64 er]) rfl rfl rfl (by kernel_rfl) (by kernel_rfl) (by kernel_rfl) (fun _ _ _ _ _ h => h.elim) (fun W hS => by kernel_rfl) hB2s ?_
        simp only [Act.put, List.setIfInBounds_toArray, List.set_cons_zero, List.set_cons_succ]
        refine take_one (i := 9) (d := some 31) (v := A6 L) rfl rfl rfl (by kernel_rfl) (by kernel_rfl) (by kernel_rfl) (fun _ _ _ _ _ h => h.elim) (fun W hS => by kernel_rfl) hB2s ?_
        simp only [Act.put, List.setIfInBounds_toArray, List.set_cons_zero, List.set_cons_succ]
        refine take_one (i := 10) (d := some 32) (v := .int .i64 er) rfl rfl rfl (by kernel_rfl) (by kernel_rfl) (by kernel_rfl) (fun _ _ _ _ _ h => h.elim) (fun W hS => by kernel_rfl) hB2s ?_
        simp only [Act.put, List.setIfInBounds_toArray, List.set_cons_zero, List.set_cons_succ]
        obtain ⟨w5, hst, hb5, ho5⟩ := box_store (ty := 24) (n := 16) (c := zero16V) (fun w => by kernel_rfl) hk2 rfl (u8s L) (by rw [u8s_length, hL]) (u8s_one L)
        have hB5s := hB2s.trans (ho5.below (Nat.le_refl _))
        refine all_one (i := 12) (by kernel_rfl) rfl rfl ?_
        refine wp_storeA (.tmp 11) (.tmp 31) 24 rfl rfl rfl rfl hst ⟨hB5s, ?_⟩
        refine take_one (i := 13) (d := some 12) (v := .int .i64 er) rfl rfl rfl (by kernel_rfl) (by kernel_rfl) (by kernel_rfl) (fun _ _ _ _ _ h => h.elim) (fun W hS => by kernel_rfl) hB5s ?_
        simp only [Act.put, List.setIfInBounds_toArray, List.set_cons_zero, List.set_cons_succ]
        refine wpAnyH_done (by kernel_rfl) ?_ _
        exact ⟨w1.heap.size, rfl, hb5, hB5s⟩
    rintro a' V ⟨b9, rfl, hb9, hBV⟩
    simp only [Act.put, List.setIfInBounds_toArray, List.set_cons_zero, List.set_cons_succ]
    have hzV := (hBV.block _ lz).trans hz1
    have hBVw := hB1'.trans (hBV.mono hB1'.size)
    clear HLR HLS HLY HM hs0 hd1 hy1 hz1 hBV hB1'
    by_cases he : er = 0
    · have hT2 : ownT rs y n = (L, (i : Int), 0) := by rw [HT.out, if_pos he, hL0 he]
      obtain ⟨w6, hst6, hb6, ho6⟩ := box_store (ty := 24) (n := 16) (fun w => by kernel_rfl) hzV rfl (u8s L) (by rw [u8s_length, hL]) (u8s_one L)
      have HST : Hid _ := hst6
      have HLB : Hid _ := load6 hL (CellsAt.blk hb9)
      have HRES : Hid ((loadVar 24 ⟨w.heap.size + 2, 0, none⟩).run Tryz.prog w6 = .ok (A6 L) w6) := agg_loadVar (n := 16) (fun w => by kernel_rfl) (fun w => by kernel_rfl) (by rw [u8s_length, hL]) (CellsAt.blk hb6)
      subst he
      clear hst6 HT hc hr hrs hrin hL0 k1 k2 hv hzV hb9 hb6 hlen hd
      go_wp2_with first
        | ((with_reducible show wpList _ _ _ _ _ _); refine armL (.tmp 11) 24 rfl rfl rfl HLB.out ?_)
        | ((with_reducible show wpList _ _ _ _ _ _); refine armS (.tmp 6) (.tmp 37) 24 rfl rfl rfl rfl HST.out ?_)
      refine bodyPost_ret (res3c Tryz.results22 (R := ⟨w.heap.size + 2, 0, none⟩) rfl HRES.out) rfl ?_
      rw [← HQ.out, hT2]
      exact ⟨rfl, hBVw.trans (ho6.below (by omega))⟩
    · have hT2 : ownT rs y n = (List.replicate 16 0, 0, er) := by rw [HT.out, if_neg he]
      obtain ⟨w6, hst6, hb6, ho6⟩ := box_store (ty := 24) (n := 16) (fun w => by kernel_rfl) hzV rfl zero16V rfl zero16V_one
      have HST : Hid _ := hst6
      have HRES : Hid ((loadVar 24 ⟨w.heap.size + 2, 0, none⟩).run Tryz.prog w6 = .ok (.agg zero16V.toArray) w6) := agg_loadVar (n := 16) (fun w => by kernel_rfl) (fun w => by kernel_rfl) rfl (CellsAt.blk hb6)
      have q2 : (er != 0) = true := by simpa using he
      clear hst6 HT hc hr hrs hrin hL0 k1 k2 hv hzV hb9 hb6 hlen hd he
      go_wp2_with first
        | ((with_reducible show wpList _ _ _ _ _ _); refine armS (.tmp 6) (.tmp 35) 24 rfl rfl rfl rfl HST.out ?_)
      refine bodyPost_ret (res3c Tryz.results22 (R := ⟨w.heap.size + 2, 0, none⟩) rfl HRES.out) rfl ?_
      rw [← HQ.out, hT2]
      exact ⟨rfl, hBVw.trans (ho6.below (by omega))⟩
  · have hT2 : ownT rs y n = (List.replicate 16 0, 0, 113) := by unfold ownT; rw [if_neg hf]
    have q1 : decide (0 ≤ (bestN Ru.n4 (has4R y) rs rs.length).2) = false := by simpa using hf
    rw [q1]
    generalize (bestN Ru.n4 (has4R y) rs rs.length).1 = m1
    obtain ⟨w6, hst6, hb6, ho6⟩ := box_store (ty := 24) (n := 16) (fun w => by kernel_rfl) hz1 rfl zero16V rfl zero16V_one
    have HST : Hid _ := hst6
    have HRES : Hid ((loadVar 24 ⟨w.heap.size + 2, 0, none⟩).run Tryz.prog w6 = .ok (.agg zero16V.toArray) w6) := agg_loadVar (n := 16) (fun w => by kernel_rfl) (fun w => by kernel_rfl) rfl (CellsAt.blk hb6)
    clear hst6 hf q1
    go_wp2_with first
      | ((with_reducible show wpList _ _ _ _ _ _); refine armS (.tmp 6) (.tmp 21) 24 rfl rfl rfl rfl HST.out ?_)
    refine bodyPost_ret (res3c Tryz.results22 (R := ⟨w.heap.size + 2, 0, none⟩) rfl HRES.out) rfl ?_
    rw [← HQ.out, hT2]
    exact ⟨rfl, hB1'.trans (ho6.below (by omega))⟩


end Go.Proofs.YtaebknkjhhcneaaGreatDoor

namespace Go.Proofs.YtaebknkjhhcneaaGreatDoor
open Go Go.RowKit
set_option linter.unusedVariables false
set_option linter.unusedSimpArgs false

theorem armLv {P : Program} {w : World} {ops : Array Oper} {rest : List Oper} {o : Oper} {a : Act} {Q : Exit → Act → World → Prop} (p : Operand) (t : TypeId) (hop : o.op = Op.load t p) (hw : Region.wanted o (yielded ops a.tmps) = true) {vp v : Value} (hp : a.eval p = vp) (hrun : (Instr.loadAt t vp).run P w = .ok v w) (hK : wpList P ops Q rest (a.put o.dst v) w) : wpList P ops Q (o :: rest) a w :=
  arm_load hw p t hop hp hrun hK
abbrev z16 : List Int := [0, 0, 0, 0, 0, 0, 0, 0, 0, 0, 0, 0, 0, 0, 0, 0]
theorem z16_fit : FitB z16 := fun z hz => by
  have : z = 0 := by simpa using hz
  subst this
  decide
theorem neqA6v (zs ys : List Int) (h : FitB zs) (g : FitB ys) (hl : zs.length = 16) (gl : ys.length = 16) (w : World) : (binOp .neq 24 (A6 zs) (A6 ys)).run Tryz.prog w = .ok (.bool (!decide (zs = ys))) w := by
  have := eq_arr16 9998 zs ys h g hl gl w
  simp only [binOp, Op.equal, Op.maxDepth]
  simp [this]
theorem gdA6v (b : BinOp) (x y : Operand) (u v : Array Value) (w : World) : (eqGuard b 24 x y (.agg u) (.agg v)).run Tryz.prog w = .ok () w := by
  have he : Tryz.prog.eqGuardType Tryz.prog.depth 24 = false := by kernel_rfl
  cases b <;> simp [eqGuard, go_sem, he]

/-- The relay's address stands beside the rules, and there is no prefix. -/
def relayOk (d : Dom) (rs : List Ru) : Prop := d.relay ≠ z16 ∧ (bestN Ru.n6 (has6R d.relay) rs rs.length).2 < 0 ∧ d.pl = z16 ∧ d.pn = 0

set_option maxRecDepth 100000 in
set_option maxHeartbeats 2000000 in
theorem relayFits_yes (d : Dom) (hd : d.In) (rs : List Ru) (hrs : ∀ r ∈ rs, r.In) (hlen : rs.length ≤ 1000000) (v : Value) (w : World) (hv : RsAt w v rs) (hok : relayOk d rs) :
    Calls Tryz.prog 70 #[DV d v] w fun e w' => e = .returned (.bool true) ∧ Below w.heap.size w w' := by
  generalize hQ : (fun (e : Ending) (w' : World) => e = .returned (.bool true) ∧ Below w.heap.size w w') = Q
  have HQ : Hid _ := hQ
  clear hQ
  obtain ⟨k1, k2, k3, k4⟩ := hok
  have hB0 := (Below.refl w.heap.size w).alloc (Nat.le_refl _) (DO d v)
  have hd0 := blk_new w (DO d v)
  have HB : Hid _ := fun W (hW : Below w.heap.size w W) => Best6_any d hd rs hrs hlen v d.relay hd.rf hd.rl W (RsAt.below hv hW)
  generalize hW0 : w.alloc (DO d v) = W0 at *
  have HW0 : Hid (w.alloc (.cells (dc d v).toArray 29) = W0) := hW0
  have HL : Hid _ := loadD hd hd0
  have HR : Hid _ := relayD hd hd0
  have HE : Hid (bestE Ru.n6 (has6R d.relay) rs = .tuple #[.int .i64 (bestN Ru.n6 (has6R d.relay) rs rs.length).1, .bool false]) := by
    show _ = _
    unfold bestE
    rw [decide_eq_false (by omega)]
  clear hW0 hv
  go_enter Tryz.func70, Tryz.ntmps70
  go_wp2_with first
    | ((with_reducible show wpList _ _ _ _ _ _); rw [HW0.out]; refine armLv (.tmp 1) 29 rfl rfl rfl HL.out ?_)
    | ((with_reducible show wpList _ _ _ _ _ _); refine armLv (.tmp 7) 24 rfl rfl rfl HR.out ?_)
  refine Calls.mono (HB.out _ hB0) ?_
  rintro _ w1 ⟨rfl, hB1⟩
  rw [HE.out]
  have hd1 := (hB1.block _ (Array.getElem?_eq_some_iff.1 hd0).1).trans hd0
  have HBW : Hid _ := hB0.trans (hB1.mono hB0.size)
  have HR1 : Hid _ := relayD hd hd1
  have HP1 : Hid _ := prefixD hd hd1
  have hne := neqA6v d.relay z16 hd.rf z16_fit hd.rl rfl w1
  rw [decide_eq_false k1] at hne
  have HNE : Hid _ := hne
  have heq := eqlP6 d.pl z16 d.pn 0 hd.pf z16_fit hd.pl rfl w1
  rw [k3, k4] at heq
  have HEQ : Hid ((binOp .eql 26 (P6 z16 0) (P6 z16 0)).run Tryz.prog w1 = .ok (.bool true) w1) := by
    rw [decide_eq_true rfl] at heq
    exact heq
  rw [k3, k4] at HP1
  generalize (bestN Ru.n6 (has6R d.relay) rs rs.length).1 = m1
  clear hne heq k1 k2 k3 k4 HB HL HR HE HW0 hd0 hd1 hB0 hB1
  go_wp2_with first
    | ((with_reducible show wpList _ _ _ _ _ _); refine armLv (.tmp 12) 24 rfl rfl rfl HR1.out ?_)
    | ((with_reducible show wpList _ _ _ _ _ _); refine armLv (.tmp 21) 26 rfl rfl rfl HP1.out ?_)
    | ((with_reducible show wpList _ _ _ _ _ _); refine arm_bin rfl .neq 24 _ (.tmp 13) (.tmp 14) rfl rfl rfl (gdA6v _ _ _ _ _ _) HNE.out ?_)
    | ((with_reducible show wpList _ _ _ _ _ _); refine arm_bin rfl .eql 26 _ (.tmp 22) (.tmp 23) rfl rfl rfl (gdP6 _ _ _ _ _ _) HEQ.out ?_)
  try go_ret
  rw [← HQ.out]
  exact ⟨rfl, HBW.out⟩

set_option maxRecDepth 100000 in
set_option maxHeartbeats 2000000 in
theorem domain_mapE (d : Dom) (hd : d.In) (rs : List Ru) (hrs : ∀ r ∈ rs, r.In) (hlen : rs.length ≤ 1000000) (hne : rs ≠ []) (v : Value) (w : World) (hv : RsAt w v rs) (hm : d.mode = 1) (hok : relayOk d rs) :
    Calls Tryz.prog 32 #[DV d v] w fun e w' => e = .returned (.bool true) ∧ Below w.heap.size w w' := by
  generalize hQ : (fun (e : Ending) (w' : World) => e = .returned (.bool true) ∧ Below w.heap.size w w') = Q
  have HQ : Hid _ := hQ
  clear hQ
  have hB0 := (Below.refl w.heap.size w).alloc (Nat.le_refl _) (DO d v)
  have hd0 := blk_new w (DO d v)
  have HB : Hid _ := fun W (hW : Below w.heap.size w W) => relayFits_yes d hd rs hrs hlen v W (RsAt.below hv hW) hok
  generalize hW0 : w.alloc (DO d v) = W0 at *
  have hW0' : w.alloc (.cells (dc d v).toArray 29) = W0 := hW0
  have HL : Hid _ := loadD hd hd0
  obtain ⟨ad, cap, rfl, _⟩ := hv
  have c0 := blk_cell hd0 (dc_0 d _)
  have c34 := blk_cell hd0 (dc_34 hd _)
  rw [hm] at c0
  have hpos : 0 < rs.length := List.length_pos_iff.2 hne
  have q1 : decide ((0 : Int) < rs.length) = true := decide_eq_true (by omega)
  clear hW0 hok
  go_enter Tryz.func32, Tryz.ntmps32
  go_wp2_with first
    | ((with_reducible show wpList _ _ _ _ _ _); refine armLv (.tmp 1) 29 rfl rfl rfl HL.out ?_)
  refine Calls.mono (HB.out _ hB0) ?_
  rintro _ w1 ⟨rfl, hB1⟩
  have HBW : Hid _ := hB0.trans (hB1.mono hB0.size)
  clear hB1 hB0 HB
  go_wp2
  try go_ret
  rw [← HQ.out]
  exact ⟨rfl, HBW.out⟩

set_option maxRecDepth 100000 in
set_option maxHeartbeats 1000000 in
theorem contains_nil (ad : Option Addr) (cap : Nat) (f : Value) (w : World) : Calls Tryz.prog 29 #[.slice ad 0 cap, f] w fun e w' => e = .returned (.bool false) ∧ w' = w := by
  have HI : Hid (Calls Tryz.prog 67 #[.slice ad 0 cap, f] w fun e w' => e = .returned (.int .i64 (-1)) ∧ w' = w) := by
    go_enter Tryz.func67, Tryz.ntmps67
    go_wp2
    go_loopw [8] (fun i wr => i = .int .i64 0 ∧ wr = w) (fun _ _ => 0)
    case atStart => exact ⟨rfl, rfl⟩
    case round =>
      obtain ⟨rfl, rfl⟩ := hrel
      go_wp2
      try go_ret
      exact ⟨rfl, rfl⟩
  go_enter Tryz.func29, Tryz.ntmps29
  go_wp2_with fail
  refine Calls.mono HI.out ?_
  rintro _ w1 ⟨rfl, rfl⟩
  go_wp2
  try go_ret
  exact ⟨rfl, rfl⟩

end Go.Proofs.YtaebknkjhhcneaaGreatDoor

namespace Go.Proofs.YtaebknkjhhcneaaGreatDoor
open Go Go.RowKit
set_option linter.unusedVariables false
set_option linter.unusedSimpArgs false

/-- The best of the first k rules as a number; none: -1. -/
def bref (n : Ru → Int) (hs : Ru → Bool) (rs : List Ru) (k : Nat) : Int := if (bestN n hs rs k).2 < 0 then -1 else (bestN n hs rs k).1
theorem bestN_at {n : Ru → Int} {hs : Ru → Bool} {rs : List Ru} : ∀ k, k ≤ rs.length → 0 ≤ (bestN n hs rs k).2 → ∃ (i : Nat) (r : Ru), i < k ∧ rs[i]? = some r ∧ (bestN n hs rs k).1 = (i : Nat) ∧ (bestN n hs rs k).2 = n r
  | 0, _, h => by simp [bestN] at h
  | k + 1, hk, h => by
    unfold bestN at h ⊢
    split at h
    · rename_i r hr
      split at h
      · rename_i hc
        rw [if_pos hc]
        exact ⟨k, r, by omega, hr, rfl, rfl⟩
      · rename_i hc
        rw [if_neg hc]
        obtain ⟨i, r', hi, e⟩ := bestN_at k (by omega) h
        exact ⟨i, r', by omega, e⟩
    · obtain ⟨i, r', hi, e⟩ := bestN_at k (by omega) h
      exact ⟨i, r', by omega, e⟩
theorem bref_none {n : Ru → Int} {hs : Ru → Bool} {rs : List Ru} {k : Nat} {r : Ru} (hr : rs[k]? = some r) (h : hs r = false) : bref n hs rs (k + 1) = bref n hs rs k := by
  unfold bref
  simp only [bestN, hr, h, Bool.false_eq_true, false_and, if_false]
theorem bref_first {n : Ru → Int} {hs : Ru → Bool} {rs : List Ru} {k : Nat} {r : Ru} (hr : rs[k]? = some r) (h : hs r = true) (hp : 0 ≤ n r) (hb : (bestN n hs rs k).2 < 0) : bref n hs rs (k + 1) = (k : Nat) := by
  unfold bref
  have : hs r = true ∧ (bestN n hs rs k).2 < n r := ⟨h, by omega⟩
  simp only [bestN, hr, if_pos this]
  rw [if_neg (by omega)]
theorem bref_more {n : Ru → Int} {hs : Ru → Bool} {rs : List Ru} {k : Nat} {r : Ru} (hr : rs[k]? = some r) (h : hs r = true) (hb : 0 ≤ (bestN n hs rs k).2) (hg : (bestN n hs rs k).2 < n r) : bref n hs rs (k + 1) = (k : Nat) := by
  unfold bref
  simp only [bestN, hr, if_pos (And.intro h hg)]
  rw [if_neg (by omega)]
theorem bref_less {n : Ru → Int} {hs : Ru → Bool} {rs : List Ru} {k : Nat} {r : Ru} (hr : rs[k]? = some r) (hg : ¬ (bestN n hs rs k).2 < n r) : bref n hs rs (k + 1) = bref n hs rs k := by
  unfold bref
  simp only [bestN, hr, if_neg (fun (e : hs r = true ∧ (bestN n hs rs k).2 < n r) => hg e.2)]
theorem bref_neg {n : Ru → Int} {hs : Ru → Bool} {rs : List Ru} {k : Nat} (hb : (bestN n hs rs k).2 < 0) : bref n hs rs k = -1 := if_pos hb
theorem bref_pos {n : Ru → Int} {hs : Ru → Bool} {rs : List Ru} {k : Nat} (hb : 0 ≤ (bestN n hs rs k).2) : bref n hs rs k = (bestN n hs rs k).1 := if_neg (by omega)
theorem bestE_neg {n : Ru → Int} {hs : Ru → Bool} {rs : List Ru} (hb : (bestN n hs rs rs.length).2 < 0) (h0 : (bestN n hs rs rs.length).1 = 0) : bestE n hs rs = .tuple #[.int .i64 0, .bool false] := by
  unfold bestE
  rw [h0, decide_eq_false (by omega)]
theorem bestE_pos {n : Ru → Int} {hs : Ru → Bool} {rs : List Ru} (hb : 0 ≤ (bestN n hs rs rs.length).2) : bestE n hs rs = .tuple #[.int .i64 (bestN n hs rs rs.length).1, .bool true] := by
  unfold bestE
  rw [decide_eq_true hb]
theorem bestN_zero {n : Ru → Int} {hs : Ru → Bool} {rs : List Ru} (hp : ∀ r ∈ rs, hs r = true → 0 ≤ n r) : ∀ k, (bestN n hs rs k).2 < 0 → (bestN n hs rs k).1 = 0
  | 0, _ => rfl
  | k + 1, h => by
    unfold bestN at h ⊢
    split at h
    · rename_i r hr
      split at h
      · rename_i hc
        have := hp r (List.mem_of_getElem? hr) hc.1
        simp only at h
        omega
      · rename_i hc
        rw [if_neg hc]
        exact bestN_zero hp k h
    · exact bestN_zero hp k h
theorem has6_pos {y : List Int} {r : Ru} (h : has6R y r = true) : 0 ≤ r.n6 ∧ okP6 r.l6 r.n6 = true := by
  unfold has6R at h
  simp only [Bool.and_eq_true] at h
  have h1 := h.1
  unfold okP6 at h1
  simp only [Bool.and_eq_true, decide_eq_true_eq] at h1
  exact ⟨h1.1.1, h.1⟩
theorem has4_pos {y : List Int} {r : Ru} (h : has4R y r = true) : 0 ≤ r.n4 ∧ okP4L r.l4 r.n4 = true := by
  unfold has4R at h
  simp only [Bool.and_eq_true] at h
  have h1 := h.1
  unfold okP4L at h1
  simp only [Bool.and_eq_true, decide_eq_true_eq] at h1
  exact ⟨h1.1.1, h.1⟩
theorem rule_cells {W : World} {g o : Nat} {r : Ru} (hr : r.In) (h : CellsAt W g o (rc r)) : CellsAt W g o (cp6 r.l6 r.n6) ∧ CellsAt W g (o + 17) (cp4 r.l4 r.n4) ∧ W.cell? ⟨g, o + 16, none⟩ = some (.int .i64 r.n6) ∧ W.cell? ⟨g, o + 17 + 4, none⟩ = some (.int .i64 r.n4) := by
  have l6 := cp6_length r.l6 r.n6 hr.k6
  have h6 : CellsAt W g o (cp6 r.l6 r.n6) := CellsAt.fst h
  have h4 : CellsAt W g (o + 17) (cp4 r.l4 r.n4) := by
    have := CellsAt.part (xs := cp6 r.l6 r.n6) (ys := cp4 r.l4 r.n4) (zs := rt r) h
    rwa [l6] at this
  refine ⟨h6, h4, h6 16 _ (cp6_get _ _ hr.k6), h4 4 _ ?_⟩
  simp [cp4, List.getElem?_append, b8_length, hr.k4]


set_option maxRecDepth 100000 in
set_option maxHeartbeats 4000000 in
theorem RBest4_any (d : Dom) (hd : d.In) (rs : List Ru) (hrs : ∀ r ∈ rs, r.In) (hlen : rs.length ≤ 1000000) (v : Value) (y : List Int) (yf : FitB y) (yl : y.length = 4) (w : World) (hv : RsAt w v rs) :
    Calls Tryz.prog 19 #[DV d v, A4L y] w fun e w' => e = .returned (bestE Ru.n4 (has4R y) rs) ∧ Below w.heap.size w w' := by
  generalize hQ : (fun (e : Ending) (w' : World) => e = .returned (bestE Ru.n4 (has4R y) rs) ∧ Below w.heap.size w w') = Q
  have HQ : Hid _ := hQ
  clear hQ
  have hB0 : Below w.heap.size w ((w.alloc (DO d v)).alloc (.cells (b8 y).toArray 61)) := ((Below.refl _ w).alloc (Nat.le_refl _) _).alloc (by simp) _
  have hd0 : ((w.alloc (DO d v)).alloc (.cells (b8 y).toArray 61)).heap[w.heap.size]? = some (DO d v) := blk_alloc (blk_new w _) _
  have hy0 : ((w.alloc (DO d v)).alloc (.cells (b8 y).toArray 61)).heap[w.heap.size + 1]? = some (.cells (b8 y).toArray 61) := by
    have := blk_new (w.alloc (DO d v)) (.cells (b8 y).toArray 61)
    rwa [show (w.alloc (DO d v)).heap.size = w.heap.size + 1 by simp] at this
  have hv0 := hv.below hB0
  generalize hW0 : (w.alloc (DO d v)).alloc (.cells (b8 y).toArray 61) = W0 at *
  have hW0' : (w.alloc (.cells (dc d v).toArray 29)).alloc (.cells (b8 y).toArray 61) = W0 := hW0
  obtain ⟨ad, cap, rfl, h1, h2, h3⟩ := hv0
  have hin := bestN_in (n := Ru.n4) (hs := has4R y) (rs := rs) (fun r hr => (hrs r hr).b4)
  have H3 : Hid _ := h3
  have HV : Hid _ := hv
  clear hW0 h3 hv
  go_enter Tryz.func19, Tryz.ntmps19
  go_wp2
  try rw [hW0']
  clear hW0'
  go_loopw [6, 7] (fun b i wr => ∃ k : Nat, k ≤ rs.length ∧ i = .int .i64 k ∧ b = .int .i64 (bref Ru.n4 (has4R y) rs k) ∧ Below W0.heap.size W0 wr) (fun _ i _ => rs.length - (intOf i).toNat)
  case atStart => exact ⟨0, Nat.zero_le _, rfl, rfl, Below.refl _ _⟩
  case round =>
    obtain ⟨k, hk, rfl, rfl, hBk⟩ := hrel
    have hdk := (hBk.block _ (Array.getElem?_eq_some_iff.1 hd0).1).trans hd0
    have hyk := (hBk.block _ (Array.getElem?_eq_some_iff.1 hy0).1).trans hy0
    have c34 := blk_cell hdk (dc_34 hd _)
    by_cases hlt : k < rs.length
    · obtain ⟨r, hr⟩ : ∃ r, rs[k]? = some r := ⟨_, List.getElem?_eq_getElem hlt⟩
      have hrin := hrs r (List.mem_of_getElem? hr)
      obtain ⟨g, off, rfl, hg, hc⟩ := H3.out (fun e => by rw [e] at hlt; simp at hlt)
      have hgk : g < wr.heap.size := Nat.lt_of_lt_of_le hg hBk.size
      have hcx : ∀ (x : Hi wr) (j : Nat) r', rs[j]? = some r' → CellsAt x.W g (off + j * 25) (rc r') := fun x j r' hj i u hi => (x.below.cell (p := ⟨g, _, none⟩) hgk).trans ((hBk.cell (p := ⟨g, _, none⟩) hg).trans (hc j r' hj i u hi))
      have hck := fun x => hcx x k r hr
      have HCX : Hid _ := hcx
      have HLP : Hid (∀ x : Hi wr, (Instr.loadAt 63 (.pointer (some ⟨g, off + k * 25 + 17, none⟩))).run Tryz.prog x.W = .ok (P4L r.l4 r.n4) x.W) := fun x => agg_load (n := 5) (fun w => by kernel_rfl) (fun w => by kernel_rfl) (cp4_length _ _ hrin.k4) (rule_cells hrin (hck x)).2.1
      have HLY : Hid (∀ x : Hi wr, (Instr.loadAt 61 (.pointer (some ⟨w.heap.size + 1, 0, none⟩))).run Tryz.prog x.W = .ok (A4L y) x.W) := fun x => agg_load (n := 4) (fun w => by kernel_rfl) (fun w => by kernel_rfl) (by simp [yl, b8_length, u8s_length]) (CellsAt.blk (Hi.blk hyk x))
      have d34 : ∀ x : Hi wr, x.W.cell? ⟨w.heap.size, 34, none⟩ = some (.slice (some ⟨g, off, none⟩) rs.length cap) := fun x => blk_cell (Hi.blk hdk x) (dc_34 hd _)
      have HHAS : Hid (∀ x : Hi wr, Calls Tryz.prog 51 #[P4L r.l4 r.n4, A4L y] x.W fun e w' => e = .returned (.tuple #[.bool (has4R y r), .int .i64 (if okP4L r.l4 r.n4 = true then 0 else 22)]) ∧ Below x.W.heap.size x.W w') := fun x => (fun W => RHas4_L r.l4 r.n4 y W hrin.f4 hrin.k4 hrin.b4 yf yl) x.W
      have q1 : decide ((k : Int) < rs.length) = true := by simpa using hlt
      have hln : ∀ x : Hi wr, x.W.cell? ⟨g, off + k * 25 + 17 + 4, none⟩ = some (.int .i64 r.n4) := fun x => (rule_cells hrin (hck x)).2.2.2
      have w9 : IntKind.i64.wrap ((k : Int) + 1) = (k : Int) + 1 := wrap_i64 _ ⟨by omega, by omega⟩
      have HR : Hid _ := hr
      have HIN : Hid _ := hin
      have HBK : Hid _ := hBk
      have HDK : Hid _ := hdk
      have HERR : Hid (has4R y r = true → (if okP4L r.l4 r.n4 = true then (0 : Int) else 22) = 0) := fun e => by rw [if_pos (has4_pos e).2]
      clear hc hcx hck hr hin hBk hdk hyk
      generalize (if okP4L r.l4 r.n4 = true then (0 : Int) else 22) = er at HHAS HERR
      generalize hbb : bref Ru.n4 (has4R y) rs k = bb
      have HBB : Hid _ := hbb
      clear hbb
      go_wp2_with fail
      refine wp_region_hi (by kernel_rfl) (by kernel_rfl) ?_
      repeat (first | go_big_quiet_skip | (go_big_quiet_want; refine hi_load (.tmp 22) 63 rfl rfl HLP.out ?_; simp only [Act.put, List.setIfInBounds_toArray, List.set_cons_zero, List.set_cons_succ]; go_big_quiet_on) | (go_big_quiet_want; refine hi_load (.tmp 3) 61 rfl rfl HLY.out ?_; simp only [Act.put, List.setIfInBounds_toArray, List.set_cons_zero, List.set_cons_succ]; go_big_quiet_on) | (go_big_quiet_want; go_big_quiet_op; first | go_big_quiet_on | go_big_quiet_call (first | (go_at_call 51; with_reducible exact Hi.calls (HHAS.out _)))))
      refine wpQuiet_nil ?_
      intro _ hw
      obtain ⟨yy, rfl⟩ := hw
      have hBy := HBK.out.trans (yy.below.mono HBK.out.size)
      have HBY : Hid _ := hBy
      clear HHAS HLP HLY hBy c34
      have hlnK := hln
      cases hh : has4R y r with
      | false =>
        have HNX : Hid _ := (bref_none (n := Ru.n4) HR.out hh).trans HBB.out
        clear hln hlnK hh HERR
        go_wp2_with fail
        refine wp_region_up (by kernel_rfl) (by kernel_rfl) ?_
        repeat (first | go_big_quiet_skip | (go_big_quiet_want; go_big_quiet_op; first | go_big_quiet_on | go_big_quiet_call (fail)))
        refine wpQuiet_nil ?_
        intro _ hw
        obtain ⟨z, rfl⟩ := hw
        go_wp2
        go_roundw
        case rel => exact ⟨k + 1, hlt, rfl, by rw [HNX.out], HBK.out.trans (z.below.mono HBK.out.size)⟩
        case measure => show rs.length - (k + 1) < rs.length - k; omega
      | true =>
        obtain rfl : er = 0 := HERR.out hh
        by_cases hb : (bestN Ru.n4 (has4R y) rs k).2 < 0
        · have HNX : Hid _ := bref_first (n := Ru.n4) HR.out hh (has4_pos hh).1 hb
          obtain rfl : bb = -1 := HBB.out.symm.trans (bref_neg hb)
          clear hln hlnK hh HERR hb HBB
          go_wp2_with fail
          refine wp_region_up (by kernel_rfl) (by kernel_rfl) ?_
          repeat (first | go_big_quiet_skip | (go_big_quiet_want; go_big_quiet_op; first | go_big_quiet_on | go_big_quiet_call (fail)))
          refine wpQuiet_nil ?_
          intro _ hw
          obtain ⟨z, rfl⟩ := hw
          go_wp2
          go_roundw
          case rel => exact ⟨k + 1, hlt, rfl, by rw [HNX.out], HBK.out.trans (z.below.mono HBK.out.size)⟩
          case measure => show rs.length - (k + 1) < rs.length - k; omega
        · have hb' : 0 ≤ (bestN Ru.n4 (has4R y) rs k).2 := by omega
          obtain ⟨i, r', hi, hr', e1, e2⟩ := bestN_at k hk hb'
          have hrin' := hrs r' (List.mem_of_getElem? hr')
          have hln' : ∀ x : Hi wr, x.W.cell? ⟨g, off + i * 25 + 17 + 4, none⟩ = some (.int .i64 r'.n4) := fun x => (rule_cells hrin' (HCX.out x i r' hr')).2.2.2
          obtain rfl : bb = (i : Nat) := by rw [← HBB.out, bref_pos hb', e1]
          have q7 : decide ((i : Int) < 0) = false := decide_eq_false (by omega)
          have q8 : decide ((i : Int) < rs.length) = true := decide_eq_true (by omega)
          have hil : i < rs.length := by omega
          by_cases hgt : r'.n4 < r.n4
          · have HNX : Hid _ := bref_more (n := Ru.n4) HR.out hh hb' (by rw [e2]; exact hgt)
            have q9 : decide (r'.n4 < r.n4) = true := decide_eq_true hgt
            clear hlnK hh HERR hb hb' HBB hgt e1 e2 hr' hrin'
            go_wp2_with fail
            refine wp_region_up (by kernel_rfl) (by kernel_rfl) ?_
            repeat (first | go_big_quiet_skip | (go_big_quiet_want; go_big_quiet_op; first | go_big_quiet_on | go_big_quiet_call (fail)))
            refine wpQuiet_nil ?_
            intro _ hw
            obtain ⟨z, rfl⟩ := hw
            go_wp2
            go_roundw
            case rel => exact ⟨k + 1, hlt, rfl, by rw [HNX.out], HBK.out.trans (z.below.mono HBK.out.size)⟩
            case measure => show rs.length - (k + 1) < rs.length - k; omega
          · have HNX : Hid _ := (bref_less (n := Ru.n4) (hs := has4R y) HR.out (by rw [e2]; exact hgt)).trans HBB.out
            have q9 : decide (r'.n4 < r.n4) = false := decide_eq_false hgt
            clear hlnK hh HERR hb hb' HBB hgt e1 e2 hr' hrin'
            go_wp2_with fail
            refine wp_region_up (by kernel_rfl) (by kernel_rfl) ?_
            repeat (first | go_big_quiet_skip | (go_big_quiet_want; go_big_quiet_op; first | go_big_quiet_on | go_big_quiet_call (fail)))
            refine wpQuiet_nil ?_
            intro _ hw
            obtain ⟨z, rfl⟩ := hw
            go_wp2
            go_roundw
            case rel => exact ⟨k + 1, hlt, rfl, by rw [HNX.out], HBK.out.trans (z.below.mono HBK.out.size)⟩
            case measure => show rs.length - (k + 1) < rs.length - k; omega
    · obtain rfl : k = rs.length := by omega
      have HBK : Hid _ := hB0.trans (hBk.mono hB0.size)
      by_cases hb : (bestN Ru.n4 (has4R y) rs rs.length).2 < 0
      · have HE : Hid _ := bestE_neg hb (bestN_zero (fun r _ h => (has4_pos h).1) _ hb)
        rw [bref_neg hb]
        clear hin hb hBk
        go_wp2
        try go_ret2
        rw [← HQ.out, HE.out]
        exact ⟨rfl, HBK.out⟩
      · have hb' : 0 ≤ (bestN Ru.n4 (has4R y) rs rs.length).2 := by omega
        have HE : Hid _ := bestE_pos hb'
        obtain ⟨i, r', hi, hr', e1, e2⟩ := bestN_at rs.length (Nat.le_refl _) hb'
        rw [bref_pos hb']
        rw [e1] at HE ⊢
        have q7 : decide ((i : Int) < 0) = false := decide_eq_false (by omega)
        clear hin hb hb' hBk e1 e2 hr'
        go_wp2
        try go_ret2
        rw [← HQ.out, HE.out]
        exact ⟨rfl, HBK.out⟩


set_option maxRecDepth 100000 in
set_option maxHeartbeats 4000000 in
theorem RBest6_any (d : Dom) (hd : d.In) (rs : List Ru) (hrs : ∀ r ∈ rs, r.In) (hlen : rs.length ≤ 1000000) (v : Value) (y : List Int) (yf : FitB y) (yl : y.length = 16) (w : World) (hv : RsAt w v rs) :
    Calls Tryz.prog 21 #[DV d v, A6 y] w fun e w' => e = .returned (bestE Ru.n6 (has6R y) rs) ∧ Below w.heap.size w w' := by
  generalize hQ : (fun (e : Ending) (w' : World) => e = .returned (bestE Ru.n6 (has6R y) rs) ∧ Below w.heap.size w w') = Q
  have HQ : Hid _ := hQ
  clear hQ
  have hB0 : Below w.heap.size w ((w.alloc (DO d v)).alloc (.cells (u8s y).toArray 24)) := ((Below.refl _ w).alloc (Nat.le_refl _) _).alloc (by simp) _
  have hd0 : ((w.alloc (DO d v)).alloc (.cells (u8s y).toArray 24)).heap[w.heap.size]? = some (DO d v) := blk_alloc (blk_new w _) _
  have hy0 : ((w.alloc (DO d v)).alloc (.cells (u8s y).toArray 24)).heap[w.heap.size + 1]? = some (.cells (u8s y).toArray 24) := by
    have := blk_new (w.alloc (DO d v)) (.cells (u8s y).toArray 24)
    rwa [show (w.alloc (DO d v)).heap.size = w.heap.size + 1 by simp] at this
  have hv0 := hv.below hB0
  generalize hW0 : (w.alloc (DO d v)).alloc (.cells (u8s y).toArray 24) = W0 at *
  have hW0' : (w.alloc (.cells (dc d v).toArray 29)).alloc (.cells (u8s y).toArray 24) = W0 := hW0
  obtain ⟨ad, cap, rfl, h1, h2, h3⟩ := hv0
  have hin := bestN_in (n := Ru.n6) (hs := has6R y) (rs := rs) (fun r hr => (hrs r hr).b6)
  have H3 : Hid _ := h3
  have HV : Hid _ := hv
  clear hW0 h3 hv
  go_enter Tryz.func21, Tryz.ntmps21
  go_wp2
  try rw [hW0']
  clear hW0'
  go_loopw [6, 7] (fun b i wr => ∃ k : Nat, k ≤ rs.length ∧ i = .int .i64 k ∧ b = .int .i64 (bref Ru.n6 (has6R y) rs k) ∧ Below W0.heap.size W0 wr) (fun _ i _ => rs.length - (intOf i).toNat)
  case atStart => exact ⟨0, Nat.zero_le _, rfl, rfl, Below.refl _ _⟩
  case round =>
    obtain ⟨k, hk, rfl, rfl, hBk⟩ := hrel
    have hdk := (hBk.block _ (Array.getElem?_eq_some_iff.1 hd0).1).trans hd0
    have hyk := (hBk.block _ (Array.getElem?_eq_some_iff.1 hy0).1).trans hy0
    have c34 := blk_cell hdk (dc_34 hd _)
    by_cases hlt : k < rs.length
    · obtain ⟨r, hr⟩ : ∃ r, rs[k]? = some r := ⟨_, List.getElem?_eq_getElem hlt⟩
      have hrin := hrs r (List.mem_of_getElem? hr)
      obtain ⟨g, off, rfl, hg, hc⟩ := H3.out (fun e => by rw [e] at hlt; simp at hlt)
      have hgk : g < wr.heap.size := Nat.lt_of_lt_of_le hg hBk.size
      have hcx : ∀ (x : Hi wr) (j : Nat) r', rs[j]? = some r' → CellsAt x.W g (off + j * 25) (rc r') := fun x j r' hj i u hi => (x.below.cell (p := ⟨g, _, none⟩) hgk).trans ((hBk.cell (p := ⟨g, _, none⟩) hg).trans (hc j r' hj i u hi))
      have hck := fun x => hcx x k r hr
      have HCX : Hid _ := hcx
      have HLP : Hid (∀ x : Hi wr, (Instr.loadAt 26 (.pointer (some ⟨g, off + k * 25, none⟩))).run Tryz.prog x.W = .ok (P6 r.l6 r.n6) x.W) := fun x => loadP6 hrin.k6 (rule_cells hrin (hck x)).1
      have HLY : Hid (∀ x : Hi wr, (Instr.loadAt 24 (.pointer (some ⟨w.heap.size + 1, 0, none⟩))).run Tryz.prog x.W = .ok (A6 y) x.W) := fun x => agg_load (n := 16) (fun w => by kernel_rfl) (fun w => by kernel_rfl) (by simp [yl, b8_length, u8s_length]) (CellsAt.blk (Hi.blk hyk x))
      have d34 : ∀ x : Hi wr, x.W.cell? ⟨w.heap.size, 34, none⟩ = some (.slice (some ⟨g, off, none⟩) rs.length cap) := fun x => blk_cell (Hi.blk hdk x) (dc_34 hd _)
      have HHAS : Hid (∀ x : Hi wr, Calls Tryz.prog 27 #[P6 r.l6 r.n6, A6 y] x.W fun e w' => e = .returned (.tuple #[.bool (has6R y r), .int .i64 (if okP6 r.l6 r.n6 = true then 0 else 22)]) ∧ Below x.W.heap.size x.W w') := fun x => (fun W => RHas6_calls r.l6 r.n6 y W hrin.f6 hrin.k6 yf yl hrin.b6) x.W
      have q1 : decide ((k : Int) < rs.length) = true := by simpa using hlt
      have hln : ∀ x : Hi wr, x.W.cell? ⟨g, off + k * 25 + 16, none⟩ = some (.int .i64 r.n6) := fun x => (rule_cells hrin (hck x)).2.2.1
      have w9 : IntKind.i64.wrap ((k : Int) + 1) = (k : Int) + 1 := wrap_i64 _ ⟨by omega, by omega⟩
      have HR : Hid _ := hr
      have HIN : Hid _ := hin
      have HBK : Hid _ := hBk
      have HDK : Hid _ := hdk
      have HERR : Hid (has6R y r = true → (if okP6 r.l6 r.n6 = true then (0 : Int) else 22) = 0) := fun e => by rw [if_pos (has6_pos e).2]
      clear hc hcx hck hr hin hBk hdk hyk
      generalize (if okP6 r.l6 r.n6 = true then (0 : Int) else 22) = er at HHAS HERR
      generalize hbb : bref Ru.n6 (has6R y) rs k = bb
      have HBB : Hid _ := hbb
      clear hbb
      go_wp2_with fail
      refine wp_region_hi (by kernel_rfl) (by kernel_rfl) ?_
      repeat (first | go_big_quiet_skip | (go_big_quiet_want; refine hi_load (.tmp 22) 26 rfl rfl HLP.out ?_; simp only [Act.put, List.setIfInBounds_toArray, List.set_cons_zero, List.set_cons_succ]; go_big_quiet_on) | (go_big_quiet_want; refine hi_load (.tmp 3) 24 rfl rfl HLY.out ?_; simp only [Act.put, List.setIfInBounds_toArray, List.set_cons_zero, List.set_cons_succ]; go_big_quiet_on) | (go_big_quiet_want; go_big_quiet_op; first | go_big_quiet_on | go_big_quiet_call (first | (go_at_call 27; with_reducible exact Hi.calls (HHAS.out _)))))
      refine wpQuiet_nil ?_
      intro _ hw
      obtain ⟨yy, rfl⟩ := hw
      have hBy := HBK.out.trans (yy.below.mono HBK.out.size)
      have HBY : Hid _ := hBy
      clear HHAS HLP HLY hBy c34
      have hlnK := hln
      cases hh : has6R y r with
      | false =>
        have HNX : Hid _ := (bref_none (n := Ru.n6) HR.out hh).trans HBB.out
        clear hln hlnK hh HERR
        go_wp2_with fail
        refine wp_region_up (by kernel_rfl) (by kernel_rfl) ?_
        repeat (first | go_big_quiet_skip | (go_big_quiet_want; go_big_quiet_op; first | go_big_quiet_on | go_big_quiet_call (fail)))
        refine wpQuiet_nil ?_
        intro _ hw
        obtain ⟨z, rfl⟩ := hw
        go_wp2
        go_roundw
        case rel => exact ⟨k + 1, hlt, rfl, by rw [HNX.out], HBK.out.trans (z.below.mono HBK.out.size)⟩
        case measure => show rs.length - (k + 1) < rs.length - k; omega
      | true =>
        obtain rfl : er = 0 := HERR.out hh
        by_cases hb : (bestN Ru.n6 (has6R y) rs k).2 < 0
        · have HNX : Hid _ := bref_first (n := Ru.n6) HR.out hh (has6_pos hh).1 hb
          obtain rfl : bb = -1 := HBB.out.symm.trans (bref_neg hb)
          clear hln hlnK hh HERR hb HBB
          go_wp2_with fail
          refine wp_region_up (by kernel_rfl) (by kernel_rfl) ?_
          repeat (first | go_big_quiet_skip | (go_big_quiet_want; go_big_quiet_op; first | go_big_quiet_on | go_big_quiet_call (fail)))
          refine wpQuiet_nil ?_
          intro _ hw
          obtain ⟨z, rfl⟩ := hw
          go_wp2
          go_roundw
          case rel => exact ⟨k + 1, hlt, rfl, by rw [HNX.out], HBK.out.trans (z.below.mono HBK.out.size)⟩
          case measure => show rs.length - (k + 1) < rs.length - k; omega
        · have hb' : 0 ≤ (bestN Ru.n6 (has6R y) rs k).2 := by omega
          obtain ⟨i, r', hi, hr', e1, e2⟩ := bestN_at k hk hb'
          have hrin' := hrs r' (List.mem_of_getElem? hr')
          have hln' : ∀ x : Hi wr, x.W.cell? ⟨g, off + i * 25 + 16, none⟩ = some (.int .i64 r'.n6) := fun x => (rule_cells hrin' (HCX.out x i r' hr')).2.2.1
          obtain rfl : bb = (i : Nat) := by rw [← HBB.out, bref_pos hb', e1]
          have q7 : decide ((i : Int) < 0) = false := decide_eq_false (by omega)
          have q8 : decide ((i : Int) < rs.length) = true := decide_eq_true (by omega)
          have hil : i < rs.length := by omega
          by_cases hgt : r'.n6 < r.n6
          · have HNX : Hid _ := bref_more (n := Ru.n6) HR.out hh hb' (by rw [e2]; exact hgt)
            have q9 : decide (r'.n6 < r.n6) = true := decide_eq_true hgt
            clear hlnK hh HERR hb hb' HBB hgt e1 e2 hr' hrin'
            go_wp2_with fail
            refine wp_region_up (by kernel_rfl) (by kernel_rfl) ?_
            repeat (first | go_big_quiet_skip | (go_big_quiet_want; go_big_quiet_op; first | go_big_quiet_on | go_big_quiet_call (fail)))
            refine wpQuiet_nil ?_
            intro _ hw
            obtain ⟨z, rfl⟩ := hw
            go_wp2
            go_roundw
            case rel => exact ⟨k + 1, hlt, rfl, by rw [HNX.out], HBK.out.trans (z.below.mono HBK.out.size)⟩
            case measure => show rs.length - (k + 1) < rs.length - k; omega
          · have HNX : Hid _ := (bref_less (n := Ru.n6) (hs := has6R y) HR.out (by rw [e2]; exact hgt)).trans HBB.out
            have q9 : decide (r'.n6 < r.n6) = false := decide_eq_false hgt
            clear hlnK hh HERR hb hb' HBB hgt e1 e2 hr' hrin'
            go_wp2_with fail
            refine wp_region_up (by kernel_rfl) (by kernel_rfl) ?_
            repeat (first | go_big_quiet_skip | (go_big_quiet_want; go_big_quiet_op; first | go_big_quiet_on | go_big_quiet_call (fail)))
            refine wpQuiet_nil ?_
            intro _ hw
            obtain ⟨z, rfl⟩ := hw
            go_wp2
            go_roundw
            case rel => exact ⟨k + 1, hlt, rfl, by rw [HNX.out], HBK.out.trans (z.below.mono HBK.out.size)⟩
            case measure => show rs.length - (k + 1) < rs.length - k; omega
    · obtain rfl : k = rs.length := by omega
      have HBK : Hid _ := hB0.trans (hBk.mono hB0.size)
      by_cases hb : (bestN Ru.n6 (has6R y) rs rs.length).2 < 0
      · have HE : Hid _ := bestE_neg hb (bestN_zero (fun r _ h => (has6_pos h).1) _ hb)
        rw [bref_neg hb]
        clear hin hb hBk
        go_wp2
        try go_ret2
        rw [← HQ.out, HE.out]
        exact ⟨rfl, HBK.out⟩
      · have hb' : 0 ≤ (bestN Ru.n6 (has6R y) rs rs.length).2 := by omega
        have HE : Hid _ := bestE_pos hb'
        obtain ⟨i, r', hi, hr', e1, e2⟩ := bestN_at rs.length (Nat.le_refl _) hb'
        rw [bref_pos hb']
        rw [e1] at HE ⊢
        have q7 : decide ((i : Int) < 0) = false := decide_eq_false (by omega)
        clear hin hb hb' hBk e1 e2 hr'
        go_wp2
        try go_ret2
        rw [← HQ.out, HE.out]
        exact ⟨rfl, HBK.out⟩


end Go.Proofs.YtaebknkjhhcneaaGreatDoor

namespace Go.Proofs.YtaebknkjhhcneaaGreatDoor
open Go Go.RowKit
set_option linter.unusedVariables false
set_option linter.unusedSimpArgs false

set_option maxRecDepth 100000 in
set_option maxHeartbeats 4000000 in
theorem ROwn_any (d : Dom) (hd : d.In) (rs : List Ru) (hrs : ∀ r ∈ rs, r.In) (hlen : rs.length ≤ 1000000) (v : Value) (y : List Int) (yf : FitB y) (yl : y.length = 4) (n : Nat) (hn : n < 65536) (w : World) (hv : RsAt w v rs) :
    Calls Tryz.prog 23 #[DV d v, A4L y, .int .u16 n] w fun e w' => e = .returned (ownE (ownT rs y n)) ∧ Below w.heap.size w w' := by
  generalize hQ : (fun (e : Ending) (w' : World) => e = .returned (ownE (ownT rs y n)) ∧ Below w.heap.size w w') = Q
  have HQ : Hid _ := hQ
  clear hQ
  have hB0 : Below w.heap.size w (((w.alloc (DO d v)).alloc (.cells (b8 y).toArray 61)).alloc (.cells zero16V.toArray 24)) := (((Below.refl _ w).alloc (Nat.le_refl _) _).alloc (by simp) _).alloc (by simp; omega) _
  have hd0 : (((w.alloc (DO d v)).alloc (.cells (b8 y).toArray 61)).alloc (.cells zero16V.toArray 24)).heap[w.heap.size]? = some (DO d v) := blk_alloc (blk_alloc (blk_new w _) _) _
  have hy0 : (((w.alloc (DO d v)).alloc (.cells (b8 y).toArray 61)).alloc (.cells zero16V.toArray 24)).heap[w.heap.size + 1]? = some (.cells (b8 y).toArray 61) := by
    have := blk_alloc (blk_new (w.alloc (DO d v)) (.cells (b8 y).toArray 61)) (.cells zero16V.toArray 24)
    rwa [show (w.alloc (DO d v)).heap.size = w.heap.size + 1 by simp] at this
  have hz0 : (((w.alloc (DO d v)).alloc (.cells (b8 y).toArray 61)).alloc (.cells zero16V.toArray 24)).heap[w.heap.size + 2]? = some (.cells zero16V.toArray 24) := by
    have := blk_new ((w.alloc (DO d v)).alloc (.cells (b8 y).toArray 61)) (.cells zero16V.toArray 24)
    rwa [show ((w.alloc (DO d v)).alloc (.cells (b8 y).toArray 61)).heap.size = w.heap.size + 2 by simp] at this
  generalize hW0 : ((w.alloc (DO d v)).alloc (.cells (b8 y).toArray 61)).alloc (.cells zero16V.toArray 24) = W0 at *
  have HV0 : Hid _ := hv.below hB0
  have HB : Hid _ := RBest4_any d hd rs hrs hlen v y yf yl W0 (hv.below hB0)
  have HLD : Hid _ := loadD hd hd0
  have HLY : Hid ((Instr.loadAt 61 (.pointer (some ⟨w.heap.size + 1, 0, none⟩))).run Tryz.prog W0 = .ok (A4L y) W0) := agg_load (n := 4) (fun w => by kernel_rfl) (fun w => by kernel_rfl) (by rw [b8_length, yl]) (CellsAt.blk hy0)
  have HW0 : Hid (((w.alloc (.cells (dc d v).toArray 29)).alloc (.cells (b8 y).toArray 61)).alloc (.cells zero16V.toArray 24) = W0) := hW0
  clear hW0
  go_enter Tryz.func23, Tryz.ntmps23
  go_wp2_with first
    | ((with_reducible show wpList _ _ _ _ _ _); rw [show ((w.alloc (.cells (dc d v).toArray 29)).alloc (.cells (b8 y).toArray 61)).alloc (.cells #[.int .u8 0, .int .u8 0, .int .u8 0, .int .u8 0, .int .u8 0, .int .u8 0, .int .u8 0, .int .u8 0, .int .u8 0, .int .u8 0, .int .u8 0, .int .u8 0, .int .u8 0, .int .u8 0, .int .u8 0, .int .u8 0] 24) = W0 from HW0.out]; refine armL (.tmp 3) 29 rfl rfl rfl HLD.out ?_)
    | ((with_reducible show wpList _ _ _ _ _ _); refine armL (.tmp 4) 61 rfl rfl rfl HLY.out ?_)
  refine Calls.mono HB.out ?_
  rintro e w1 ⟨rfl, hB1⟩
  have hB1' := hB0.trans (hB1.mono hB0.size)
  have hz1 := (hB1.block _ (Array.getElem?_eq_some_iff.1 hz0).1).trans hz0
  have hd1 := (hB1.block _ (Array.getElem?_eq_some_iff.1 hd0).1).trans hd0
  have hy1 := (hB1.block _ (Array.getElem?_eq_some_iff.1 hy0).1).trans hy0
  have hv1 := RsAt.below HV0.out hB1
  have lz := (Array.getElem?_eq_some_iff.1 hz1).1
  unfold bestE
  clear HB HLD HLY HW0 HV0 hz0 hd0 hy0 hB0 hB1
  by_cases hf : 0 ≤ (bestN Ru.n4 (has4R y) rs rs.length).2
  · obtain ⟨i, hi, ei⟩ := bestN_found (n := Ru.n4) (hs := has4R y) rs.length (Nat.le_refl _) hf
    obtain ⟨r, hr⟩ : ∃ r, rs[i]? = some r := ⟨_, List.getElem?_eq_getElem hi⟩
    have hrin := hrs r (List.mem_of_getElem? hr)
    obtain ⟨L, hL, hme, hL0⟩ := map_form r hrin y n
    have hT : ownT rs y n = if (ofV r y n).2 = 0 then (ownL r (ofV r y n).1, (i : Int), 0) else (List.replicate 16 0, 0, (ofV r y n).2) := by
      unfold ownT
      rw [if_pos hf, ei, Int.toNat_natCast, hr]
    have HT : Hid _ := hT
    have hM := fun W => RMap_any r hrin y yf yl n hn W
    rw [hme] at hM
    have HM : Hid _ := hM
    obtain ⟨ad, cap, rfl, k1, k2, k3⟩ := hv1
    obtain ⟨g, off, rfl, hg, hc⟩ := k3 (fun e => by rw [e] at hi; simp at hi)
    rw [ei]
    have q1 : decide (0 ≤ (bestN Ru.n4 (has4R y) rs rs.length).2) = true := by simpa using hf
    rw [q1]
    clear hT hM hme k3 q1 hf ei
    generalize (ofV r y n).2 = er at *
    have HLR : Hid (∀ W, Below w1.heap.size w1 W → (Instr.loadAt 65 (.pointer (some ⟨g, off + i * 25, none⟩))).run Tryz.prog W = .ok (RV r) W) := fun W hW => agg_load (n := 25) (fun w => by kernel_rfl) (fun w => by kernel_rfl) (rc_length hrin) (fun j u hj => (hW.cell (p := ⟨g, _, none⟩) hg).trans (hc i r hr j u hj))
    have HLS : Hid (∀ W, Below w1.heap.size w1 W → W.cell? ⟨w.heap.size, 34, none⟩ = some (.slice (some ⟨g, off, none⟩) rs.length cap)) := fun W hW => blk_cell ((hW.block _ (Array.getElem?_eq_some_iff.1 hd1).1).trans hd1) (dc_34 hd _)
    have HLY : Hid (∀ W, Below w1.heap.size w1 W → (Instr.loadAt 61 (.pointer (some ⟨w.heap.size + 1, 0, none⟩))).run Tryz.prog W = .ok (A4L y) W) := fun W hW => agg_load (n := 4) (fun w => by kernel_rfl) (fun w => by kernel_rfl) (by rw [b8_length, yl]) (CellsAt.blk ((hW.block _ (Array.getElem?_eq_some_iff.1 hy1).1).trans hy1))
    have hs0 : Below w1.heap.size w1 w1.drew := (Below.refl _ w1).drew
    go_wp2_with fail
    refine region_midG (fun a0 a' w' => ∃ b9, a' = ((((((((((((((a0.put (some 23) (.pointer (some ⟨w.heap.size, 34, none⟩))).put (some 24) (.slice (some ⟨g, off, none⟩) rs.length cap)).put (some 25) (.int .i64 (i : Nat))).put (some 26) (.pointer (some ⟨g, off + i * 25, none⟩))).put (some 27) (RV r)).put (some 28) (A4L y)).put (some 29) (.int .u16 (n : Nat))).put (some 30) (.tuple #[A6 L, .int .i64 er])).put (some 22) (.tuple #[A6 L, .int .i64 er])).put (some 31) (A6 L)).put (some 32) (.int .i64 er)).put (some 11) (.pointer (some ⟨b9, 0, none⟩))).put (some 12) (.int .i64 er))) ∧ w'.heap[b9]? = some (.cells (u8s L).toArray 24) ∧ Below w1.heap.size w1 w') ?_ ?_
    · skip

      refine wp_region_held (S := fun W => Below w1.heap.size w1 W) (by kernel_rfl) ?_
      show wpAnyH _ _ _ _ _ 14 (Array.replicate 14 false) _ w1.drew
      refine take_one (i := 0) (d := some 23) (v := .pointer (some ⟨w.heap.size, 34, none⟩)) rfl rfl rfl (by kernel_rfl) (by kernel_rfl) (by kernel_rfl) (fun _ _ _ _ _ h => h.elim) (fun W hS => by kernel_rfl) hs0 ?_
      simp only [Act.put, List.setIfInBounds_toArray, List.set_cons_zero, List.set_cons_succ]
      refine take_one (i := 1) (d := some 24) (v := .slice (some ⟨g, off, none⟩) rs.length cap) rfl rfl rfl (by kernel_rfl) (by kernel_rfl) (by kernel_rfl) (fun _ _ _ _ _ h => h.elim) (fun W hS => ex_loadSl 23 rfl rfl (HLS.out W hS)) hs0 ?_
      simp only [Act.put, List.setIfInBounds_toArray, List.set_cons_zero, List.set_cons_succ]
      refine take_one (i := 2) (d := some 25) (v := .int .i64 (i : Nat)) rfl rfl rfl (by kernel_rfl) (by kernel_rfl) (by kernel_rfl) (fun _ _ _ _ _ h => h.elim) (fun W hS => by kernel_rfl) hs0 ?_
      simp only [Act.put, List.setIfInBounds_toArray, List.set_cons_zero, List.set_cons_succ]
      refine take_one (i := 3) (d := some 26) (v := .pointer (some ⟨g, off + i * 25, none⟩)) rfl rfl rfl (by kernel_rfl) (by kernel_rfl) (by kernel_rfl) (fun _ _ _ _ _ h => h.elim) (fun W hS => ex_idx 24 25 rfl rfl rfl hi) hs0 ?_
      simp only [Act.put, List.setIfInBounds_toArray, List.set_cons_zero, List.set_cons_succ]
      refine take_one (i := 4) (d := some 27) (v := RV r) rfl rfl rfl (by kernel_rfl) (by kernel_rfl) (by kernel_rfl) (fun _ _ _ _ _ h => h.elim) (fun W hS => ex_loadA (.tmp 26) 65 rfl rfl (HLR.out W hS)) hs0 ?_
      simp only [Act.put, List.setIfInBounds_toArray, List.set_cons_zero, List.set_cons_succ]
      refine take_one (i := 5) (d := some 28) (v := A4L y) rfl rfl rfl (by kernel_rfl) (by kernel_rfl) (by kernel_rfl) (fun _ _ _ _ _ h => h.elim) (fun W hS => ex_loadA (.tmp 4) 61 rfl rfl (HLY.out W hS)) hs0 ?_
      simp only [Act.put, List.setIfInBounds_toArray, List.set_cons_zero, List.set_cons_succ]
      refine take_one (i := 6) (d := some 29) (v := .int .u16 (n : Nat)) rfl rfl rfl (by kernel_rfl) (by kernel_rfl) (by kernel_rfl) (fun _ _ _ _ _ h => h.elim) (fun W hS => by kernel_rfl) hs0 ?_
      simp only [Act.put, List.setIfInBounds_toArray, List.set_cons_zero, List.set_cons_succ]
      refine all_two (i1 := 7) (i2 := 11) (by kernel_rfl) rfl rfl rfl rfl ?_ ?_
      · refine wp_call (d := some 30) 55 _ rfl (by kernel_rfl) (callG (HM.out _)) ?_
        rintro _ W2 ⟨rfl, hB2⟩
        have hB2s := hs0.trans hB2
        refine ⟨hB2s, ?_⟩
        simp only [Act.put, List.setIfInBounds_toArray, List.set_cons_zero, List.set_cons_succ]
        refine take_one (i := 8) (d := some 22) (v := .tuple #[A6 L, .int .i64 er]) rfl rfl rfl (by kernel_rfl) (by kernel_rfl) (by kernel_rfl) (fun _ _ _ _ _ h => h.elim) (fun W hS => by kernel_rfl) hB2s ?_
        simp only [Act.put, List.setIfInBounds_toArray, List.set_cons_zero, List.set_cons_succ]
        refine take_one (i := 9) (d := some 31) (v := A6 L) rfl rfl rfl (by kernel_rfl) (by kernel_rfl) (by kernel_rfl) (fun _ _ _ _ _ h => h.elim) (fun W hS => by kernel_rfl) hB2s ?_
        simp only [Act.put, List.setIfInBounds_toArray, List.set_cons_zero, List.set_cons_succ]
        refine take_one (i := 10) (d := some 32) (v := .int .i64 er) rfl rfl rfl (by kernel_rfl) (by kernel_rfl) (by kernel_rfl) (fun _ _ _ _ _ h => h.elim) (fun W hS => by kernel_rfl) hB2s ?_
        simp only [Act.put, List.setIfInBounds_toArray, List.set_cons_zero, List.set_cons_succ]
        obtain ⟨w5, hst, hb5, hB5⟩ := box_new (ty := 24) (n := 16) (fun w => by kernel_rfl) W2 zero16V rfl (u8s L) (by rw [u8s_length, hL]) (u8s_one L)
        refine all_one (i := 11) (by kernel_rfl) rfl rfl ?_
        refine wp_allocA (d := some 11) 24 rfl rfl (v := .pointer (some ⟨W2.heap.size, 0, none⟩)) (w2 := W2.alloc (.cells zero16V.toArray 24)) (by simp [execOp, go_sem]) ⟨hB2s.trans (((Below.refl _ W2).alloc (Nat.le_refl _) _).mono hB2s.size), ?_⟩
        simp only [Act.put, List.setIfInBounds_toArray, List.set_cons_zero, List.set_cons_succ]
        have hB5s := hB2s.trans (hB5.mono hB2s.size)
        refine all_one (i := 12) (by kernel_rfl) rfl rfl ?_
        refine wp_storeA (.tmp 11) (.tmp 31) 24 rfl rfl rfl rfl hst ⟨hB5s, ?_⟩
        refine take_one (i := 13) (d := some 12) (v := .int .i64 er) rfl rfl rfl (by kernel_rfl) (by kernel_rfl) (by kernel_rfl) (fun _ _ _ _ _ h => h.elim) (fun W hS => by kernel_rfl) hB5s ?_
        simp only [Act.put, List.setIfInBounds_toArray, List.set_cons_zero, List.set_cons_succ]
        refine wpAnyH_done (by kernel_rfl) ?_ _
        exact ⟨W2.heap.size, rfl, hb5, hB5s⟩
      · have hBa := hs0.trans ((Below.refl _ w1.drew).alloc (Nat.le_refl _) (.cells zero16V.toArray 24))
        have hk := blk_new w1.drew (.cells zero16V.toArray 24)
        refine wp_allocA (d := some 11) 24 rfl rfl (v := .pointer (some ⟨w1.heap.size, 0, none⟩)) (w2 := w1.drew.alloc (.cells zero16V.toArray 24)) (by simp [execOp, go_sem]) ⟨hBa, ?_⟩
        simp only [Act.put, List.setIfInBounds_toArray, List.set_cons_zero, List.set_cons_succ]
        refine all_one (i := 7) (by kernel_rfl) rfl rfl ?_
        refine wp_call (d := some 30) 55 _ rfl (by kernel_rfl) (callG (HM.out _)) ?_
        rintro _ W2 ⟨rfl, hB2⟩
        have hB2s := hBa.trans (hB2.mono hBa.size)
        have hk2 := (hB2.block w1.heap.size (by simp)).trans hk
        refine ⟨hB2s, ?_⟩
        simp only [Act.put, List.setIfInBounds_toArray, List.set_cons_zero, List.set_cons_succ]
        refine take_one (i := 8) (d := some 22) (v := .tuple #[A6 L, .int .i64 er]) rfl rfl rfl (by kernel_rfl) (by kernel_rfl) (by kernel_rfl) (fun _ _ _ _ _ h => h.elim) (fun W hS => by kernel_rfl) hB2s ?_
        simp only [Act.put, List.setIfInBounds_toArray, List.set_cons_zero, List.set_cons_succ]
        refine take_one (i := 9) (d := some 31) (v := A6 L) rfl rfl rfl (by kernel_rfl) (by kernel_rfl) (by kernel_rfl) (fun _ _ _ _ _ h => h.elim) (fun W hS => by kernel_rfl) hB2s ?_
        simp only [Act.put, List.setIfInBounds_toArray, List.set_cons_zero, List.set_cons_succ]
        refine take_one (i := 10) (d := some 32) (v := .int .i64 er) rfl rfl rfl (by kernel_rfl) (by kernel_rfl) (by kernel_rfl) (fun _ _ _ _ _ h => h.elim) (fun W hS => by kernel_rfl) hB2s ?_
        simp only [Act.put, List.setIfInBounds_toArray, List.set_cons_zero, List.set_cons_succ]
        obtain ⟨w5, hst, hb5, ho5⟩ := box_store (ty := 24) (n := 16) (c := zero16V) (fun w => by kernel_rfl) hk2 rfl (u8s L) (by rw [u8s_length, hL]) (u8s_one L)
        have hB5s := hB2s.trans (ho5.below (Nat.le_refl _))
        refine all_one (i := 12) (by kernel_rfl) rfl rfl ?_
        refine wp_storeA (.tmp 11) (.tmp 31) 24 rfl rfl rfl rfl hst ⟨hB5s, ?_⟩
        refine take_one (i := 13) (d := some 12) (v := .int .i64 er) rfl rfl rfl (by kernel_rfl) (by kernel_rfl) (by kernel_rfl) (fun _ _ _ _ _ h => h.elim) (fun W hS => by kernel_rfl) hB5s ?_
        simp only [Act.put, List.setIfInBounds_toArray, List.set_cons_zero, List.set_cons_succ]
        refine wpAnyH_done (by kernel_rfl) ?_ _
        exact ⟨w1.heap.size, rfl, hb5, hB5s⟩
    rintro a' V ⟨b9, rfl, hb9, hBV⟩
    simp only [Act.put, List.setIfInBounds_toArray, List.set_cons_zero, List.set_cons_succ]
    have hzV := (hBV.block _ lz).trans hz1
    have hBVw := hB1'.trans (hBV.mono hB1'.size)
    clear HLR HLS HLY HM hs0 hd1 hy1 hz1 hBV hB1'
    by_cases he : er = 0
    · have hT2 : ownT rs y n = (L, (i : Int), 0) := by rw [HT.out, if_pos he, hL0 he]
      obtain ⟨w6, hst6, hb6, ho6⟩ := box_store (ty := 24) (n := 16) (fun w => by kernel_rfl) hzV rfl (u8s L) (by rw [u8s_length, hL]) (u8s_one L)
      have HST : Hid _ := hst6
      have HLB : Hid _ := load6 hL (CellsAt.blk hb9)
      have HRES : Hid ((loadVar 24 ⟨w.heap.size + 2, 0, none⟩).run Tryz.prog w6 = .ok (A6 L) w6) := agg_loadVar (n := 16) (fun w => by kernel_rfl) (fun w => by kernel_rfl) (by rw [u8s_length, hL]) (CellsAt.blk hb6)
      subst he
      clear hst6 HT hc hr hrs hrin hL0 k1 k2 hv hzV hb9 hb6 hlen hd
      go_wp2_with first
        | ((with_reducible show wpList _ _ _ _ _ _); refine armL (.tmp 11) 24 rfl rfl rfl HLB.out ?_)
        | ((with_reducible show wpList _ _ _ _ _ _); refine armS (.tmp 6) (.tmp 37) 24 rfl rfl rfl rfl HST.out ?_)
      refine bodyPost_ret (res3c Tryz.results23 (R := ⟨w.heap.size + 2, 0, none⟩) rfl HRES.out) rfl ?_
      rw [← HQ.out, hT2]
      exact ⟨rfl, hBVw.trans (ho6.below (by omega))⟩
    · have hT2 : ownT rs y n = (List.replicate 16 0, 0, er) := by rw [HT.out, if_neg he]
      obtain ⟨w6, hst6, hb6, ho6⟩ := box_store (ty := 24) (n := 16) (fun w => by kernel_rfl) hzV rfl zero16V rfl zero16V_one
      have HST : Hid _ := hst6
      have HRES : Hid ((loadVar 24 ⟨w.heap.size + 2, 0, none⟩).run Tryz.prog w6 = .ok (.agg zero16V.toArray) w6) := agg_loadVar (n := 16) (fun w => by kernel_rfl) (fun w => by kernel_rfl) rfl (CellsAt.blk hb6)
      have q2 : (er != 0) = true := by simpa using he
      clear hst6 HT hc hr hrs hrin hL0 k1 k2 hv hzV hb9 hb6 hlen hd he
      go_wp2_with first
        | ((with_reducible show wpList _ _ _ _ _ _); refine armS (.tmp 6) (.tmp 35) 24 rfl rfl rfl rfl HST.out ?_)
      refine bodyPost_ret (res3c Tryz.results23 (R := ⟨w.heap.size + 2, 0, none⟩) rfl HRES.out) rfl ?_
      rw [← HQ.out, hT2]
      exact ⟨rfl, hBVw.trans (ho6.below (by omega))⟩
  · have hT2 : ownT rs y n = (List.replicate 16 0, 0, 113) := by unfold ownT; rw [if_neg hf]
    have q1 : decide (0 ≤ (bestN Ru.n4 (has4R y) rs rs.length).2) = false := by simpa using hf
    rw [q1]
    generalize (bestN Ru.n4 (has4R y) rs rs.length).1 = m1
    obtain ⟨w6, hst6, hb6, ho6⟩ := box_store (ty := 24) (n := 16) (fun w => by kernel_rfl) hz1 rfl zero16V rfl zero16V_one
    have HST : Hid _ := hst6
    have HRES : Hid ((loadVar 24 ⟨w.heap.size + 2, 0, none⟩).run Tryz.prog w6 = .ok (.agg zero16V.toArray) w6) := agg_loadVar (n := 16) (fun w => by kernel_rfl) (fun w => by kernel_rfl) rfl (CellsAt.blk hb6)
    clear hst6 hf q1
    go_wp2_with first
      | ((with_reducible show wpList _ _ _ _ _ _); refine armS (.tmp 6) (.tmp 21) 24 rfl rfl rfl rfl HST.out ?_)
    refine bodyPost_ret (res3c Tryz.results23 (R := ⟨w.heap.size + 2, 0, none⟩) rfl HRES.out) rfl ?_
    rw [← HQ.out, hT2]
    exact ⟨rfl, hB1'.trans (ho6.below (by omega))⟩


end Go.Proofs.YtaebknkjhhcneaaGreatDoor
