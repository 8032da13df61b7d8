/-
  The document's parse of package icmp.
  The document's Parse4 and Parse6 of package icmp; IcmpParses.
-/
import Derived.Test.YtpgnnplpcalbbaaGreatFold25
set_option linter.unusedVariables false
set_option linter.unusedSimpArgs false
namespace Go.Proofs.YtpgnnplpcalbbaaGreat.Icm
open Go Go.RowKit Go.Shelf
theorem ex_cv832 {o : Oper} {a : Act} {W : World} (k : Nat) {x : Int} (hop : o.op = Op.convert 5 33 (.tmp k)) (hk : a.eval (.tmp k) = .int .u8 x) (hx : 0 ≤ x ∧ x < 256) :
    (execOp a.eval o).run Tryz.prog W = .ok (.value (.int .u32 x)) W := by
  have e : IntKind.u32.wrap x = x := by rw [IntKind.wrap_u32]; omega
  generalize a.eval = ev at *
  simp [execOp, hop, hk, go_sem, e]
theorem ex_shl32 {o : Oper} {a : Act} {W : World} (k n : Nat) (q : Int) {x : Int} (hop : o.op = Op.binOp .shl 33 (.tmp k) (.const (.int .u64 (n : Int))) 94) (hk : a.eval (.tmp k) = .int .u32 x) (hn : (n = 24 ∧ q = 16777216) ∨ (n = 16 ∧ q = 65536) ∨ (n = 8 ∧ q = 256)) (hx : 0 ≤ x ∧ x < 256) :
    (execOp a.eval o).run Tryz.prog W = .ok (.value (.int .u32 (x * q))) W := by
  have hc : a.eval (.const (.int .u64 (n : Int))) = .int .u64 (n : Int) := rfl
  generalize a.eval = ev at *
  rcases hn with ⟨rfl, rfl⟩ | ⟨rfl, rfl⟩ | ⟨rfl, rfl⟩
  · have e : IntKind.u32.wrap (x * 16777216) = x * 16777216 := by rw [IntKind.wrap_u32]; omega
    simp at hc hop
    simp [execOp, hop, hk, hc, go_sem, e]
  · have e : IntKind.u32.wrap (x * 65536) = x * 65536 := by rw [IntKind.wrap_u32]; omega
    simp at hc hop
    simp [execOp, hop, hk, hc, go_sem, e]
  · have e : IntKind.u32.wrap (x * 256) = x * 256 := by rw [IntKind.wrap_u32]; omega
    simp at hc hop
    simp [execOp, hop, hk, hc, go_sem, e]
theorem ex_add32 {o : Oper} {a : Act} {W : World} (k j : Nat) {t : TypeId} {x y : Int} (hop : o.op = Op.binOp .add 33 (.tmp k) (.tmp j) t) (hk : a.eval (.tmp k) = .int .u32 x) (hj : a.eval (.tmp j) = .int .u32 y) (h : 0 ≤ x + y ∧ x + y ≤ 4294967295) :
    (execOp a.eval o).run Tryz.prog W = .ok (.value (.int .u32 (x + y))) W := by
  have e : IntKind.u32.wrap (x + y) = x + y := by rw [IntKind.wrap_u32]; omega
  generalize a.eval = ev at *
  simp [execOp, hop, hk, hj, go_sem, e]
set_option maxHeartbeats 4000000 in
set_option maxRecDepth 100000 in
theorem Rparse_any (ph : Int → List Int) (hph : ∀ n, (ph n).length ≤ 40) (v hv : Value) (zs : List Int) (w : World) (h : RowC w v zs) (h8 : 8 ≤ zs.length) (hl : zs.length ≤ 65535) (hh : BytesAt w.heap.size w hv (ph zs.length)) :
    Calls Tryz.prog 88 #[v, hv] w fun e w' => ParI ph zs w e w' := by
  obtain ⟨W0, hW0⟩ : ∃ W0, w.alloc (.cells [.int .u8 0, .int .u8 0, .int .u32 0, .slice none 0 0].toArray 46) = W0 := ⟨_, rfl⟩
  have b0 := blk_new w (.cells [.int .u8 0, .int .u8 0, .int .u32 0, .slice none 0 0].toArray 46)
  have hB0 := (Below.refl w.heap.size w).alloc (Nat.le_refl _) (.cells [.int .u8 0, .int .u8 0, .int .u32 0, .slice none 0 0].toArray 46)
  have HS0 : Hid (W0.heap.size = w.heap.size + 1) := by
    have : W0.heap.size = w.heap.size + 1 := by rw [← hW0]; simp
    exact this
  rw [hW0] at b0 hB0
  have hP := parts_two W0 _ _ 25 _ _ (hh.later hB0) (h.on hB0).bytes
  have hBp := (Below.refl W0.heap.size W0).alloc (Nat.le_refl _) (.cells #[hv, v] 25)
  have hfl : [ph zs.length, zs].flatten = ph zs.length ++ zs := by simp
  have hfo := fold_ref _ _ _ _ _ hP (by rw [hfl, List.length_append]; have := hph zs.length; omega)
  rw [hfl] at hfo
  have hm := pE_more (ph := ph) h8 hl
  have hfit := h.fit
  obtain ⟨b, off, cap, rfl, hcap, hbl, hcell⟩ := h.some (by omega)
  have HCE : Hid (∀ W, Below w.heap.size w W → ∀ j, j < zs.length → W.cell? ⟨b, off + j, none⟩ = some (.int .u8 (gz zs j))) := fun W hW j hj => (hW.cell (p := ⟨b, off + j, none⟩) hbl).trans (hcell j hj)
  have HRS : Hid (∀ W, Below w.heap.size w W → BytesAt W.heap.size W (restV b off zs.length cap 8) (zs.drop 8)) := fun W hW => by
    obtain ⟨b', off', cap', hS⟩ := (h.on hW).rowS (by omega)
    obtain ⟨e1, e2, e3⟩ : b = b' ∧ off = off' ∧ cap = cap' := by
      have k := hS.val
      simp at k
      exact ⟨k.1.1, k.1.2, k.2⟩
    subst e1 e2 e3
    exact (hS.rest 8 h8).row.bytes
  have HFO : Hid _ := hfo
  have B0 : Hid _ := b0
  have HB0 : Hid _ := hB0
  have HBP : Hid _ := hBp
  have HM : Hid _ := hm
  have HF : Hid _ := hfit
  obtain ⟨ah, kh, rfl, _⟩ := hh.val
  have hgz : Hid (∀ k, 0 ≤ gz zs k ∧ gz zs k < 256) := fun k => hfit.gz k
  clear h b0 hB0 hBp hP hfo hfl hm hfit hcell hh hph
  generalize (ph zs.length).length = pl at *
  generalize hs : sumW 0 (wordsL (ph zs.length ++ zs)) = s at *
  by_cases h0 : s = 65535
  · subst h0
    have HE : Hid (pE ph zs = 0) := by
      have := HM.out
      rw [if_pos rfl] at this
      exact this
    clear HM hs
    go_enter Tryz.func88, Tryz.ntmps88
    go_wp2_with fail
    refine Calls.mono HFO.out ?_
    rintro _ w1 ⟨rfl, hb1⟩
    have hx1 := HBP.out.trans (hb1.mono HBP.out.size)
    clear hb1 HFO HBP
    have c0 := fun W hW => HCE.out W hW 0 (by omega)
    have C0 : Hid _ := c0
    have c1 := fun W hW => HCE.out W hW 1 (by omega)
    have C1 : Hid _ := c1
    have c4 := fun W hW => HCE.out W hW 4 (by omega)
    have C4 : Hid _ := c4
    have c5 := fun W hW => HCE.out W hW 5 (by omega)
    have C5 : Hid _ := c5
    have c6 := fun W hW => HCE.out W hW 6 (by omega)
    have C6 : Hid _ := c6
    have c7 := fun W hW => HCE.out W hW 7 (by omega)
    have C7 : Hid _ := c7
    have g4 := hgz.out 4
    have g5 := hgz.out 5
    have g6 := hgz.out 6
    have g7 := hgz.out 7
    have GR : Hid (gz zs 4 * 16777216 + gz zs 5 * 65536 + gz zs 6 * 256 + gz zs 7 = rstL zs) := by
      have : gz zs 4 * 16777216 + gz zs 5 * 65536 + gz zs 6 * 256 + gz zs 7 = rstL zs := by unfold rstL; omega
      exact this
    clear c0 c1 c4 c5 c6 c7 HCE
    generalize hg0 : gz zs 0 = z0 at *
    generalize hg1 : gz zs 1 = z1 at *
    have G0 : Hid _ := hg0
    have G1 : Hid _ := hg1
    generalize gz zs 4 = z4 at *
    generalize gz zs 5 = z5 at *
    generalize gz zs 6 = z6 at *
    generalize gz zs 7 = z7 at *
    clear hg0 hg1
    have l0 : 0 < zs.length := by omega
    have l1 : 1 < zs.length := by omega
    have l4 : 4 < zs.length := by omega
    have l5 : 5 < zs.length := by omega
    have l6 : 6 < zs.length := by omega
    have l7 : 7 < zs.length := by omega
    have hw1 : Below w.heap.size w w1 := HB0.out.trans (hx1.mono HB0.out.size)
    go_wp2_with fail
    have hd1 : Below w.heap.size w w1.drew := hw1.drew
    refine wp_region_held (S := fun W => Below w.heap.size w W) (by kernel_rfl) ?_
    show wpAnyH _ _ _ _ _ 23 (Array.replicate 23 false) _ w1.drew
    refine take_one (i := 0) (d := some 13) (v := .slice (some ⟨b, off, none⟩) zs.length cap) rfl rfl rfl (by kernel_rfl) (by kernel_rfl) (by kernel_rfl) (fun _ _ d _ _ h => by cases d <;> exact h) (fun W hS => ex_move (.tmp 0) rfl rfl) hd1 ?_
    simp only [Act.put, List.setIfInBounds_toArray, List.set_cons_zero, List.set_cons_succ]
    refine take_one (i := 1) (d := some 14) (v := .pointer (some ⟨b, off + 4, none⟩)) rfl rfl rfl (by kernel_rfl) (by kernel_rfl) (by kernel_rfl) (fun _ _ d _ _ h => by cases d <;> exact h) (fun W hS => ex_index 13 4 rfl rfl l4) hd1 ?_
    simp only [Act.put, List.setIfInBounds_toArray, List.set_cons_zero, List.set_cons_succ]
    refine take_one (i := 2) (d := some 15) (v := .int .u8 z4) rfl rfl rfl (by kernel_rfl) (by kernel_rfl) (by kernel_rfl) (fun _ _ d _ _ h => by cases d <;> exact h) (fun W hS => ex_load8 14 rfl rfl (C4.out W hS)) hd1 ?_
    simp only [Act.put, List.setIfInBounds_toArray, List.set_cons_zero, List.set_cons_succ]
    refine take_one (i := 3) (d := some 16) (v := .int .u32 z4) rfl rfl rfl (by kernel_rfl) (by kernel_rfl) (by kernel_rfl) (fun _ _ d _ _ h => by cases d <;> exact h) (fun W hS => ex_cv832 15 rfl rfl g4) hd1 ?_
    simp only [Act.put, List.setIfInBounds_toArray, List.set_cons_zero, List.set_cons_succ]
    refine take_one (i := 4) (d := some 17) (v := .int .u32 (z4 * 16777216)) rfl rfl rfl (by kernel_rfl) (by kernel_rfl) (by kernel_rfl) (fun _ _ d _ _ h => by cases d <;> exact h) (fun W hS => ex_shl32 16 24 16777216 rfl rfl (by decide) g4) hd1 ?_
    simp only [Act.put, List.setIfInBounds_toArray, List.set_cons_zero, List.set_cons_succ]
    refine take_one (i := 5) (d := some 18) (v := .slice (some ⟨b, off, none⟩) zs.length cap) rfl rfl rfl (by kernel_rfl) (by kernel_rfl) (by kernel_rfl) (fun _ _ d _ _ h => by cases d <;> exact h) (fun W hS => ex_move (.tmp 0) rfl rfl) hd1 ?_
    simp only [Act.put, List.setIfInBounds_toArray, List.set_cons_zero, List.set_cons_succ]
    refine take_one (i := 6) (d := some 19) (v := .pointer (some ⟨b, off + 5, none⟩)) rfl rfl rfl (by kernel_rfl) (by kernel_rfl) (by kernel_rfl) (fun _ _ d _ _ h => by cases d <;> exact h) (fun W hS => ex_index 18 5 rfl rfl l5) hd1 ?_
    simp only [Act.put, List.setIfInBounds_toArray, List.set_cons_zero, List.set_cons_succ]
    refine take_one (i := 7) (d := some 20) (v := .int .u8 z5) rfl rfl rfl (by kernel_rfl) (by kernel_rfl) (by kernel_rfl) (fun _ _ d _ _ h => by cases d <;> exact h) (fun W hS => ex_load8 19 rfl rfl (C5.out W hS)) hd1 ?_
    simp only [Act.put, List.setIfInBounds_toArray, List.set_cons_zero, List.set_cons_succ]
    refine take_one (i := 8) (d := some 21) (v := .int .u32 z5) rfl rfl rfl (by kernel_rfl) (by kernel_rfl) (by kernel_rfl) (fun _ _ d _ _ h => by cases d <;> exact h) (fun W hS => ex_cv832 20 rfl rfl g5) hd1 ?_
    simp only [Act.put, List.setIfInBounds_toArray, List.set_cons_zero, List.set_cons_succ]
    refine take_one (i := 9) (d := some 22) (v := .int .u32 (z5 * 65536)) rfl rfl rfl (by kernel_rfl) (by kernel_rfl) (by kernel_rfl) (fun _ _ d _ _ h => by cases d <;> exact h) (fun W hS => ex_shl32 21 16 65536 rfl rfl (by decide) g5) hd1 ?_
    simp only [Act.put, List.setIfInBounds_toArray, List.set_cons_zero, List.set_cons_succ]
    refine take_one (i := 10) (d := some 23) (v := .int .u32 (z4 * 16777216 + z5 * 65536)) rfl rfl rfl (by kernel_rfl) (by kernel_rfl) (by kernel_rfl) (fun _ _ d _ _ h => by cases d <;> exact h) (fun W hS => ex_add32 17 22 rfl rfl rfl (by omega)) hd1 ?_
    simp only [Act.put, List.setIfInBounds_toArray, List.set_cons_zero, List.set_cons_succ]
    refine take_one (i := 11) (d := some 24) (v := .slice (some ⟨b, off, none⟩) zs.length cap) rfl rfl rfl (by kernel_rfl) (by kernel_rfl) (by kernel_rfl) (fun _ _ d _ _ h => by cases d <;> exact h) (fun W hS => ex_move (.tmp 0) rfl rfl) hd1 ?_
    simp only [Act.put, List.setIfInBounds_toArray, List.set_cons_zero, List.set_cons_succ]
    refine take_one (i := 12) (d := some 25) (v := .pointer (some ⟨b, off + 6, none⟩)) rfl rfl rfl (by kernel_rfl) (by kernel_rfl) (by kernel_rfl) (fun _ _ d _ _ h => by cases d <;> exact h) (fun W hS => ex_index 24 6 rfl rfl l6) hd1 ?_
    simp only [Act.put, List.setIfInBounds_toArray, List.set_cons_zero, List.set_cons_succ]
    refine take_one (i := 13) (d := some 26) (v := .int .u8 z6) rfl rfl rfl (by kernel_rfl) (by kernel_rfl) (by kernel_rfl) (fun _ _ d _ _ h => by cases d <;> exact h) (fun W hS => ex_load8 25 rfl rfl (C6.out W hS)) hd1 ?_
    simp only [Act.put, List.setIfInBounds_toArray, List.set_cons_zero, List.set_cons_succ]
    refine take_one (i := 14) (d := some 27) (v := .int .u32 z6) rfl rfl rfl (by kernel_rfl) (by kernel_rfl) (by kernel_rfl) (fun _ _ d _ _ h => by cases d <;> exact h) (fun W hS => ex_cv832 26 rfl rfl g6) hd1 ?_
    simp only [Act.put, List.setIfInBounds_toArray, List.set_cons_zero, List.set_cons_succ]
    refine take_one (i := 15) (d := some 28) (v := .int .u32 (z6 * 256)) rfl rfl rfl (by kernel_rfl) (by kernel_rfl) (by kernel_rfl) (fun _ _ d _ _ h => by cases d <;> exact h) (fun W hS => ex_shl32 27 8 256 rfl rfl (by decide) g6) hd1 ?_
    simp only [Act.put, List.setIfInBounds_toArray, List.set_cons_zero, List.set_cons_succ]
    refine take_one (i := 16) (d := some 29) (v := .int .u32 (z4 * 16777216 + z5 * 65536 + z6 * 256)) rfl rfl rfl (by kernel_rfl) (by kernel_rfl) (by kernel_rfl) (fun _ _ d _ _ h => by cases d <;> exact h) (fun W hS => ex_add32 23 28 rfl rfl rfl (by omega)) hd1 ?_
    simp only [Act.put, List.setIfInBounds_toArray, List.set_cons_zero, List.set_cons_succ]
    refine take_one (i := 17) (d := some 30) (v := .slice (some ⟨b, off, none⟩) zs.length cap) rfl rfl rfl (by kernel_rfl) (by kernel_rfl) (by kernel_rfl) (fun _ _ d _ _ h => by cases d <;> exact h) (fun W hS => ex_move (.tmp 0) rfl rfl) hd1 ?_
    simp only [Act.put, List.setIfInBounds_toArray, List.set_cons_zero, List.set_cons_succ]
    refine take_one (i := 18) (d := some 31) (v := .pointer (some ⟨b, off + 7, none⟩)) rfl rfl rfl (by kernel_rfl) (by kernel_rfl) (by kernel_rfl) (fun _ _ d _ _ h => by cases d <;> exact h) (fun W hS => ex_index 30 7 rfl rfl l7) hd1 ?_
    simp only [Act.put, List.setIfInBounds_toArray, List.set_cons_zero, List.set_cons_succ]
    refine take_one (i := 19) (d := some 32) (v := .int .u8 z7) rfl rfl rfl (by kernel_rfl) (by kernel_rfl) (by kernel_rfl) (fun _ _ d _ _ h => by cases d <;> exact h) (fun W hS => ex_load8 31 rfl rfl (C7.out W hS)) hd1 ?_
    simp only [Act.put, List.setIfInBounds_toArray, List.set_cons_zero, List.set_cons_succ]
    refine take_one (i := 20) (d := some 33) (v := .int .u32 z7) rfl rfl rfl (by kernel_rfl) (by kernel_rfl) (by kernel_rfl) (fun _ _ d _ _ h => by cases d <;> exact h) (fun W hS => ex_cv832 32 rfl rfl g7) hd1 ?_
    simp only [Act.put, List.setIfInBounds_toArray, List.set_cons_zero, List.set_cons_succ]
    refine take_one (i := 21) (d := some 34) (v := .int .u32 (z4 * 16777216 + z5 * 65536 + z6 * 256 + z7)) rfl rfl rfl (by kernel_rfl) (by kernel_rfl) (by kernel_rfl) (fun _ _ d _ _ h => by cases d <;> exact h) (fun W hS => ex_add32 29 33 rfl rfl rfl (by omega)) hd1 ?_
    simp only [Act.put, List.setIfInBounds_toArray, List.set_cons_zero, List.set_cons_succ]
    refine take_one (i := 22) (d := some 6) (v := .int .u32 (z4 * 16777216 + z5 * 65536 + z6 * 256 + z7)) rfl rfl rfl (by kernel_rfl) (by kernel_rfl) (by kernel_rfl) (fun _ _ d _ _ h => by cases d <;> exact h) (fun W hS => ex_assign (.tmp 34) rfl rfl) hd1 ?_
    simp only [Act.put, List.setIfInBounds_toArray, List.set_cons_zero, List.set_cons_succ]
    refine wpAnyH_done (by kernel_rfl) ?_ _
    generalize z4 * 16777216 + z5 * 65536 + z6 * 256 + z7 = zr at *
    go_wp2_with fail
    have hd2 : Below w.heap.size w w1.drew.drew := hd1.drew
    have hx2 : Below W0.heap.size W0 w1.drew.drew := hx1.drew.drew
    refine wp_region_held (S := fun W => Below w.heap.size w W) (by kernel_rfl) ?_
    show wpAnyH _ _ _ _ _ 14 (Array.replicate 14 false) _ w1.drew.drew
    refine take_one (i := 0) (d := some 35) (v := .slice (some ⟨b, off, none⟩) zs.length cap) rfl rfl rfl (by kernel_rfl) (by kernel_rfl) (by kernel_rfl) (fun _ _ d _ _ h => by cases d <;> exact h) (fun W hS => ex_move (.tmp 0) rfl rfl) hd2 ?_
    simp only [Act.put, List.setIfInBounds_toArray, List.set_cons_zero, List.set_cons_succ]
    refine take_one (i := 1) (d := some 36) (v := .pointer (some ⟨b, off + 0, none⟩)) rfl rfl rfl (by kernel_rfl) (by kernel_rfl) (by kernel_rfl) (fun _ _ d _ _ h => by cases d <;> exact h) (fun W hS => ex_index 35 0 rfl rfl l0) hd2 ?_
    simp only [Act.put, List.setIfInBounds_toArray, List.set_cons_zero, List.set_cons_succ]
    refine take_one (i := 2) (d := some 37) (v := .int .u8 z0) rfl rfl rfl (by kernel_rfl) (by kernel_rfl) (by kernel_rfl) (fun _ _ d _ _ h => by cases d <;> exact h) (fun W hS => ex_load8 36 rfl rfl (C0.out W hS)) hd2 ?_
    simp only [Act.put, List.setIfInBounds_toArray, List.set_cons_zero, List.set_cons_succ]
    refine take_one (i := 3) (d := some 38) (v := .slice (some ⟨b, off, none⟩) zs.length cap) rfl rfl rfl (by kernel_rfl) (by kernel_rfl) (by kernel_rfl) (fun _ _ d _ _ h => by cases d <;> exact h) (fun W hS => ex_move (.tmp 0) rfl rfl) hd2 ?_
    simp only [Act.put, List.setIfInBounds_toArray, List.set_cons_zero, List.set_cons_succ]
    refine take_one (i := 4) (d := some 39) (v := .pointer (some ⟨b, off + 1, none⟩)) rfl rfl rfl (by kernel_rfl) (by kernel_rfl) (by kernel_rfl) (fun _ _ d _ _ h => by cases d <;> exact h) (fun W hS => ex_index 38 1 rfl rfl l1) hd2 ?_
    simp only [Act.put, List.setIfInBounds_toArray, List.set_cons_zero, List.set_cons_succ]
    refine take_one (i := 5) (d := some 40) (v := .int .u8 z1) rfl rfl rfl (by kernel_rfl) (by kernel_rfl) (by kernel_rfl) (fun _ _ d _ _ h => by cases d <;> exact h) (fun W hS => ex_load8 39 rfl rfl (C1.out W hS)) hd2 ?_
    simp only [Act.put, List.setIfInBounds_toArray, List.set_cons_zero, List.set_cons_succ]
    refine take_one (i := 6) (d := some 41) (v := .int .u32 zr) rfl rfl rfl (by kernel_rfl) (by kernel_rfl) (by kernel_rfl) (fun _ _ d _ _ h => by cases d <;> exact h) (fun W hS => ex_move (.tmp 6) rfl rfl) hd2 ?_
    simp only [Act.put, List.setIfInBounds_toArray, List.set_cons_zero, List.set_cons_succ]
    refine take_one (i := 8) (d := some 43) (v := .slice (some ⟨b, off, none⟩) zs.length cap) rfl rfl rfl (by kernel_rfl) (by kernel_rfl) (by kernel_rfl) (fun _ _ d _ _ h => by cases d <;> exact h) (fun W hS => ex_move (.tmp 0) rfl rfl) hd2 ?_
    simp only [Act.put, List.setIfInBounds_toArray, List.set_cons_zero, List.set_cons_succ]
    refine take_one (i := 9) (d := some 44) (v := restV b off zs.length cap 8) rfl rfl rfl (by kernel_rfl) (by kernel_rfl) (by kernel_rfl) (fun _ _ d _ _ h => by cases d <;> exact h) (fun W hS => ex_rest8 43 rfl rfl h8 hcap) hd2 ?_
    simp only [Act.put, List.setIfInBounds_toArray, List.set_cons_zero, List.set_cons_succ]
    have hda := hd2.alloc hd2.size (.cells #[] 5)
    have hxa := hx2.alloc hx2.size (.cells #[] 5)
    obtain ⟨a3, k3, w3, hrun3, hg3, hb3, hcap3, hloc3⟩ := bytes_copied2c (HRS.out _ hda) w1.drew.drew.heap.size (by simp) 25 (by simp)
    have hx3 := hxa.trans (hb3.mono hxa.size)
    have hw3 := hda.trans (hb3.mono hda.size)
    refine all_one (i := 7) (by kernel_rfl) rfl rfl ?_
    refine wp_build (d := some 42) rfl rfl ⟨hda, ?_⟩
    simp only [Act.put, List.setIfInBounds_toArray, List.set_cons_zero, List.set_cons_succ]
    refine all_one (i := 10) (by kernel_rfl) rfl rfl ?_
    refine wp_append (d := some 45) (.tmp 42) (.tmp 44) 25 rfl rfl rfl rfl hrun3 ⟨hw3, ?_⟩
    simp only [Act.put, List.setIfInBounds_toArray, List.set_cons_zero, List.set_cons_succ]
    have hnew : New W0 (.slice a3 (zs.drop 8).length k3) (zs.drop 8) := ⟨_, _, rfl, hcap3, hloc3.imp id (by rintro ⟨g, off, rfl, hle⟩; exact ⟨g, off, rfl, Nat.le_trans hxa.size hle⟩)⟩
    refine take_one (i := 11) (d := some 46) (v := .agg [.int .u8 z0, .int .u8 z1, .int .u32 zr, .slice a3 (zs.drop 8).length k3].toArray) rfl rfl rfl (by kernel_rfl) (by kernel_rfl) (by kernel_rfl) (fun _ _ d _ _ h => by cases d <;> exact h) (fun W hS => ex_buildI (.tmp 37) (.tmp 40) (.tmp 41) (.tmp 45) rfl rfl rfl rfl rfl) hw3 ?_
    simp only [Act.put, List.setIfInBounds_toArray, List.set_cons_zero, List.set_cons_succ]
    obtain ⟨w4, hst4, b4, hon4⟩ := box_store Tryz.sizeOf46 (blk_on B0.out hx3) rfl [.int .u8 z0, .int .u8 z1, .int .u32 zr, .slice a3 (zs.drop 8).length k3] rfl (by simp [Value.oneCell'])
    have hw4 : Below w.heap.size w w4 := hw3.trans (hon4.below (Nat.le_refl _))
    have hsz := HS0.out
    have hu4 := hnew.only (by omega) hg3 hon4
    have HX4 : Hid _ := hw4
    have HU4 : Hid _ := hu4
    have HN4 : Hid (New w (.slice a3 (zs.drop 8).length k3) (zs.drop 8)) := hnew.old (by omega)
    have B4 : Hid _ := b4
    refine all_one (i := 12) (by kernel_rfl) rfl rfl ?_
    refine store_wp (.tmp 4) (.tmp 46) 46 rfl rfl rfl hst4 ⟨hw4, ?_⟩
    simp only [Act.put, List.setIfInBounds_toArray, List.set_cons_zero, List.set_cons_succ]
    refine take_one (i := 13) (d := some 5) (v := .int .i64 0) rfl rfl rfl (by kernel_rfl) (by kernel_rfl) (by kernel_rfl) (fun _ _ d _ _ h => by cases d <;> exact h) (fun W hS => ex_assign (.const (.int .i64 0)) rfl rfl) hw4 ?_
    simp only [Act.put, List.setIfInBounds_toArray, List.set_cons_zero, List.set_cons_succ]
    refine wpAnyH_done (by kernel_rfl) ?_ _
    clear hsz hnew hu4 hw4 b4 hon4 hst4 hloc3 hg3 hrun3 hb3 hx3 hw3 hxa hda
    go_wp2
    obtain rfl := G0.out
    obtain rfl := G1.out
    obtain rfl := GR.out
    exact bodyPost_ret (res2t rfl rfl (agg_loadVar Tryz.isAgg46 Tryz.sizeOf46 rfl (CellsAt.of_blk B4.out))) rfl (.good HF.out HE.out rfl HU4.out HN4.out HX4.out)
  · have HE : Hid (pE ph zs = 71) := by
      have := HM.out
      rw [if_neg h0] at this
      exact this
    have q0 : (s != 65535) = true := by simpa using h0
    clear HM hs h0
    go_enter Tryz.func88, Tryz.ntmps88
    go_wp2_with fail
    refine Calls.mono HFO.out ?_
    rintro _ w1 ⟨rfl, hb1⟩
    have hx1 := HBP.out.trans (hb1.mono HBP.out.size)
    obtain ⟨w3, hst3, b3, hon3⟩ := box_store Tryz.sizeOf46 (blk_on B0.out hx1) rfl [.int .u8 0, .int .u8 0, .int .u32 0, .slice none 0 0] rfl (by simp [Value.oneCell'])
    have HST : Hid _ := hst3
    have B3 : Hid _ := b3
    have HX : Hid (Below w.heap.size w w3) := (HB0.out.trans (hx1.mono HB0.out.size)).trans (hon3.below (Nat.le_refl _))
    clear hst3 b3 hon3 hx1 hb1 HFO
    go_wp2_with ((with_reducible show wpList _ _ _ _ _ _); refine arm_store rfl (.tmp 4) (.tmp 12) 46 rfl rfl rfl HST.out ?_)
    exact bodyPost_ret (res2t rfl rfl (agg_loadVar Tryz.isAgg46 Tryz.sizeOf46 rfl (CellsAt.of_blk B3.out))) rfl (.bad HE.out (by decide) rfl HX.out)
end Go.Proofs.YtpgnnplpcalbbaaGreat.Icm
namespace Go.Proofs.YtpgnnplpcalbbaaGreat.Icm
open Go Go.RowKit Go.Shelf
def szE (n : Nat) : Int := if n < 8 then 70 else if 65535 < n then 2 else 0
theorem size_calls (a : Option Addr) (n cap : Nat) (w : World) (hn : n ≤ 140737488351232) :
    Calls Tryz.prog 87 #[.slice a n cap] w fun e w' => e = .returned (.int .i64 (szE n)) ∧ w' = w := by
  unfold szE
  by_cases h1 : n < 8
  · rw [if_pos h1]
    go_enter Tryz.func87, Tryz.ntmps87
    go_wp2
    go_ret
    exact ⟨rfl, rfl⟩
  · rw [if_neg h1]
    by_cases h2 : 65535 < n
    · rw [if_pos h2]
      go_enter Tryz.func87, Tryz.ntmps87
      go_wp2
      go_ret
      exact ⟨rfl, rfl⟩
    · rw [if_neg h2]
      go_enter Tryz.func87, Tryz.ntmps87
      go_wp2
      go_ret
      exact ⟨rfl, rfl⟩
theorem pE_size {ph : Int → List Int} {zs : List Int} (h : szE zs.length ≠ 0) : pE ph zs = szE zs.length := by
  unfold szE pE at *
  by_cases h1 : zs.length < 8
  · rw [if_pos h1, if_pos h1]
  · rw [if_neg h1] at h
    rw [if_neg h1, if_neg h1]
    by_cases h2 : 65535 < zs.length
    · rw [if_pos h2, if_pos h2]
    · rw [if_neg h2] at h
      exact absurd rfl h
theorem szE_zero {n : Nat} (h : szE n = 0) : 8 ≤ n ∧ n ≤ 65535 := by
  unfold szE at h
  by_cases h1 : n < 8
  · rw [if_pos h1] at h
    exact absurd h (by decide)
  · rw [if_neg h1] at h
    by_cases h2 : 65535 < n
    · rw [if_pos h2] at h
      exact absurd h (by decide)
    · omega
set_option maxHeartbeats 2000000 in
set_option maxRecDepth 100000 in
theorem RParse4_any (v : Value) (zs : List Int) (w : World) (h : RowC w v zs) :
    Calls Tryz.prog 32 #[v] w fun e w' => ParI phN zs w e w' := by
  obtain ⟨W0, hW0⟩ : ∃ W0, w.alloc (.cells [.int .u8 0, .int .u8 0, .int .u32 0, .slice none 0 0].toArray 46) = W0 := ⟨_, rfl⟩
  have b0 := blk_new w (.cells [.int .u8 0, .int .u8 0, .int .u32 0, .slice none 0 0].toArray 46)
  have hB0 := (Below.refl w.heap.size w).alloc (Nat.le_refl _) (.cells [.int .u8 0, .int .u8 0, .int .u32 0, .slice none 0 0].toArray 46)
  rw [hW0] at b0 hB0
  have hlt0 : w.heap.size < W0.heap.size := (Array.getElem?_eq_some_iff.1 b0).1
  have HB : Hid _ := hB0
  have B0 : Hid _ := b0
  have hR := h.on hB0
  have hl := h.len
  by_cases h0 : szE zs.length = 0
  · have HP : Hid _ := Rparse_any phN (fun _ => by simp [phN]) v (.slice none 0 0) zs W0 hR (szE_zero h0).1 (szE_zero h0).2 (BytesAt.none W0)
    obtain ⟨av, cv, rfl, _⟩ := h.val
    have HSZ : Hid _ := size_calls av zs.length cv W0 hl
    rw [h0] at HSZ
    clear h b0 hB0 hR hl h0
    generalize phN = ph at *
    go_enter Tryz.func32, Tryz.ntmps32
    go_wp2_with fail
    refine Calls.mono HSZ.out ?_
    rintro _ _ ⟨rfl, rfl⟩
    go_wp2_with fail
    refine Calls.mono HP.out ?_
    rintro _ w2 ⟨c, rfl, hc, hb2⟩
    obtain ⟨w3, hst3, b3, hon3⟩ := box_store Tryz.sizeOf46 (blk_on B0.out hb2) rfl c hc.1.len hc.1.one
    have HST3 : Hid _ := hst3
    have B3 : Hid _ := b3
    have hs0 := HB.out.size
    have HC : Hid (MsgN w w3 c (pM ph zs)) := (hc.only (by omega) hon3).old (by omega)
    have HCL : Hid _ := hc.1.len
    have HE : Hid (Below w.heap.size w w3) := (HB.out.trans (hb2.mono HB.out.size)).trans (hon3.below (by omega))
    clear hst3 b3 hon3 hc hb2 HP hs0 hlt0
    generalize hte : pE ph zs = te at *
    have HTE : Hid _ := hte
    clear hte
    go_wp2_with ((with_reducible show wpList _ _ _ _ _ _); refine arm_store rfl (.tmp 2) (.tmp 13) 46 rfl rfl rfl HST3.out ?_)
    exact bodyPost_ret (res2t rfl rfl (agg_loadVar Tryz.isAgg46 Tryz.sizeOf46 HCL.out (CellsAt.of_blk B3.out))) rfl ⟨c, by rw [HTE.out]; rfl, HC.out, HE.out⟩
  · have HE : Hid _ := pE_size (ph := phN) h0
    obtain ⟨av, cv, rfl, _⟩ := h.val
    have HSZ : Hid _ := size_calls av zs.length cv W0 hl
    generalize hsz : szE zs.length = er at *
    have HSZE : Hid _ := hsz
    have q0 : (er != 0) = true := by simpa using h0
    have H0 : Hid _ := h0
    obtain ⟨w3, hst3, b3, hon3⟩ := box_store Tryz.sizeOf46 b0 rfl [.int .u8 0, .int .u8 0, .int .u32 0, .slice none 0 0] rfl (by simp [Value.oneCell'])
    have HST : Hid _ := hst3
    have B3 : Hid _ := b3
    have HX : Hid (Below w.heap.size w w3) := hB0.trans (hon3.below (Nat.le_refl _))
    clear h b0 hB0 hR hl h0 hsz hst3 b3 hon3 hlt0
    go_enter Tryz.func32, Tryz.ntmps32
    go_wp2_with fail
    refine Calls.mono HSZ.out ?_
    rintro _ _ ⟨rfl, rfl⟩
    go_wp2_with ((with_reducible show wpList _ _ _ _ _ _); refine arm_store rfl (.tmp 2) (.tmp 9) 46 rfl rfl rfl HST.out ?_)
    exact bodyPost_ret (res2t rfl rfl (agg_loadVar Tryz.isAgg46 Tryz.sizeOf46 rfl (CellsAt.of_blk B3.out))) rfl (.bad HE.out H0.out rfl HX.out)
set_option maxHeartbeats 2000000 in
set_option maxRecDepth 100000 in
theorem RParse6_any (A B : List Int) (hA : A.length = 16) (hB : B.length = 16) (fa : Fit A) (fb : Fit B) (v : Value) (zs : List Int) (w : World) (h : RowC w v zs) :
    Calls Tryz.prog 121 #[.agg (u8L A).toArray, .agg (u8L B).toArray, v] w fun e w' => ParI (ph6I A B) zs w e w' := by
  obtain ⟨W0, hW0⟩ : ∃ W0, ((w.alloc (.cells (u8L A).toArray 29)).alloc (.cells (u8L B).toArray 29)).alloc (.cells [.int .u8 0, .int .u8 0, .int .u32 0, .slice none 0 0].toArray 46) = W0 := ⟨_, rfl⟩
  have b0 := blk_new w (.cells (u8L A).toArray 29)
  have b1 := blk_new (w.alloc (.cells (u8L A).toArray 29)) (.cells (u8L B).toArray 29)
  have b2 := blk_new ((w.alloc (.cells (u8L A).toArray 29)).alloc (.cells (u8L B).toArray 29)) (.cells [.int .u8 0, .int .u8 0, .int .u32 0, .slice none 0 0].toArray 46)
  have b0' := blk_alloc (blk_alloc b0 (.cells (u8L B).toArray 29)) (.cells [.int .u8 0, .int .u8 0, .int .u32 0, .slice none 0 0].toArray 46)
  have b1' := blk_alloc b1 (.cells [.int .u8 0, .int .u8 0, .int .u32 0, .slice none 0 0].toArray 46)
  have hb : Below w.heap.size w (((w.alloc (.cells (u8L A).toArray 29)).alloc (.cells (u8L B).toArray 29)).alloc (.cells [.int .u8 0, .int .u8 0, .int .u32 0, .slice none 0 0].toArray 46)) := (((Below.refl _ w).alloc (Nat.le_refl _) _).alloc (by simp) _).alloc (by simp <;> omega) _
  rw [hW0] at b0' b1' b2 hb
  have s1 : (w.alloc (.cells (u8L A).toArray 29)).heap.size = w.heap.size + 1 := by simp
  have s2 : ((w.alloc (.cells (u8L A).toArray 29)).alloc (.cells (u8L B).toArray 29)).heap.size = w.heap.size + 1 + 1 := by simp
  rw [s1] at b1'
  rw [s2] at b2
  have LA : Hid _ := agg_load (t := 29) Tryz.isAgg29 Tryz.sizeOf29 (by simp [u8L, hA]) (CellsAt.of_blk b0')
  have LB : Hid _ := agg_load (t := 29) Tryz.isAgg29 Tryz.sizeOf29 (by simp [u8L, hB]) (CellsAt.of_blk b1')
  have hlt0 : w.heap.size + 1 + 1 < W0.heap.size := (Array.getElem?_eq_some_iff.1 b2).1
  have HB : Hid _ := hb
  have B0 : Hid _ := b2
  have hl := h.len
  by_cases h0 : szE zs.length = 0
  · have hsz := szE_zero h0
    have HPS : Hid (Calls Tryz.prog 84 #[.agg (u8L A).toArray, .agg (u8L B).toArray, .int .u8 58, .int .i64 (zs.length : Int)] W0 fun e w' => ∃ v, e = .returned (.tuple #[v, .int .i64 0]) ∧ BytesAt w'.heap.size w' v (ph6I A B (zs.length : Int)) ∧ Below W0.heap.size W0 w') := pseudo6_list_ref A B hA hB fa fb 58 _ (by decide) (by omega) W0
    have HP : Hid (∀ W hv, Below W0.heap.size W0 W → BytesAt W.heap.size W hv (ph6I A B (zs.length : Int)) → Calls Tryz.prog 88 #[v, hv] W fun e w' => ParI (ph6I A B) zs W e w') := fun W hv hW hh => Rparse_any (ph6I A B) (fun _ => by simp [ph6I, ph6, hA, hB]) v hv zs W (h.on (hb.trans (hW.mono hb.size))) hsz.1 hsz.2 hh
    obtain ⟨av, cv, rfl, _⟩ := h.val
    have HSZ : Hid _ := size_calls av zs.length cv W0 hl
    rw [h0] at HSZ
    clear h b0 b1 b2 b0' b1' hb s1 s2 hl h0 fa fb hA hB hsz
    generalize ph6I A B = ph at *
    generalize u8L A = xA at *
    generalize u8L B = xB at *
    go_enter Tryz.func121, Tryz.ntmps121
    go_wp2_with fail
    refine Calls.mono HSZ.out ?_
    rintro _ _ ⟨rfl, rfl⟩
    go_wp2_with first
      | ((with_reducible show wpList _ _ _ _ _ _); refine arm_load rfl (.tmp 3) 29 rfl rfl LA.out ?_)
      | ((with_reducible show wpList _ _ _ _ _ _); refine arm_load rfl (.tmp 4) 29 rfl rfl LB.out ?_)
    refine Calls.mono HPS.out ?_
    rintro _ w1 ⟨hv, rfl, hh, hb1⟩
    have HP1 : Hid _ := HP.out w1 hv hb1 hh
    obtain ⟨ah, kh, rfl, _⟩ := hh.val
    clear hh HP HPS LA LB
    go_wp2_with fail
    refine Calls.mono HP1.out ?_
    rintro _ w2 ⟨c, rfl, hc, hb2⟩
    have hx2 := hb1.trans (hb2.mono hb1.size)
    obtain ⟨w3, hst3, b3, hon3⟩ := box_store Tryz.sizeOf46 (blk_on B0.out hx2) rfl c hc.1.len hc.1.one
    have HST3 : Hid _ := hst3
    have B3 : Hid _ := b3
    have hs0 := HB.out.size
    have hs1 := hb1.size
    have HC : Hid (MsgN w w3 c (pM ph zs)) := (hc.only (by omega) hon3).old (by omega)
    have HCL : Hid _ := hc.1.len
    have HE : Hid (Below w.heap.size w w3) := (HB.out.trans (hx2.mono HB.out.size)).trans (hon3.below (by omega))
    clear hst3 b3 hon3 hc hb2 HP1 hs0 hs1 hlt0 hx2
    generalize hte : pE ph zs = te at *
    have HTE : Hid _ := hte
    clear hte
    go_wp2_with ((with_reducible show wpList _ _ _ _ _ _); refine arm_store rfl (.tmp 6) (.tmp 28) 46 rfl rfl rfl HST3.out ?_)
    exact bodyPost_ret (res2t rfl rfl (agg_loadVar Tryz.isAgg46 Tryz.sizeOf46 HCL.out (CellsAt.of_blk B3.out))) rfl ⟨c, by rw [HTE.out]; rfl, HC.out, HE.out⟩
  · have HE : Hid _ := pE_size (ph := ph6I A B) h0
    obtain ⟨av, cv, rfl, _⟩ := h.val
    have HSZ : Hid _ := size_calls av zs.length cv W0 hl
    generalize hsz : szE zs.length = er at *
    have HSZE : Hid _ := hsz
    have q0 : (er != 0) = true := by simpa using h0
    have H0 : Hid _ := h0
    obtain ⟨w3, hst3, b3, hon3⟩ := box_store Tryz.sizeOf46 b2 rfl [.int .u8 0, .int .u8 0, .int .u32 0, .slice none 0 0] rfl (by simp [Value.oneCell'])
    have HST : Hid _ := hst3
    have B3 : Hid _ := b3
    have HX : Hid (Below w.heap.size w w3) := hb.trans (hon3.below (by omega))
    clear h b0 b1 b2 b0' b1' hb s1 s2 hl h0 hsz hst3 b3 hon3 hlt0 fa fb hA hB
    generalize ph6I A B = ph at *
    generalize u8L A = xA at *
    generalize u8L B = xB at *
    go_enter Tryz.func121, Tryz.ntmps121
    go_wp2_with fail
    refine Calls.mono HSZ.out ?_
    rintro _ _ ⟨rfl, rfl⟩
    go_wp2_with ((with_reducible show wpList _ _ _ _ _ _); refine arm_store rfl (.tmp 6) (.tmp 15) 46 rfl rfl rfl HST.out ?_)
    exact bodyPost_ret (res2t rfl rfl (agg_loadVar Tryz.isAgg46 Tryz.sizeOf46 rfl (CellsAt.of_blk B3.out))) rfl (.bad HE.out H0.out rfl HX.out)
end Go.Proofs.YtpgnnplpcalbbaaGreat.Icm
