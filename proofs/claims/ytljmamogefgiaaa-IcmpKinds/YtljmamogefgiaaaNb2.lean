/-
  parse of package icmp: a message that is one.
-/
import Derived.Test.YtljmamogefgiaaaNb1
namespace Go.Proofs.Ytljmamogefgiaaa
open Go Go.RowKit Go.Shelf
set_option linter.unusedVariables false
set_option linter.unusedSimpArgs false

set_option maxHeartbeats 4000000 in
set_option maxRecDepth 100000 in
theorem parse_good (o : Value) (ph : Int → List Int) (v : Value) (zs : List Int) (w : World) (ho : OverI w o ph) (h : RowC w v zs) (hn : 8 ≤ zs.length) (h0 : pE ph zs = 0) :
    Calls Try.prog 39 #[o, v] w fun e w' => ParI ph zs w e w' := by
  obtain ⟨W0, hW0⟩ : ∃ W0, w.alloc (.cells [.int .u8 0, .int .u8 0, .int .u32 0, .slice none 0 0].toArray 26) = W0 := ⟨_, rfl⟩
  have b0 := blk_new w (.cells [.int .u8 0, .int .u8 0, .int .u32 0, .slice none 0 0].toArray 26)
  have hB0 := (Below.refl w.heap.size w).alloc (Nat.le_refl _) (.cells [.int .u8 0, .int .u8 0, .int .u32 0, .slice none 0 0].toArray 26)
  have HS0 : Hid (W0.heap.size = w.heap.size + 1) := by
    have : W0.heap.size = w.heap.size + 1 := by rw [← hW0]; simp
    exact this
  rw [hW0] at b0 hB0
  have hP := parts_one W0 v 24 zs (h.on hB0).bytes
  have hBp := (Below.refl W0.heap.size W0).alloc (Nat.le_refl _) (.cells #[v] 24)
  have hfl : [zs].flatten = zs := by simp
  have hl : zs.length ≤ 65535 := by
    by_cases hl : 65535 < zs.length
    · rw [pE_long hl] at h0
      exact absurd h0 (by decide)
    · omega
  have hm := pE_more (ph := ph) hn hl
  have hs : sumW 0 (wordsL (ph zs.length ++ zs)) = 65535 := by
    by_cases k : sumW 0 (wordsL (ph zs.length ++ zs)) = 65535
    · exact k
    · rw [hm, if_neg k] at h0
      exact absurd h0 (by decide)
  have hck := check_ok o ph _ _ _ (ho.later (hB0.trans (hBp.mono hB0.size))) hP (by simp) (by simp; omega)
  rw [hfl, hs] at hck
  obtain ⟨g, lb, rfl⟩ := ho.own
  have hfit := h.fit
  obtain ⟨b, off, cap, rfl, hcap, hbl, hcell⟩ := h.some (by omega)
  have HRW : Hid (∀ W, Below W0.heap.size W0 W → RowC W (.slice (some ⟨b, off, none⟩) zs.length cap) zs) := fun W hW => h.on (hB0.trans (hW.mono hB0.size))
  have HCE : Hid (∀ W, Below w.heap.size w W → ∀ j, j < zs.length → W.cell? ⟨b, off + j, none⟩ = some (.int .u8 (gz zs j))) := fun W hW j hj => (hW.cell (p := ⟨b, off + j, none⟩) hbl).trans (hcell j hj)
  have HCL : Hid (∀ W, Below W0.heap.size W0 W → Calls Try.prog 42 #[restV b off zs.length cap 8] W fun e w' => ∃ u, e = .returned u ∧ (BytesAt w'.heap.size w' u (zs.drop 8) ∧ Below W.heap.size W w' ∧ New W u (zs.drop 8))) := fun W hW => by
    obtain ⟨b', off', cap', hS⟩ := (h.on (hB0.trans (hW.mono hB0.size))).rowS (by omega)
    obtain ⟨e1, e2, e3⟩ : b = b' ∧ off = off' ∧ cap = cap' := by
      have k := hS.val
      simp at k
      exact ⟨k.1.1, k.1.2, k.2⟩
    subst e1 e2 e3
    exact Clone_calls _ _ W (hS.rest 8 hn).row.bytes
  have HCK : Hid _ := hck
  have B0 : Hid _ := b0
  have HB0 : Hid _ := hB0
  have HBP : Hid _ := hBp
  have HE : Hid _ := h0
  have HF : Hid _ := hfit
  have hr := fun k => rstK_range hfit k
  have HR : Hid _ := hr
  have hgz : Hid (∀ k, 0 ≤ gz zs k ∧ gz zs k < 256) := fun k => hfit.gz k
  have hne4 : (cap = 4) = False := eq_false (by omega)
  have hc8 : 8 ≤ cap := by omega
  clear ho h b0 hB0 hBp hP hck hfl h0 hm hs hfit hcell hr
  go_enter Try.func39, Try.ntmps39
  go_wp2_with fail
  refine Calls.mono HCK.out ?_
  rintro _ w1 ⟨rfl, hb1⟩
  have hx1 := HBP.out.trans (hb1.mono HBP.out.size)
  clear hb1 HCK HBP
  go_wp2
  go_loopw [8, 35] (fun r i wr => ∃ k : Nat, k ≤ 4 ∧ i = .int .i64 k ∧ r = .int .u32 (rstK zs k) ∧ wr = w1) (fun _ i _ => 4 - (intOf i).toNat)
  case atStart => exact ⟨0, Nat.zero_le _, rfl, rfl, rfl⟩
  case round =>
    obtain ⟨k, hk, rfl, rfl, rfl⟩ := hrel
    by_cases hlt : k < 4
    · have hc := HCE.out _ (HB0.out.trans (hx1.mono HB0.out.size)) (4 + k) (by omega)
      have hor : bits .or .u32 (rstK zs k * 256) (gz zs (4 + k)) = rstK zs (k + 1) := by
        have h1 := HR.out k
        have h2 := hgz.out (4 + k)
        refine or_byte32 _ _ ⟨h1.1, ?_⟩ ⟨h2.1, by omega⟩
        have : (256 : Int) ^ k ≤ 256 ^ 3 := by
          rcases (by omega : k = 0 ∨ k = 1 ∨ k = 2 ∨ k = 3) with rfl | rfl | rfl | rfl <;> decide
        have h3 := h1.2
        simp at this
        omega
      have hw : IntKind.u32.wrap (rstK zs k * 256) = rstK zs k * 256 := by
        have h1 := HR.out (k + 1)
        have h2 := hgz.out (4 + k)
        have h3 : rstK zs (k + 1) = rstK zs k * 256 + gz zs (4 + k) := rfl
        have h4 := HR.out k
        have : (256 : Int) ^ (k + 1) ≤ 256 ^ 4 := by
          rcases (by omega : k = 0 ∨ k = 1 ∨ k = 2 ∨ k = 3) with rfl | rfl | rfl | rfl <;> decide
        simp at this
        rw [IntKind.wrap_u32]
        omega
      rw [← Nat.add_assoc] at hc
      have hz4 : gz zs (4 + k) % 4294967296 = gz zs (4 + k) := by
        have := hgz.out (4 + k)
        omega
      generalize gz zs (4 + k) = z at *
      obtain ⟨r1, hr1⟩ : ∃ r1, rstK zs (k + 1) = r1 := ⟨_, rfl⟩
      rw [hr1] at hor
      have HK1 : Hid _ := hr1
      clear hr1
      generalize rstK zs k = r0 at *
      go_wp2
      exact ⟨⟨k + 1, by omega, by simp, by rw [HK1.out], trivial⟩, by simp [intOf]; omega⟩
    · obtain rfl : k = 4 := by omega
      rw [rstK_four]
      have c0 := fun W hW => HCE.out W hW 0 (by omega)
      have C0 : Hid _ := c0
      have c1 := fun W hW => HCE.out W hW 1 (by omega)
      have C1 : Hid _ := c1
      clear c0 c1 HCE
      generalize hg0 : gz zs 0 = z0 at *
      generalize hg1 : gz zs 1 = z1 at *
      generalize hgr : rstL zs = zr at *
      have G0 : Hid _ := hg0
      have G1 : Hid _ := hg1
      have GR : Hid _ := hgr
      clear hg0 hg1 hgr
      have h0l : 0 < zs.length := by omega
      have h1l : 1 < zs.length := by omega
      go_wp2_with fail
      have hd1 : Below W0.heap.size W0 wr.drew := hx1.drew
      have hwd : Below w.heap.size w wr.drew := HB0.out.trans (hd1.mono HB0.out.size)
      refine wp_region_held (S := fun W => Below w.heap.size w W) (by kernel_rfl) ?_
      show wpAnyH _ _ _ _ _ 13 (Array.replicate 13 false) _ wr.drew
      refine take_one (i := 0) (d := some 45) (v := .slice (some ⟨b, off, none⟩) zs.length cap) rfl rfl rfl (by kernel_rfl) (by kernel_rfl) (by kernel_rfl) (fun _ _ d _ _ h => by cases d <;> exact h) (fun W hS => ex_move (.tmp 1) rfl rfl) hwd ?_
      simp only [Act.put, List.setIfInBounds_toArray, List.set_cons_zero, List.set_cons_succ]
      refine take_one (i := 1) (d := some 46) (v := .pointer (some ⟨b, off + 0, none⟩)) rfl rfl rfl (by kernel_rfl) (by kernel_rfl) (by kernel_rfl) (fun _ _ d _ _ h => by cases d <;> exact h) (fun W hS => ex_index 45 0 rfl rfl h0l) hwd ?_
      simp only [Act.put, List.setIfInBounds_toArray, List.set_cons_zero, List.set_cons_succ]
      refine take_one (i := 2) (d := some 47) (v := .int .u8 z0) rfl rfl rfl (by kernel_rfl) (by kernel_rfl) (by kernel_rfl) (fun _ _ d _ _ h => by cases d <;> exact h) (fun W hS => ex_load8 46 rfl rfl (C0.out W hS)) hwd ?_
      simp only [Act.put, List.setIfInBounds_toArray, List.set_cons_zero, List.set_cons_succ]
      refine take_one (i := 3) (d := some 48) (v := .slice (some ⟨b, off, none⟩) zs.length cap) rfl rfl rfl (by kernel_rfl) (by kernel_rfl) (by kernel_rfl) (fun _ _ d _ _ h => by cases d <;> exact h) (fun W hS => ex_move (.tmp 1) rfl rfl) hwd ?_
      simp only [Act.put, List.setIfInBounds_toArray, List.set_cons_zero, List.set_cons_succ]
      refine take_one (i := 4) (d := some 49) (v := .pointer (some ⟨b, off + 1, none⟩)) rfl rfl rfl (by kernel_rfl) (by kernel_rfl) (by kernel_rfl) (fun _ _ d _ _ h => by cases d <;> exact h) (fun W hS => ex_index 48 1 rfl rfl h1l) hwd ?_
      simp only [Act.put, List.setIfInBounds_toArray, List.set_cons_zero, List.set_cons_succ]
      refine take_one (i := 5) (d := some 50) (v := .int .u8 z1) rfl rfl rfl (by kernel_rfl) (by kernel_rfl) (by kernel_rfl) (fun _ _ d _ _ h => by cases d <;> exact h) (fun W hS => ex_load8 49 rfl rfl (C1.out W hS)) hwd ?_
      simp only [Act.put, List.setIfInBounds_toArray, List.set_cons_zero, List.set_cons_succ]
      refine take_one (i := 6) (d := some 51) (v := .int .u32 zr) rfl rfl rfl (by kernel_rfl) (by kernel_rfl) (by kernel_rfl) (fun _ _ d _ _ h => by cases d <;> exact h) (fun W hS => ex_move (.tmp 8) rfl rfl) hwd ?_
      simp only [Act.put, List.setIfInBounds_toArray, List.set_cons_zero, List.set_cons_succ]
      refine take_one (i := 7) (d := some 52) (v := .slice (some ⟨b, off, none⟩) zs.length cap) rfl rfl rfl (by kernel_rfl) (by kernel_rfl) (by kernel_rfl) (fun _ _ d _ _ h => by cases d <;> exact h) (fun W hS => ex_move (.tmp 1) rfl rfl) hwd ?_
      simp only [Act.put, List.setIfInBounds_toArray, List.set_cons_zero, List.set_cons_succ]
      refine take_one (i := 8) (d := some 53) (v := restV b off zs.length cap 8) rfl rfl rfl (by kernel_rfl) (by kernel_rfl) (by kernel_rfl) (fun _ _ d _ _ h => by cases d <;> exact h) (fun W hS => ex_rest8 52 rfl rfl hn hcap) hwd ?_
      simp only [Act.put, List.setIfInBounds_toArray, List.set_cons_zero, List.set_cons_succ]
      refine all_one (i := 9) (by kernel_rfl) rfl rfl ?_
      refine wp_call (d := some 54) 42 _ rfl (by kernel_rfl) (HCL.out _ hd1) ?_
      rintro u w2 ⟨hu, hb2, hnw⟩
      have hx2 := hd1.trans (hb2.mono hd1.size)
      obtain ⟨au, cu, rfl, _⟩ := hu.val
      have hxw2 := hwd.trans (hb2.mono hwd.size)
      refine ⟨hxw2, ?_⟩
      simp only [Act.put, List.setIfInBounds_toArray, List.set_cons_zero, List.set_cons_succ]
      refine take_one (i := 10) (d := some 55) (v := .agg [.int .u8 z0, .int .u8 z1, .int .u32 zr, .slice au (zs.drop 8).length cu].toArray) rfl rfl rfl (by kernel_rfl) (by kernel_rfl) (by kernel_rfl) (fun _ _ d _ _ h => by cases d <;> exact h) (fun W hS => ex_buildI (.tmp 47) (.tmp 50) (.tmp 51) (.tmp 54) rfl rfl rfl rfl rfl) hxw2 ?_
      simp only [Act.put, List.setIfInBounds_toArray, List.set_cons_zero, List.set_cons_succ]
      obtain ⟨w3, hst3, b3, hon3⟩ := box_store Try.sizeOf26 (blk_on B0.out hx2) rfl [.int .u8 z0, .int .u8 z1, .int .u32 zr, .slice au (zs.drop 8).length cu] rfl (by simp [Value.oneCell'])
      have hx3 : Below w.heap.size w w3 := (HB0.out.trans (hx2.mono HB0.out.size)).trans (hon3.below (Nat.le_refl _))
      have hsz := HS0.out
      have hsd := hd1.size
      have hnw0 : New W0 (.slice au (zs.drop 8).length cu) (zs.drop 8) := hnw.old hsd
      have hu3 := hnw0.only (by omega) hu hon3
      have HX3 : Hid _ := hx3
      have HU3 : Hid _ := hu3
      have HN3 : Hid (New w (.slice au (zs.drop 8).length cu) (zs.drop 8)) := hnw0.old (by omega)
      have B3 : Hid _ := b3
      refine all_one (i := 11) (by kernel_rfl) rfl rfl ?_
      refine store_wp (.tmp 4) (.tmp 55) 26 rfl rfl rfl hst3 ⟨hx3, ?_⟩
      simp only [Act.put, List.setIfInBounds_toArray, List.set_cons_zero, List.set_cons_succ]
      refine take_one (i := 12) (d := some 5) (v := .int .i64 0) rfl rfl rfl (by kernel_rfl) (by kernel_rfl) (by kernel_rfl) (fun _ _ d _ _ h => by cases d <;> exact h) (fun W hS => ex_assign (.const (.int .i64 0)) rfl rfl) hx3 ?_
      simp only [Act.put, List.setIfInBounds_toArray, List.set_cons_zero, List.set_cons_succ]
      refine wpAnyH_done (by kernel_rfl) ?_ _
      clear hsz hsd hnw0 hu3 hx3 b3 hon3 hst3 hnw hu hb2
      go_wp2
      obtain rfl := G0.out
      obtain rfl := G1.out
      obtain rfl := GR.out
      exact bodyPost_ret (res2t rfl rfl (agg_loadVar Try.isAgg26 Try.sizeOf26 rfl (CellsAt.of_blk B3.out))) rfl (.good HF.out HE.out rfl HU3.out HN3.out HX3.out)

end Go.Proofs.Ytljmamogefgiaaa
