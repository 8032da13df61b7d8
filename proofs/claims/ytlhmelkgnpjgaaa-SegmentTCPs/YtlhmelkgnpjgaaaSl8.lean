/-
  SegmentTCPs: the walk, once the document's ParseTCP is told.
-/
import Derived.Test.YtlhmelkgnpjgaaaSl4
import Derived.Test.YtlhmelkgnpjgaaaSg8
import Derived.Test.YtlhmelkgnpjgaaaSg9
import Derived.Test.YtlhmelkgnpjgaaaSj2
import Derived.Test.YtlhmelkgnpjgaaaRg
namespace Go.Proofs.Ytlhmelkgnpjgaaa
open Go Go.RowKit Go.Shelf
set_option linter.unusedVariables false
set_option linter.unusedSimpArgs false

theorem alloc_tcpL {o : Oper} {a : Act} {d : Option Nat} {w : World} {K : Act → World → Prop} {Q : Exit → Act → World → Prop} (hop : o.op = Op.alloc 34) (hd : o.dst = d) (hK : K (a.put d (.pointer (some ⟨w.heap.size, 0, none⟩))) (w.alloc (.cells [.int .u16 0, .int .u16 0, .int .u32 0, .int .u32 0, .int .u8 0, .int .u16 0, .int .u16 0, .slice none 0 0, .slice none 0 0].toArray 34))) : o.wp Try.prog a w K Q := by
  subst hd
  unfold Oper.wp
  simp [execOp, hop, go_sem]
  exact hK
set_option maxHeartbeats 8000000 in
set_option maxRecDepth 100000 in
theorem segmentTCPs_walk (hrp : ∀ (sv dv : Value) (N : Nat) (ph : Int → Int → List Int) (v : Value) (zs : List Int) (w : World), N ≤ 1000 → EndV w sv dv N ph → RowC w v zs → Calls Try.prog 25 #[sv, dv, v] w fun e w' => ParT ph zs w e w') (A B C D : List Int) (la : A.length = 4) (lb : B.length = 4) (lc : C.length = 16) (ld : D.length = 16) (fa : Fit A) (fb : Fit B) (fc : Fit C) (fd : Fit D) (v : Value) (zs : List Int) (w : World) (h : RowC w v zs) :
    Calls Try.prog 5 #[.agg (endsC A B C D).toArray, v] w fun e w' => e = .returned (.bool true) ∧ Below w.heap.size w w' := by
  obtain ⟨W0, hW0⟩ : ∃ W0, w.alloc (.cells (endsC A B C D).toArray 27) = W0 := ⟨_, rfl⟩
  have hB := (Below.refl w.heap.size w).alloc (Nat.le_refl _) (.cells (endsC A B C D).toArray 27)
  have hE0 := ends_new w la lb lc ld fa fb fc fd
  rw [hW0] at hB hE0
  have hR : ∀ W, Below W0.heap.size W0 W → RowC W v zs := fun W hW => h.on (hB.trans (hW.mono hB.size))
  have M1 : Hid (∀ W, Below W0.heap.size W0 W → Calls Try.prog 24 #[.agg (u8L A).toArray, .agg (u8L B).toArray, v] W fun e w' => ParT (ph4 A B) zs W e w') := fun W hW => ParseTCP4_any A B la lb fa fb v zs W (hR W hW)
  have M2 : Hid (∀ W, Below W0.heap.size W0 W → Calls Try.prog 25 #[.slice (some ⟨w.heap.size, 0, none⟩) 4 4, .slice (some ⟨w.heap.size, 4, none⟩) 4 4, v] W fun e w' => ∃ q, e = .returned q ∧ ParT (ph4 A B) zs W (.returned q) w') := fun W hW => (hrp _ _ 4 _ v zs W (by decide) (hE0.on hW).e4 (hR W hW)).mono (fun e w' k => by obtain ⟨c, k1, k2⟩ := k; exact ⟨_, k1, c, rfl, k2⟩)
  have M3 : Hid (∀ W, Below W0.heap.size W0 W → Calls Try.prog 26 #[.agg (u8L C).toArray, .agg (u8L D).toArray, v] W fun e w' => ParT (ph6 C D) zs W e w') := fun W hW => ParseTCP6_any C D lc ld fc fd v zs W (hR W hW)
  have M4 : Hid (∀ W, Below W0.heap.size W0 W → Calls Try.prog 25 #[.slice (some ⟨w.heap.size, 8, none⟩) 16 16, .slice (some ⟨w.heap.size, 24, none⟩) 16 16, v] W fun e w' => ∃ q, e = .returned q ∧ ParT (ph6 C D) zs W (.returned q) w') := fun W hW => (hrp _ _ 16 _ v zs W (by decide) (hE0.on hW).e6 (hR W hW)).mono (fun e w' k => by obtain ⟨c, k1, k2⟩ := k; exact ⟨_, k1, c, rfl, k2⟩)
  have HB : Hid _ := hB
  have hx0 : Below W0.heap.size W0 W0 := Below.refl _ _
  have HLA : Hid (∀ W, Below W0.heap.size W0 W → (Instr.loadAt 23 (.pointer (some ⟨w.heap.size, 0, none⟩))).run Try.prog W = .ok (.agg (u8L A).toArray) W) := fun W hW => (hE0.on hW).lA
  have HLB : Hid (∀ W, Below W0.heap.size W0 W → (Instr.loadAt 23 (.pointer (some ⟨w.heap.size, 4, none⟩))).run Try.prog W = .ok (.agg (u8L B).toArray) W) := fun W hW => (hE0.on hW).lB
  have HLC : Hid (∀ W, Below W0.heap.size W0 W → (Instr.loadAt 25 (.pointer (some ⟨w.heap.size, 8, none⟩))).run Try.prog W = .ok (.agg (u8L C).toArray) W) := fun W hW => (hE0.on hW).lC
  have HLD : Hid (∀ W, Below W0.heap.size W0 W → (Instr.loadAt 25 (.pointer (some ⟨w.heap.size, 24, none⟩))).run Try.prog W = .ok (.agg (u8L D).toArray) W) := fun W hW => (hE0.on hW).lD
  unfold ParT at M1 M2 M3 M4
  generalize tE (ph4 A B) zs = e4 at *
  generalize tT (ph4 A B) zs = t4 at *
  generalize tE (ph6 C D) zs = e6 at *
  generalize tT (ph6 C D) zs = t6 at *
  have qe4 : (e4 == e4) = true := by simp
  have qe6 : (e6 == e6) = true := by simp
  obtain ⟨av, cv, rfl, _⟩ := h.val
  clear hB hE0 hR h fa fb fc fd la lb lc ld hrp
  generalize endsC A B C D = xE at *
  generalize u8L A = xA at *
  generalize u8L B = xB at *
  generalize u8L C = xC at *
  generalize u8L D = xD at *
  go_enter Try.func5, Try.ntmps5
  go_wp2_with first
    | ((with_reducible show wpList _ _ _ _ _ _); refine arm_load rfl (.tmp 14) 23 rfl rfl (HLA.out _ hx0) ?_)
    | ((with_reducible show wpList _ _ _ _ _ _); refine arm_load rfl (.tmp 16) 23 rfl rfl (HLB.out _ hx0) ?_)
  refine Calls.mono (M1.out _ hx0) ?_
  rintro _ w1 ⟨c1, rfl, ⟨hc1, _⟩, hb1⟩
  have hx1 := hx0.trans (hb1.mono hx0.size)
  obtain ⟨w2, hst2, b2, hb2⟩ := box_new Try.sizeOf34 w1 [.int .u16 0, .int .u16 0, .int .u32 0, .int .u32 0, .int .u8 0, .int .u16 0, .int .u16 0, .slice none 0 0, .slice none 0 0] rfl c1 hc1.len hc1.one
  have hx2 := hx1.trans (hb2.mono hx1.size)
  have HC1 : Hid (TcpC w2 c1 t4) := hc1.on hb2
  have BB1 : Hid _ := b2
  have HST2 : Hid _ := hst2
  have hl1 : Hid (c1.length = 9) := hc1.len
  clear hst2 b2 hb2 hc1 hb1 hx1 M1
  go_wp2_with first
    | ((with_reducible show wpList _ _ _ _ _ _); refine arm_store rfl (.tmp 5) (.tmp 20) 34 rfl rfl rfl HST2.out ?_)
  have hd3 : Below W0.heap.size W0 w2.drew := hx2.drew
  refine region_mid (fun a a' w' => ∃ c R, a' = (((((((((((a.put (some 23) (.pointer (some ⟨w.heap.size, 0, none⟩))).put (some 24) (.slice (some ⟨w.heap.size, 0, none⟩) 4 4)).put (some 25) (.pointer (some ⟨w.heap.size, 4, none⟩))).put (some 26) (.slice (some ⟨w.heap.size, 4, none⟩) 4 4)).put (some 27) (.slice av zs.length cv)).put (some 28) (.tuple #[.agg c.toArray, .int .i64 e4])).put (some 22) (.tuple #[.agg c.toArray, .int .i64 e4])).put (some 29) (.agg c.toArray)).put (some 30) (.int .i64 e4)).put (some 7) (.pointer (some ⟨R, 0, none⟩))).put (some 8) (.int .i64 e4)) ∧ w'.heap[R]? = some (.cells c.toArray 34) ∧ TcpC w' c t4 ∧ Below w2.heap.size w2 w') ?_ ?_
  · skip
    refine wp_region_held (S := fun W => Below W0.heap.size W0 W) (by kernel_rfl) ?_
    show wpAnyH _ _ _ _ _ 12 (Array.replicate 12 false) _ w2.drew
    refine take_one (i := 0) (d := some 23) (v := .pointer (some ⟨w.heap.size, 0, none⟩)) rfl rfl rfl (by kernel_rfl) (by kernel_rfl) (by kernel_rfl) (fun _ _ _ _ _ h => absurd h.1 (by simp)) (fun W hS => ex_fieldE 2 0 0 rfl rfl (.inl ⟨rfl, rfl⟩)) hd3 ?_
    simp only [Act.put, List.setIfInBounds_toArray, List.set_cons_zero, List.set_cons_succ]
    refine take_one (i := 1) (d := some 24) (v := .slice (some ⟨w.heap.size, 0, none⟩) 4 4) rfl rfl rfl (by kernel_rfl) (by kernel_rfl) (by kernel_rfl) (fun _ _ _ _ _ h => absurd h.1 (by simp)) (fun W hS => ex_slice4 23 rfl rfl) hd3 ?_
    simp only [Act.put, List.setIfInBounds_toArray, List.set_cons_zero, List.set_cons_succ]
    refine take_one (i := 2) (d := some 25) (v := .pointer (some ⟨w.heap.size, 4, none⟩)) rfl rfl rfl (by kernel_rfl) (by kernel_rfl) (by kernel_rfl) (fun _ _ _ _ _ h => absurd h.1 (by simp)) (fun W hS => ex_fieldE 2 1 4 rfl rfl (.inr (.inl ⟨rfl, rfl⟩))) hd3 ?_
    simp only [Act.put, List.setIfInBounds_toArray, List.set_cons_zero, List.set_cons_succ]
    refine take_one (i := 3) (d := some 26) (v := .slice (some ⟨w.heap.size, 4, none⟩) 4 4) rfl rfl rfl (by kernel_rfl) (by kernel_rfl) (by kernel_rfl) (fun _ _ _ _ _ h => absurd h.1 (by simp)) (fun W hS => ex_slice4 25 rfl rfl) hd3 ?_
    simp only [Act.put, List.setIfInBounds_toArray, List.set_cons_zero, List.set_cons_succ]
    refine take_one (i := 4) (d := some 27) (v := .slice av zs.length cv) rfl rfl rfl (by kernel_rfl) (by kernel_rfl) (by kernel_rfl) (fun _ _ _ _ _ h => absurd h.1 (by simp)) (fun W hS => ex_move (.tmp 1) rfl rfl) hd3 ?_
    simp only [Act.put, List.setIfInBounds_toArray, List.set_cons_zero, List.set_cons_succ]
    have hdr : Below w2.heap.size w2 w2.drew := (Below.refl _ w2).drew
    refine all_two (i1 := 5) (i2 := 9) (by kernel_rfl) rfl rfl rfl rfl ?_ ?_
    · skip
      refine wp_call (d := some 28) 25 _ rfl (by kernel_rfl) (M2.out _ hd3) ?_
      rintro _ wc ⟨c, hq, hc, hb⟩
      cases hq
      have hy := hdr.trans (hb.mono (Nat.le_refl _))
      have hx := hd3.trans (hb.mono hd3.size)
      refine ⟨hx, ?_⟩
      simp only [Act.put, List.setIfInBounds_toArray, List.set_cons_zero, List.set_cons_succ]
      refine take_one (i := 6) (d := some 22) (v := .tuple #[.agg c.toArray, .int .i64 e4]) rfl rfl rfl (by kernel_rfl) (by kernel_rfl) (by kernel_rfl) (fun _ _ _ _ _ h => absurd h.1 (by simp)) (fun W hS => ex_move (.tmp 28) rfl rfl) hx ?_
      simp only [Act.put, List.setIfInBounds_toArray, List.set_cons_zero, List.set_cons_succ]
      refine take_one (i := 7) (d := some 29) (v := .agg c.toArray) rfl rfl rfl (by kernel_rfl) (by kernel_rfl) (by kernel_rfl) (fun _ _ _ _ _ h => absurd h.1 (by simp)) (fun W hS => ex_extract (.tmp 22) 0 rfl rfl rfl) hx ?_
      simp only [Act.put, List.setIfInBounds_toArray, List.set_cons_zero, List.set_cons_succ]
      refine take_one (i := 8) (d := some 30) (v := .int .i64 e4) rfl rfl rfl (by kernel_rfl) (by kernel_rfl) (by kernel_rfl) (fun _ _ _ _ _ h => absurd h.1 (by simp)) (fun W hS => ex_extract (.tmp 22) 1 rfl rfl rfl) hx ?_
      simp only [Act.put, List.setIfInBounds_toArray, List.set_cons_zero, List.set_cons_succ]
      obtain ⟨wE, hst, hbl, hbE⟩ := box_new Try.sizeOf34 wc [.int .u16 0, .int .u16 0, .int .u32 0, .int .u32 0, .int .u8 0, .int .u16 0, .int .u16 0, .slice none 0 0, .slice none 0 0] rfl c hc.1.len hc.1.one
      have hxE := hx.trans (hbE.mono hx.size)
      have hyE := hy.trans (hbE.mono hy.size)
      have hcE := hc.1.on hbE
      refine all_one (i := 9) (by kernel_rfl) rfl rfl ?_
      refine alloc_tcpL (d := some 7) rfl rfl ⟨hx.alloc hx.size _, ?_⟩
      simp only [Act.put, List.setIfInBounds_toArray, List.set_cons_zero, List.set_cons_succ]
      refine all_one (i := 10) (by kernel_rfl) rfl rfl ?_
      refine store_wp (.tmp 7) (.tmp 29) 34 rfl rfl rfl hst ⟨hxE, ?_⟩
      simp only [Act.put, List.setIfInBounds_toArray, List.set_cons_zero, List.set_cons_succ]
      refine take_one (i := 11) (d := some 8) (v := .int .i64 e4) rfl rfl rfl (by kernel_rfl) (by kernel_rfl) (by kernel_rfl) (fun _ _ _ _ _ h => absurd h.1 (by simp)) (fun W hS => ex_assign (.tmp 30) rfl rfl) hxE ?_
      simp only [Act.put, List.setIfInBounds_toArray, List.set_cons_zero, List.set_cons_succ]
      refine wpAnyH_done (by kernel_rfl) ?_ _
      exact ⟨rfl, c, _, rfl, hbl, hcE, hyE⟩
    · skip
      have hb0 := hdr.alloc (Nat.le_refl _) (.cells [.int .u16 0, .int .u16 0, .int .u32 0, .int .u32 0, .int .u8 0, .int .u16 0, .int .u16 0, .slice none 0 0, .slice none 0 0].toArray 34)
      have hx0 := hd3.alloc hd3.size (.cells [.int .u16 0, .int .u16 0, .int .u32 0, .int .u32 0, .int .u8 0, .int .u16 0, .int .u16 0, .slice none 0 0, .slice none 0 0].toArray 34)
      refine alloc_tcpL (d := some 7) rfl rfl ⟨hx0, ?_⟩
      simp only [Act.put, List.setIfInBounds_toArray, List.set_cons_zero, List.set_cons_succ]
      have bl0 := blk_new w2.drew (.cells [.int .u16 0, .int .u16 0, .int .u32 0, .int .u32 0, .int .u8 0, .int .u16 0, .int .u16 0, .slice none 0 0, .slice none 0 0].toArray 34)
      refine all_one (i := 5) (by kernel_rfl) rfl rfl ?_
      refine wp_call (d := some 28) 25 _ rfl (by kernel_rfl) (M2.out _ hx0) ?_
      rintro _ wc ⟨c, hq, hc, hb⟩
      cases hq
      have hy := hb0.trans (hb.mono hb0.size)
      have hx := hx0.trans (hb.mono hx0.size)
      refine ⟨hx, ?_⟩
      simp only [Act.put, List.setIfInBounds_toArray, List.set_cons_zero, List.set_cons_succ]
      refine take_one (i := 6) (d := some 22) (v := .tuple #[.agg c.toArray, .int .i64 e4]) rfl rfl rfl (by kernel_rfl) (by kernel_rfl) (by kernel_rfl) (fun _ _ _ _ _ h => absurd h.1 (by simp)) (fun W hS => ex_move (.tmp 28) rfl rfl) hx ?_
      simp only [Act.put, List.setIfInBounds_toArray, List.set_cons_zero, List.set_cons_succ]
      refine take_one (i := 7) (d := some 29) (v := .agg c.toArray) rfl rfl rfl (by kernel_rfl) (by kernel_rfl) (by kernel_rfl) (fun _ _ _ _ _ h => absurd h.1 (by simp)) (fun W hS => ex_extract (.tmp 22) 0 rfl rfl rfl) hx ?_
      simp only [Act.put, List.setIfInBounds_toArray, List.set_cons_zero, List.set_cons_succ]
      refine take_one (i := 8) (d := some 30) (v := .int .i64 e4) rfl rfl rfl (by kernel_rfl) (by kernel_rfl) (by kernel_rfl) (fun _ _ _ _ _ h => absurd h.1 (by simp)) (fun W hS => ex_extract (.tmp 22) 1 rfl rfl rfl) hx ?_
      simp only [Act.put, List.setIfInBounds_toArray, List.set_cons_zero, List.set_cons_succ]
      obtain ⟨wE, hst, hbl, ho⟩ := box_store Try.sizeOf34 (blk_on bl0 hb) rfl c hc.1.len hc.1.one
      have hxE : Below W0.heap.size W0 wE := hx.trans (ho.below hd3.size)
      have hyE : Below w2.heap.size w2 wE := hy.trans (ho.below (Nat.le_refl _))
      have hcE := (hc.only (Array.getElem?_eq_some_iff.1 bl0).1 ho).1
      refine all_one (i := 10) (by kernel_rfl) rfl rfl ?_
      refine store_wp (.tmp 7) (.tmp 29) 34 rfl rfl rfl hst ⟨hxE, ?_⟩
      simp only [Act.put, List.setIfInBounds_toArray, List.set_cons_zero, List.set_cons_succ]
      refine take_one (i := 11) (d := some 8) (v := .int .i64 e4) rfl rfl rfl (by kernel_rfl) (by kernel_rfl) (by kernel_rfl) (fun _ _ _ _ _ h => absurd h.1 (by simp)) (fun W hS => ex_assign (.tmp 30) rfl rfl) hxE ?_
      simp only [Act.put, List.setIfInBounds_toArray, List.set_cons_zero, List.set_cons_succ]
      refine wpAnyH_done (by kernel_rfl) ?_ _
      exact ⟨rfl, c, _, rfl, hbl, hcE, hyE⟩
  rintro _ w3b ⟨c3, R3, rfl, b3, hc3, hy3⟩
  simp only [Act.put, List.setIfInBounds_toArray, List.set_cons_zero, List.set_cons_succ]
  have hx3b := hx2.trans (hy3.mono hx2.size)
  have HC3 : Hid _ := hc3
  have BB3 : Hid _ := b3
  have HY3 : Hid _ := hy3
  have hl3 : Hid (c3.length = 9) := hc3.len
  clear b3 hc3 hy3 hd3
  go_wp2_with first
    | ((with_reducible show wpList _ _ _ _ _ _); refine arm_load rfl (.tmp 32) 25 rfl rfl (HLC.out _ hx3b) ?_)
    | ((with_reducible show wpList _ _ _ _ _ _); refine arm_load rfl (.tmp 34) 25 rfl rfl (HLD.out _ hx3b) ?_)
  refine Calls.mono (M3.out _ hx3b) ?_
  rintro _ w4 ⟨c4, rfl, ⟨hc4, _⟩, hb4⟩
  have hx4 := hx3b.trans (hb4.mono hx3b.size)
  obtain ⟨w5, hst5, b5, hb5⟩ := box_new Try.sizeOf34 w4 [.int .u16 0, .int .u16 0, .int .u32 0, .int .u32 0, .int .u8 0, .int .u16 0, .int .u16 0, .slice none 0 0, .slice none 0 0] rfl c4 hc4.len hc4.one
  have hx5 := hx4.trans (hb5.mono hx4.size)
  have HY5 : Hid (Below w3b.heap.size w3b w5) := hb4.trans (hb5.mono hb4.size)
  have HC4 : Hid (TcpC w5 c4 t6) := hc4.on hb5
  have BB4 : Hid _ := b5
  have HST5 : Hid _ := hst5
  have hl4 : Hid (c4.length = 9) := hc4.len
  clear hst5 b5 hb5 hc4 hb4 hx4 M3
  go_wp2_with first
    | ((with_reducible show wpList _ _ _ _ _ _); refine arm_store rfl (.tmp 9) (.tmp 38) 34 rfl rfl rfl HST5.out ?_)
  have hd6 : Below W0.heap.size W0 w5.drew := hx5.drew
  refine region_mid (fun a a' w' => ∃ c R, a' = (((((((((((a.put (some 41) (.pointer (some ⟨w.heap.size, 8, none⟩))).put (some 42) (.slice (some ⟨w.heap.size, 8, none⟩) 16 16)).put (some 43) (.pointer (some ⟨w.heap.size, 24, none⟩))).put (some 44) (.slice (some ⟨w.heap.size, 24, none⟩) 16 16)).put (some 45) (.slice av zs.length cv)).put (some 46) (.tuple #[.agg c.toArray, .int .i64 e6])).put (some 40) (.tuple #[.agg c.toArray, .int .i64 e6])).put (some 47) (.agg c.toArray)).put (some 48) (.int .i64 e6)).put (some 11) (.pointer (some ⟨R, 0, none⟩))).put (some 12) (.int .i64 e6)) ∧ w'.heap[R]? = some (.cells c.toArray 34) ∧ TcpC w' c t6 ∧ Below w5.heap.size w5 w') ?_ ?_
  · skip
    refine wp_region_held (S := fun W => Below W0.heap.size W0 W) (by kernel_rfl) ?_
    show wpAnyH _ _ _ _ _ 12 (Array.replicate 12 false) _ w5.drew
    refine take_one (i := 0) (d := some 41) (v := .pointer (some ⟨w.heap.size, 8, none⟩)) rfl rfl rfl (by kernel_rfl) (by kernel_rfl) (by kernel_rfl) (fun _ _ _ _ _ h => absurd h.1 (by simp)) (fun W hS => ex_fieldE 2 2 8 rfl rfl (.inr (.inr (.inl ⟨rfl, rfl⟩)))) hd6 ?_
    simp only [Act.put, List.setIfInBounds_toArray, List.set_cons_zero, List.set_cons_succ]
    refine take_one (i := 1) (d := some 42) (v := .slice (some ⟨w.heap.size, 8, none⟩) 16 16) rfl rfl rfl (by kernel_rfl) (by kernel_rfl) (by kernel_rfl) (fun _ _ _ _ _ h => absurd h.1 (by simp)) (fun W hS => ex_slice6 41 rfl rfl) hd6 ?_
    simp only [Act.put, List.setIfInBounds_toArray, List.set_cons_zero, List.set_cons_succ]
    refine take_one (i := 2) (d := some 43) (v := .pointer (some ⟨w.heap.size, 24, none⟩)) rfl rfl rfl (by kernel_rfl) (by kernel_rfl) (by kernel_rfl) (fun _ _ _ _ _ h => absurd h.1 (by simp)) (fun W hS => ex_fieldE 2 3 24 rfl rfl (.inr (.inr (.inr ⟨rfl, rfl⟩)))) hd6 ?_
    simp only [Act.put, List.setIfInBounds_toArray, List.set_cons_zero, List.set_cons_succ]
    refine take_one (i := 3) (d := some 44) (v := .slice (some ⟨w.heap.size, 24, none⟩) 16 16) rfl rfl rfl (by kernel_rfl) (by kernel_rfl) (by kernel_rfl) (fun _ _ _ _ _ h => absurd h.1 (by simp)) (fun W hS => ex_slice6 43 rfl rfl) hd6 ?_
    simp only [Act.put, List.setIfInBounds_toArray, List.set_cons_zero, List.set_cons_succ]
    refine take_one (i := 4) (d := some 45) (v := .slice av zs.length cv) rfl rfl rfl (by kernel_rfl) (by kernel_rfl) (by kernel_rfl) (fun _ _ _ _ _ h => absurd h.1 (by simp)) (fun W hS => ex_move (.tmp 1) rfl rfl) hd6 ?_
    simp only [Act.put, List.setIfInBounds_toArray, List.set_cons_zero, List.set_cons_succ]
    have hdr : Below w5.heap.size w5 w5.drew := (Below.refl _ w5).drew
    refine all_two (i1 := 5) (i2 := 9) (by kernel_rfl) rfl rfl rfl rfl ?_ ?_
    · skip
      refine wp_call (d := some 46) 25 _ rfl (by kernel_rfl) (M4.out _ hd6) ?_
      rintro _ wc ⟨c, hq, hc, hb⟩
      cases hq
      have hy := hdr.trans (hb.mono (Nat.le_refl _))
      have hx := hd6.trans (hb.mono hd6.size)
      refine ⟨hx, ?_⟩
      simp only [Act.put, List.setIfInBounds_toArray, List.set_cons_zero, List.set_cons_succ]
      refine take_one (i := 6) (d := some 40) (v := .tuple #[.agg c.toArray, .int .i64 e6]) rfl rfl rfl (by kernel_rfl) (by kernel_rfl) (by kernel_rfl) (fun _ _ _ _ _ h => absurd h.1 (by simp)) (fun W hS => ex_move (.tmp 46) rfl rfl) hx ?_
      simp only [Act.put, List.setIfInBounds_toArray, List.set_cons_zero, List.set_cons_succ]
      refine take_one (i := 7) (d := some 47) (v := .agg c.toArray) rfl rfl rfl (by kernel_rfl) (by kernel_rfl) (by kernel_rfl) (fun _ _ _ _ _ h => absurd h.1 (by simp)) (fun W hS => ex_extract (.tmp 40) 0 rfl rfl rfl) hx ?_
      simp only [Act.put, List.setIfInBounds_toArray, List.set_cons_zero, List.set_cons_succ]
      refine take_one (i := 8) (d := some 48) (v := .int .i64 e6) rfl rfl rfl (by kernel_rfl) (by kernel_rfl) (by kernel_rfl) (fun _ _ _ _ _ h => absurd h.1 (by simp)) (fun W hS => ex_extract (.tmp 40) 1 rfl rfl rfl) hx ?_
      simp only [Act.put, List.setIfInBounds_toArray, List.set_cons_zero, List.set_cons_succ]
      obtain ⟨wE, hst, hbl, hbE⟩ := box_new Try.sizeOf34 wc [.int .u16 0, .int .u16 0, .int .u32 0, .int .u32 0, .int .u8 0, .int .u16 0, .int .u16 0, .slice none 0 0, .slice none 0 0] rfl c hc.1.len hc.1.one
      have hxE := hx.trans (hbE.mono hx.size)
      have hyE := hy.trans (hbE.mono hy.size)
      have hcE := hc.1.on hbE
      refine all_one (i := 9) (by kernel_rfl) rfl rfl ?_
      refine alloc_tcpL (d := some 11) rfl rfl ⟨hx.alloc hx.size _, ?_⟩
      simp only [Act.put, List.setIfInBounds_toArray, List.set_cons_zero, List.set_cons_succ]
      refine all_one (i := 10) (by kernel_rfl) rfl rfl ?_
      refine store_wp (.tmp 11) (.tmp 47) 34 rfl rfl rfl hst ⟨hxE, ?_⟩
      simp only [Act.put, List.setIfInBounds_toArray, List.set_cons_zero, List.set_cons_succ]
      refine take_one (i := 11) (d := some 12) (v := .int .i64 e6) rfl rfl rfl (by kernel_rfl) (by kernel_rfl) (by kernel_rfl) (fun _ _ _ _ _ h => absurd h.1 (by simp)) (fun W hS => ex_assign (.tmp 48) rfl rfl) hxE ?_
      simp only [Act.put, List.setIfInBounds_toArray, List.set_cons_zero, List.set_cons_succ]
      refine wpAnyH_done (by kernel_rfl) ?_ _
      exact ⟨rfl, c, _, rfl, hbl, hcE, hyE⟩
    · skip
      have hb0 := hdr.alloc (Nat.le_refl _) (.cells [.int .u16 0, .int .u16 0, .int .u32 0, .int .u32 0, .int .u8 0, .int .u16 0, .int .u16 0, .slice none 0 0, .slice none 0 0].toArray 34)
      have hx0 := hd6.alloc hd6.size (.cells [.int .u16 0, .int .u16 0, .int .u32 0, .int .u32 0, .int .u8 0, .int .u16 0, .int .u16 0, .slice none 0 0, .slice none 0 0].toArray 34)
      refine alloc_tcpL (d := some 11) rfl rfl ⟨hx0, ?_⟩
      simp only [Act.put, List.setIfInBounds_toArray, List.set_cons_zero, List.set_cons_succ]
      have bl0 := blk_new w5.drew (.cells [.int .u16 0, .int .u16 0, .int .u32 0, .int .u32 0, .int .u8 0, .int .u16 0, .int .u16 0, .slice none 0 0, .slice none 0 0].toArray 34)
      refine all_one (i := 5) (by kernel_rfl) rfl rfl ?_
      refine wp_call (d := some 46) 25 _ rfl (by kernel_rfl) (M4.out _ hx0) ?_
      rintro _ wc ⟨c, hq, hc, hb⟩
      cases hq
      have hy := hb0.trans (hb.mono hb0.size)
      have hx := hx0.trans (hb.mono hx0.size)
      refine ⟨hx, ?_⟩
      simp only [Act.put, List.setIfInBounds_toArray, List.set_cons_zero, List.set_cons_succ]
      refine take_one (i := 6) (d := some 40) (v := .tuple #[.agg c.toArray, .int .i64 e6]) rfl rfl rfl (by kernel_rfl) (by kernel_rfl) (by kernel_rfl) (fun _ _ _ _ _ h => absurd h.1 (by simp)) (fun W hS => ex_move (.tmp 46) rfl rfl) hx ?_
      simp only [Act.put, List.setIfInBounds_toArray, List.set_cons_zero, List.set_cons_succ]
      refine take_one (i := 7) (d := some 47) (v := .agg c.toArray) rfl rfl rfl (by kernel_rfl) (by kernel_rfl) (by kernel_rfl) (fun _ _ _ _ _ h => absurd h.1 (by simp)) (fun W hS => ex_extract (.tmp 40) 0 rfl rfl rfl) hx ?_
      simp only [Act.put, List.setIfInBounds_toArray, List.set_cons_zero, List.set_cons_succ]
      refine take_one (i := 8) (d := some 48) (v := .int .i64 e6) rfl rfl rfl (by kernel_rfl) (by kernel_rfl) (by kernel_rfl) (fun _ _ _ _ _ h => absurd h.1 (by simp)) (fun W hS => ex_extract (.tmp 40) 1 rfl rfl rfl) hx ?_
      simp only [Act.put, List.setIfInBounds_toArray, List.set_cons_zero, List.set_cons_succ]
      obtain ⟨wE, hst, hbl, ho⟩ := box_store Try.sizeOf34 (blk_on bl0 hb) rfl c hc.1.len hc.1.one
      have hxE : Below W0.heap.size W0 wE := hx.trans (ho.below hd6.size)
      have hyE : Below w5.heap.size w5 wE := hy.trans (ho.below (Nat.le_refl _))
      have hcE := (hc.only (Array.getElem?_eq_some_iff.1 bl0).1 ho).1
      refine all_one (i := 10) (by kernel_rfl) rfl rfl ?_
      refine store_wp (.tmp 11) (.tmp 47) 34 rfl rfl rfl hst ⟨hxE, ?_⟩
      simp only [Act.put, List.setIfInBounds_toArray, List.set_cons_zero, List.set_cons_succ]
      refine take_one (i := 11) (d := some 12) (v := .int .i64 e6) rfl rfl rfl (by kernel_rfl) (by kernel_rfl) (by kernel_rfl) (fun _ _ _ _ _ h => absurd h.1 (by simp)) (fun W hS => ex_assign (.tmp 48) rfl rfl) hxE ?_
      simp only [Act.put, List.setIfInBounds_toArray, List.set_cons_zero, List.set_cons_succ]
      refine wpAnyH_done (by kernel_rfl) ?_ _
      exact ⟨rfl, c, _, rfl, hbl, hcE, hyE⟩
  rintro _ w6b ⟨c6, R6, rfl, b6, hc6, hy6⟩
  simp only [Act.put, List.setIfInBounds_toArray, List.set_cons_zero, List.set_cons_succ]
  have hx6b := hx5.trans (hy6.mono hx5.size)
  have HC6 : Hid _ := hc6
  have BB6 : Hid _ := b6
  have HY6 : Hid _ := hy6
  have hl6 : Hid (c6.length = 9) := hc6.len
  clear b6 hc6 hy6 hd6
  have hz3 : Below w3b.heap.size w3b w6b := HY5.out.trans (HY6.out.mono HY5.out.size)
  have hz1 : Below w2.heap.size w2 w6b := HY3.out.trans (hz3.mono HY3.out.size)
  have L1 : Hid (∀ W, Below w6b.heap.size w6b W → (Instr.loadAt 34 (.pointer (some ⟨w1.heap.size, 0, none⟩))).run Try.prog W = .ok (.agg c1.toArray) W) := fun W hW => agg_load Try.isAgg34 Try.sizeOf34 hl1.out (CellsAt.of_blk (blk_on (blk_on BB1.out hz1) hW))
  have L3 : Hid (∀ W, Below w6b.heap.size w6b W → (Instr.loadAt 34 (.pointer (some ⟨R3, 0, none⟩))).run Try.prog W = .ok (.agg c3.toArray) W) := fun W hW => agg_load Try.isAgg34 Try.sizeOf34 hl3.out (CellsAt.of_blk (blk_on (blk_on BB3.out hz3) hW))
  have L4 : Hid (∀ W, Below w6b.heap.size w6b W → (Instr.loadAt 34 (.pointer (some ⟨w4.heap.size, 0, none⟩))).run Try.prog W = .ok (.agg c4.toArray) W) := fun W hW => agg_load Try.isAgg34 Try.sizeOf34 hl4.out (CellsAt.of_blk (blk_on (blk_on BB4.out HY6.out) hW))
  have L6 : Hid (∀ W, Below w6b.heap.size w6b W → (Instr.loadAt 34 (.pointer (some ⟨R6, 0, none⟩))).run Try.prog W = .ok (.agg c6.toArray) W) := fun W hW => agg_load Try.isAgg34 Try.sizeOf34 hl6.out (CellsAt.of_blk (blk_on BB6.out hW))
  have S1 : Hid _ := RSameTCP_calls w6b (HC1.out.on hz1) (HC3.out.on hz3)
  rw [sameT_self] at S1
  have S2 : Hid (∀ W, Below w6b.heap.size w6b W → Calls Try.prog 27 #[.agg c4.toArray, .agg c6.toArray] W fun e w' => e = .returned (.bool true) ∧ Below W.heap.size W w') := fun W hW => by
    have k := RSameTCP_calls W ((HC4.out.on HY6.out).on hW) (HC6.out.on hW)
    rwa [sameT_self] at k
  have HF : Hid (Below w.heap.size w w6b) := HB.out.trans (hx6b.mono HB.out.size)
  have hy0 : Below w6b.heap.size w6b w6b := Below.refl _ _
  clear hz1 hz3 HC1 HC3 HC4 HC6 BB1 BB3 BB4 BB6 HY3 HY5 HY6 hx6b hx5 hx3b hx2 hx0 HST2 HST5 hl1 hl3 hl4 hl6 M2 M4 HLA HLB HLC HLD
  go_wp2_with first
    | ((with_reducible show wpList _ _ _ _ _ _); refine arm_load rfl (.tmp 5) 34 rfl rfl (L1.out _ hy0) ?_)
    | ((with_reducible show wpList _ _ _ _ _ _); refine arm_load rfl (.tmp 7) 34 rfl rfl (L3.out _ hy0) ?_)
  refine Calls.mono S1.out ?_
  rintro _ w7 ⟨rfl, hy7⟩
  go_wp2_with first
    | ((with_reducible show wpList _ _ _ _ _ _); refine arm_load rfl (.tmp 9) 34 rfl rfl (L4.out _ hy7) ?_)
    | ((with_reducible show wpList _ _ _ _ _ _); refine arm_load rfl (.tmp 11) 34 rfl rfl (L6.out _ hy7) ?_)
  refine Calls.mono (S2.out _ hy7) ?_
  rintro _ w8 ⟨rfl, hy8⟩
  go_wp2_with fail
  refine Calls.mono (awake_calls6 _) ?_
  rintro _ w9 ⟨rfl, hy9⟩
  go_wp2
  go_ret
  have hy78 := hy7.trans (hy8.mono hy7.size)
  have hy79 := hy78.trans (hy9.mono hy78.size)
  exact ⟨rfl, HF.out.trans (hy79.mono HF.out.size)⟩

end Go.Proofs.Ytlhmelkgnpjgaaa
