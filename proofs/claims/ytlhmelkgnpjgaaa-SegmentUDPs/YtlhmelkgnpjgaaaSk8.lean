/-
  SegmentUDPs.
-/
import Derived.Test.YtlhmelkgnpjgaaaSk7
import Derived.Test.YtlhmelkgnpjgaaaSg8
import Derived.Test.YtlhmelkgnpjgaaaSg9
import Derived.Test.YtlhmelkgnpjgaaaSj2
import Derived.Test.YtlhmelkgnpjgaaaRg
namespace Go.Proofs.Ytlhmelkgnpjgaaa
open Go Go.RowKit Go.Shelf
set_option linter.unusedVariables false
set_option linter.unusedSimpArgs false

theorem alloc_udp {o : Oper} {a : Act} {d : Option Nat} {w : World} {K : Act → World → Prop} {Q : Exit → Act → World → Prop} (hop : o.op = Op.alloc 31) (hd : o.dst = d) (hK : K (a.put d (.pointer (some ⟨w.heap.size, 0, none⟩))) (w.alloc (.cells [.int .u16 0, .int .u16 0, .slice none 0 0].toArray 31))) : o.wp Try.prog a w K Q := by
  subst hd
  unfold Oper.wp
  simp [execOp, hop, go_sem]
  exact hK
theorem UdpC.one {w : World} {c : List Value} {s d : Int} {x : List Int} (h : UdpC w c s d x) : ∀ v ∈ c, v.oneCell' = true := by
  obtain ⟨⟨vd, rfl, hv⟩, _⟩ := h
  obtain ⟨a, k, rfl, _⟩ := hv.val
  simp [Value.oneCell']
theorem UdpC.box {W W' : World} {R : Nat} {c : List Value} {s d : Int} {x : List Int} (h : UdpC W c s d x) (hR : W.heap[R]? = some (.cells [.int .u16 0, .int .u16 0, .slice none 0 0].toArray 31)) (ho : Only R W W') : UdpC W' c s d x := by
  obtain ⟨⟨vd, rfl, hv⟩, h3, h4⟩ := h
  refine ⟨⟨vd, rfl, keep_only hv ho ?_⟩, h3, h4⟩
  obtain ⟨hf, hle, a, cap, rfl, hz⟩ := hv
  rcases hz with hz | ⟨b, off, rfl, hlt, hc⟩
  · exact .inl hz
  · by_cases h0 : x.length = 0
    · exact .inl h0
    · refine .inr ?_
      rintro b' off' n k e rfl
      cases e
      have h1 := hc 0 (by omega)
      rcases off with _ | _ | _ | off <;> simp [World.cell?, hR] at h1

set_option maxHeartbeats 8000000 in
set_option maxRecDepth 100000 in
theorem segmentUDPs_walk (A B C D : List Int) (la : A.length = 4) (lb : B.length = 4) (lc : C.length = 16) (ld : D.length = 16) (fa : Fit A) (fb : Fit B) (fc : Fit C) (fd : Fit D) (v : Value) (zs : List Int) (w : World) (h : RowC w v zs) :
    Calls Try.prog 4 #[.agg (endsC A B C D).toArray, v] w fun e w' => e = .returned (.bool true) ∧ Below w.heap.size w w' := by
  obtain ⟨W0, hW0⟩ : ∃ W0, w.alloc (.cells (endsC A B C D).toArray 27) = W0 := ⟨_, rfl⟩
  have hB := (Below.refl w.heap.size w).alloc (Nat.le_refl _) (.cells (endsC A B C D).toArray 27)
  have hE0 := ends_new w la lb lc ld fa fb fc fd
  rw [hW0] at hB hE0
  have hR : ∀ W, Below W0.heap.size W0 W → RowC W v zs := fun W hW => h.on (hB.trans (hW.mono hB.size))
  have M1 : Hid (∀ W, Below W0.heap.size W0 W → Calls Try.prog 20 #[.agg (u8L A).toArray, .agg (u8L B).toArray, v] W fun e w' => ParU 4 (ph4 A B) zs W e w') := fun W hW => ParseUDP4_any A B la lb fa fb v zs W (hR W hW)
  have M2 : Hid (∀ W, Below W0.heap.size W0 W → Calls Try.prog 21 #[.slice (some ⟨w.heap.size, 0, none⟩) 4 4, .slice (some ⟨w.heap.size, 4, none⟩) 4 4, v] W fun e w' => ∃ q, e = .returned q ∧ ParU 4 (ph4 A B) zs W (.returned q) w') := fun W hW => (RParseUDP_any _ _ 4 _ (by decide) v zs W (hE0.on hW).e4 (hR W hW)).mono (fun e w' k => by obtain ⟨c, k1, k2⟩ := k; exact ⟨_, k1, c, rfl, k2⟩)
  have M3 : Hid (∀ W, Below W0.heap.size W0 W → Calls Try.prog 22 #[.agg (u8L C).toArray, .agg (u8L D).toArray, v] W fun e w' => ParV 16 (ph6 C D) zs W e w') := fun W hW => ParseUDP6_any C D lc ld fc fd v zs W (hR W hW)
  have M4 : Hid (∀ W, Below W0.heap.size W0 W → Calls Try.prog 21 #[.slice (some ⟨w.heap.size, 8, none⟩) 16 16, .slice (some ⟨w.heap.size, 24, none⟩) 16 16, v] W fun e w' => ∃ q, e = .returned q ∧ ParU 16 (ph6 C D) zs W (.returned q) w') := fun W hW => (RParseUDP_any _ _ 16 _ (by decide) v zs W (hE0.on hW).e6 (hR W hW)).mono (fun e w' k => by obtain ⟨c, k1, k2⟩ := k; exact ⟨_, k1, c, rfl, k2⟩)
  have HB : Hid _ := hB
  have hx0 : Below W0.heap.size W0 W0 := Below.refl _ _
  have HLA : Hid (∀ W, Below W0.heap.size W0 W → (Instr.loadAt 23 (.pointer (some ⟨w.heap.size, 0, none⟩))).run Try.prog W = .ok (.agg (u8L A).toArray) W) := fun W hW => (hE0.on hW).lA
  have HLB : Hid (∀ W, Below W0.heap.size W0 W → (Instr.loadAt 23 (.pointer (some ⟨w.heap.size, 4, none⟩))).run Try.prog W = .ok (.agg (u8L B).toArray) W) := fun W hW => (hE0.on hW).lB
  have HLC : Hid (∀ W, Below W0.heap.size W0 W → (Instr.loadAt 25 (.pointer (some ⟨w.heap.size, 8, none⟩))).run Try.prog W = .ok (.agg (u8L C).toArray) W) := fun W hW => (hE0.on hW).lC
  have HLD : Hid (∀ W, Below W0.heap.size W0 W → (Instr.loadAt 25 (.pointer (some ⟨w.heap.size, 24, none⟩))).run Try.prog W = .ok (.agg (u8L D).toArray) W) := fun W hW => (hE0.on hW).lD
  unfold ParU at M1 M2 M4
  unfold ParV at M3
  generalize uE 4 (ph4 A B) zs = e4 at *
  generalize uS 4 (ph4 A B) zs = s4 at *
  generalize uD 4 (ph4 A B) zs = d4 at *
  generalize uX 4 (ph4 A B) zs = x4 at *
  generalize uB 4 (ph4 A B) zs = n4 at *
  generalize uE 16 (ph6 C D) zs = e6 at *
  generalize uS 16 (ph6 C D) zs = s6 at *
  generalize uD 16 (ph6 C D) zs = d6 at *
  generalize uX 16 (ph6 C D) zs = x6 at *
  generalize uB 16 (ph6 C D) zs = n6 at *
  have qe4 : (e4 == e4) = true := by simp
  have qe6 : (e6 == e6) = true := by simp
  have qn4 : (n4 == n4) = true := by simp
  obtain ⟨av, cv, rfl, _⟩ := h.val
  clear hB hE0 hR h fa fb fc fd la lb lc ld
  generalize endsC A B C D = xE at *
  generalize u8L A = xA at *
  generalize u8L B = xB at *
  generalize u8L C = xC at *
  generalize u8L D = xD at *
  go_enter Try.func4, Try.ntmps4
  go_wp2_with first
    | ((with_reducible show wpList _ _ _ _ _ _); refine arm_load rfl (.tmp 17) 23 rfl rfl (HLA.out _ hx0) ?_)
    | ((with_reducible show wpList _ _ _ _ _ _); refine arm_load rfl (.tmp 19) 23 rfl rfl (HLB.out _ hx0) ?_)
  refine Calls.mono (M1.out _ hx0) ?_
  rintro _ w1 ⟨c1, rfl, hc1, hb1⟩
  have hx1 := hx0.trans (hb1.mono hx0.size)
  obtain ⟨w2, hst2, b2, hb2⟩ := box_new Try.sizeOf31 w1 [.int .u16 0, .int .u16 0, .slice none 0 0] rfl c1 hc1.len hc1.one
  have hx2 := hx1.trans (hb2.mono hx1.size)
  have HC1 : Hid (UdpC w2 c1 s4 d4 x4) := hc1.on hb2
  have BB1 : Hid _ := b2
  have HST2 : Hid _ := hst2
  have hl1 : Hid (c1.length = 3) := hc1.len
  clear hst2 b2 hb2 hc1 hb1 hx1 M1
  go_wp2_with first
    | ((with_reducible show wpList _ _ _ _ _ _); refine arm_store rfl (.tmp 5) (.tmp 23) 31 rfl rfl rfl HST2.out ?_)
  have hd3 : Below W0.heap.size W0 w2.drew := hx2.drew
  refine region_mid (fun a a' w' => ∃ c R, a' = (((((((((((((a.put (some 27) (.pointer (some ⟨w.heap.size, 0, none⟩))).put (some 28) (.slice (some ⟨w.heap.size, 0, none⟩) 4 4)).put (some 29) (.pointer (some ⟨w.heap.size, 4, none⟩))).put (some 30) (.slice (some ⟨w.heap.size, 4, none⟩) 4 4)).put (some 31) (.slice av zs.length cv)).put (some 32) (.tuple #[.agg c.toArray, .bool n4, .int .i64 e4])).put (some 26) (.tuple #[.agg c.toArray, .bool n4, .int .i64 e4])).put (some 33) (.agg c.toArray)).put (some 34) (.bool n4)).put (some 35) (.int .i64 e4)).put (some 8) (.pointer (some ⟨R, 0, none⟩))).put (some 9) (.bool n4)).put (some 10) (.int .i64 e4)) ∧ w'.heap[R]? = some (.cells c.toArray 31) ∧ UdpC w' c s4 d4 x4 ∧ Below w2.heap.size w2 w') ?_ ?_
  · skip
    refine wp_region_held (S := fun W => Below W0.heap.size W0 W) (by kernel_rfl) ?_
    show wpAnyH _ _ _ _ _ 14 (Array.replicate 14 false) _ w2.drew
    refine take_one (i := 0) (d := some 27) (v := .pointer (some ⟨w.heap.size, 0, none⟩)) rfl rfl rfl (by kernel_rfl) (by kernel_rfl) (by kernel_rfl) (fun _ _ _ _ _ h => absurd h.1 (by simp)) (fun W hS => ex_fieldE 2 0 0 rfl rfl (.inl ⟨rfl, rfl⟩)) hd3 ?_
    simp only [Act.put, List.setIfInBounds_toArray, List.set_cons_zero, List.set_cons_succ]
    refine take_one (i := 1) (d := some 28) (v := .slice (some ⟨w.heap.size, 0, none⟩) 4 4) rfl rfl rfl (by kernel_rfl) (by kernel_rfl) (by kernel_rfl) (fun _ _ _ _ _ h => absurd h.1 (by simp)) (fun W hS => ex_slice4 27 rfl rfl) hd3 ?_
    simp only [Act.put, List.setIfInBounds_toArray, List.set_cons_zero, List.set_cons_succ]
    refine take_one (i := 2) (d := some 29) (v := .pointer (some ⟨w.heap.size, 4, none⟩)) rfl rfl rfl (by kernel_rfl) (by kernel_rfl) (by kernel_rfl) (fun _ _ _ _ _ h => absurd h.1 (by simp)) (fun W hS => ex_fieldE 2 1 4 rfl rfl (.inr (.inl ⟨rfl, rfl⟩))) hd3 ?_
    simp only [Act.put, List.setIfInBounds_toArray, List.set_cons_zero, List.set_cons_succ]
    refine take_one (i := 3) (d := some 30) (v := .slice (some ⟨w.heap.size, 4, none⟩) 4 4) rfl rfl rfl (by kernel_rfl) (by kernel_rfl) (by kernel_rfl) (fun _ _ _ _ _ h => absurd h.1 (by simp)) (fun W hS => ex_slice4 29 rfl rfl) hd3 ?_
    simp only [Act.put, List.setIfInBounds_toArray, List.set_cons_zero, List.set_cons_succ]
    refine take_one (i := 4) (d := some 31) (v := .slice av zs.length cv) rfl rfl rfl (by kernel_rfl) (by kernel_rfl) (by kernel_rfl) (fun _ _ _ _ _ h => absurd h.1 (by simp)) (fun W hS => ex_move (.tmp 1) rfl rfl) hd3 ?_
    simp only [Act.put, List.setIfInBounds_toArray, List.set_cons_zero, List.set_cons_succ]
    have hdr : Below w2.heap.size w2 w2.drew := (Below.refl _ w2).drew
    refine all_two (i1 := 5) (i2 := 10) (by kernel_rfl) rfl rfl rfl rfl ?_ ?_
    · skip
      refine wp_call (d := some 32) 21 _ rfl (by kernel_rfl) (M2.out _ hd3) ?_
      rintro _ wc ⟨c, hq, hc, hb⟩
      cases hq
      have hy := hdr.trans (hb.mono (Nat.le_refl _))
      have hx := hd3.trans (hb.mono hd3.size)
      refine ⟨hx, ?_⟩
      simp only [Act.put, List.setIfInBounds_toArray, List.set_cons_zero, List.set_cons_succ]
      refine take_one (i := 6) (d := some 26) (v := .tuple #[.agg c.toArray, .bool n4, .int .i64 e4]) rfl rfl rfl (by kernel_rfl) (by kernel_rfl) (by kernel_rfl) (fun _ _ _ _ _ h => absurd h.1 (by simp)) (fun W hS => ex_move (.tmp 32) rfl rfl) hx ?_
      simp only [Act.put, List.setIfInBounds_toArray, List.set_cons_zero, List.set_cons_succ]
      refine take_one (i := 7) (d := some 33) (v := .agg c.toArray) rfl rfl rfl (by kernel_rfl) (by kernel_rfl) (by kernel_rfl) (fun _ _ _ _ _ h => absurd h.1 (by simp)) (fun W hS => ex_extract (.tmp 26) 0 rfl rfl rfl) hx ?_
      simp only [Act.put, List.setIfInBounds_toArray, List.set_cons_zero, List.set_cons_succ]
      refine take_one (i := 8) (d := some 34) (v := .bool n4) rfl rfl rfl (by kernel_rfl) (by kernel_rfl) (by kernel_rfl) (fun _ _ _ _ _ h => absurd h.1 (by simp)) (fun W hS => ex_extract (.tmp 26) 1 rfl rfl rfl) hx ?_
      simp only [Act.put, List.setIfInBounds_toArray, List.set_cons_zero, List.set_cons_succ]
      refine take_one (i := 9) (d := some 35) (v := .int .i64 e4) rfl rfl rfl (by kernel_rfl) (by kernel_rfl) (by kernel_rfl) (fun _ _ _ _ _ h => absurd h.1 (by simp)) (fun W hS => ex_extract (.tmp 26) 2 rfl rfl rfl) hx ?_
      simp only [Act.put, List.setIfInBounds_toArray, List.set_cons_zero, List.set_cons_succ]
      obtain ⟨wE, hst, hbl, hbE⟩ := box_new Try.sizeOf31 wc [.int .u16 0, .int .u16 0, .slice none 0 0] rfl c hc.len hc.one
      have hxE := hx.trans (hbE.mono hx.size)
      have hyE := hy.trans (hbE.mono hy.size)
      have hcE := hc.on hbE
      refine all_one (i := 10) (by kernel_rfl) rfl rfl ?_
      refine alloc_udp (d := some 8) rfl rfl ⟨hx.alloc hx.size _, ?_⟩
      simp only [Act.put, List.setIfInBounds_toArray, List.set_cons_zero, List.set_cons_succ]
      refine all_one (i := 11) (by kernel_rfl) rfl rfl ?_
      refine store_wp (.tmp 8) (.tmp 33) 31 rfl rfl rfl hst ⟨hxE, ?_⟩
      simp only [Act.put, List.setIfInBounds_toArray, List.set_cons_zero, List.set_cons_succ]
      refine take_one (i := 12) (d := some 9) (v := .bool n4) rfl rfl rfl (by kernel_rfl) (by kernel_rfl) (by kernel_rfl) (fun _ _ _ _ _ h => absurd h.1 (by simp)) (fun W hS => ex_assign (.tmp 34) rfl rfl) hxE ?_
      simp only [Act.put, List.setIfInBounds_toArray, List.set_cons_zero, List.set_cons_succ]
      refine take_one (i := 13) (d := some 10) (v := .int .i64 e4) rfl rfl rfl (by kernel_rfl) (by kernel_rfl) (by kernel_rfl) (fun _ _ _ _ _ h => absurd h.1 (by simp)) (fun W hS => ex_assign (.tmp 35) rfl rfl) hxE ?_
      simp only [Act.put, List.setIfInBounds_toArray, List.set_cons_zero, List.set_cons_succ]
      refine wpAnyH_done (by kernel_rfl) ?_ _
      exact ⟨rfl, c, _, rfl, hbl, hcE, hyE⟩
    · skip
      have hb0 := hdr.alloc (Nat.le_refl _) (.cells [.int .u16 0, .int .u16 0, .slice none 0 0].toArray 31)
      have hx0 := hd3.alloc hd3.size (.cells [.int .u16 0, .int .u16 0, .slice none 0 0].toArray 31)
      refine alloc_udp (d := some 8) rfl rfl ⟨hx0, ?_⟩
      simp only [Act.put, List.setIfInBounds_toArray, List.set_cons_zero, List.set_cons_succ]
      have bl0 := blk_new w2.drew (.cells [.int .u16 0, .int .u16 0, .slice none 0 0].toArray 31)
      refine all_one (i := 5) (by kernel_rfl) rfl rfl ?_
      refine wp_call (d := some 32) 21 _ rfl (by kernel_rfl) (M2.out _ hx0) ?_
      rintro _ wc ⟨c, hq, hc, hb⟩
      cases hq
      have hy := hb0.trans (hb.mono hb0.size)
      have hx := hx0.trans (hb.mono hx0.size)
      refine ⟨hx, ?_⟩
      simp only [Act.put, List.setIfInBounds_toArray, List.set_cons_zero, List.set_cons_succ]
      refine take_one (i := 6) (d := some 26) (v := .tuple #[.agg c.toArray, .bool n4, .int .i64 e4]) rfl rfl rfl (by kernel_rfl) (by kernel_rfl) (by kernel_rfl) (fun _ _ _ _ _ h => absurd h.1 (by simp)) (fun W hS => ex_move (.tmp 32) rfl rfl) hx ?_
      simp only [Act.put, List.setIfInBounds_toArray, List.set_cons_zero, List.set_cons_succ]
      refine take_one (i := 7) (d := some 33) (v := .agg c.toArray) rfl rfl rfl (by kernel_rfl) (by kernel_rfl) (by kernel_rfl) (fun _ _ _ _ _ h => absurd h.1 (by simp)) (fun W hS => ex_extract (.tmp 26) 0 rfl rfl rfl) hx ?_
      simp only [Act.put, List.setIfInBounds_toArray, List.set_cons_zero, List.set_cons_succ]
      refine take_one (i := 8) (d := some 34) (v := .bool n4) rfl rfl rfl (by kernel_rfl) (by kernel_rfl) (by kernel_rfl) (fun _ _ _ _ _ h => absurd h.1 (by simp)) (fun W hS => ex_extract (.tmp 26) 1 rfl rfl rfl) hx ?_
      simp only [Act.put, List.setIfInBounds_toArray, List.set_cons_zero, List.set_cons_succ]
      refine take_one (i := 9) (d := some 35) (v := .int .i64 e4) rfl rfl rfl (by kernel_rfl) (by kernel_rfl) (by kernel_rfl) (fun _ _ _ _ _ h => absurd h.1 (by simp)) (fun W hS => ex_extract (.tmp 26) 2 rfl rfl rfl) hx ?_
      simp only [Act.put, List.setIfInBounds_toArray, List.set_cons_zero, List.set_cons_succ]
      obtain ⟨wE, hst, hbl, ho⟩ := box_store Try.sizeOf31 (blk_on bl0 hb) rfl c hc.len hc.one
      have hxE : Below W0.heap.size W0 wE := hx.trans (ho.below hd3.size)
      have hyE : Below w2.heap.size w2 wE := hy.trans (ho.below (Nat.le_refl _))
      have hcE := hc.box (blk_on bl0 hb) ho
      refine all_one (i := 11) (by kernel_rfl) rfl rfl ?_
      refine store_wp (.tmp 8) (.tmp 33) 31 rfl rfl rfl hst ⟨hxE, ?_⟩
      simp only [Act.put, List.setIfInBounds_toArray, List.set_cons_zero, List.set_cons_succ]
      refine take_one (i := 12) (d := some 9) (v := .bool n4) rfl rfl rfl (by kernel_rfl) (by kernel_rfl) (by kernel_rfl) (fun _ _ _ _ _ h => absurd h.1 (by simp)) (fun W hS => ex_assign (.tmp 34) rfl rfl) hxE ?_
      simp only [Act.put, List.setIfInBounds_toArray, List.set_cons_zero, List.set_cons_succ]
      refine take_one (i := 13) (d := some 10) (v := .int .i64 e4) rfl rfl rfl (by kernel_rfl) (by kernel_rfl) (by kernel_rfl) (fun _ _ _ _ _ h => absurd h.1 (by simp)) (fun W hS => ex_assign (.tmp 35) rfl rfl) hxE ?_
      simp only [Act.put, List.setIfInBounds_toArray, List.set_cons_zero, List.set_cons_succ]
      refine wpAnyH_done (by kernel_rfl) ?_ _
      exact ⟨rfl, c, _, rfl, hbl, hcE, hyE⟩
  rintro _ w3b ⟨c3, R3, rfl, b3, hc3, hy3⟩
  simp only [Act.put, List.setIfInBounds_toArray, List.set_cons_zero, List.set_cons_succ]
  have hx3b := hx2.trans (hy3.mono hx2.size)
  have HC3 : Hid _ := hc3
  have BB3 : Hid _ := b3
  have HY3 : Hid _ := hy3
  have hl3 : Hid (c3.length = 3) := hc3.len
  clear b3 hc3 hy3 hd3
  go_wp2_with first
    | ((with_reducible show wpList _ _ _ _ _ _); refine arm_load rfl (.tmp 37) 25 rfl rfl (HLC.out _ hx3b) ?_)
    | ((with_reducible show wpList _ _ _ _ _ _); refine arm_load rfl (.tmp 39) 25 rfl rfl (HLD.out _ hx3b) ?_)
  refine Calls.mono (M3.out _ hx3b) ?_
  rintro _ w4 ⟨c4, rfl, hc4, hb4⟩
  have hx4 := hx3b.trans (hb4.mono hx3b.size)
  obtain ⟨w5, hst5, b5, hb5⟩ := box_new Try.sizeOf31 w4 [.int .u16 0, .int .u16 0, .slice none 0 0] rfl c4 hc4.len hc4.one
  have hx5 := hx4.trans (hb5.mono hx4.size)
  have HY5 : Hid (Below w3b.heap.size w3b w5) := hb4.trans (hb5.mono hb4.size)
  have HC4 : Hid (UdpC w5 c4 s6 d6 x6) := hc4.on hb5
  have BB4 : Hid _ := b5
  have HST5 : Hid _ := hst5
  have hl4 : Hid (c4.length = 3) := hc4.len
  clear hst5 b5 hb5 hc4 hb4 hx4 M3
  go_wp2_with first
    | ((with_reducible show wpList _ _ _ _ _ _); refine arm_store rfl (.tmp 11) (.tmp 43) 31 rfl rfl rfl HST5.out ?_)
  have hd6 : Below W0.heap.size W0 w5.drew := hx5.drew
  refine region_mid (fun a a' w' => ∃ c R, a' = (((((((((((((a.put (some 46) (.pointer (some ⟨w.heap.size, 8, none⟩))).put (some 47) (.slice (some ⟨w.heap.size, 8, none⟩) 16 16)).put (some 48) (.pointer (some ⟨w.heap.size, 24, none⟩))).put (some 49) (.slice (some ⟨w.heap.size, 24, none⟩) 16 16)).put (some 50) (.slice av zs.length cv)).put (some 51) (.tuple #[.agg c.toArray, .bool n6, .int .i64 e6])).put (some 45) (.tuple #[.agg c.toArray, .bool n6, .int .i64 e6])).put (some 52) (.agg c.toArray)).put (some 53) (.bool n6)).put (some 54) (.int .i64 e6)).put (some 13) (.pointer (some ⟨R, 0, none⟩))).put (some 14) (.bool n6)).put (some 15) (.int .i64 e6)) ∧ w'.heap[R]? = some (.cells c.toArray 31) ∧ UdpC w' c s6 d6 x6 ∧ Below w5.heap.size w5 w') ?_ ?_
  · skip
    refine wp_region_held (S := fun W => Below W0.heap.size W0 W) (by kernel_rfl) ?_
    show wpAnyH _ _ _ _ _ 14 (Array.replicate 14 false) _ w5.drew
    refine take_one (i := 0) (d := some 46) (v := .pointer (some ⟨w.heap.size, 8, none⟩)) rfl rfl rfl (by kernel_rfl) (by kernel_rfl) (by kernel_rfl) (fun _ _ _ _ _ h => absurd h.1 (by simp)) (fun W hS => ex_fieldE 2 2 8 rfl rfl (.inr (.inr (.inl ⟨rfl, rfl⟩)))) hd6 ?_
    simp only [Act.put, List.setIfInBounds_toArray, List.set_cons_zero, List.set_cons_succ]
    refine take_one (i := 1) (d := some 47) (v := .slice (some ⟨w.heap.size, 8, none⟩) 16 16) rfl rfl rfl (by kernel_rfl) (by kernel_rfl) (by kernel_rfl) (fun _ _ _ _ _ h => absurd h.1 (by simp)) (fun W hS => ex_slice6 46 rfl rfl) hd6 ?_
    simp only [Act.put, List.setIfInBounds_toArray, List.set_cons_zero, List.set_cons_succ]
    refine take_one (i := 2) (d := some 48) (v := .pointer (some ⟨w.heap.size, 24, none⟩)) rfl rfl rfl (by kernel_rfl) (by kernel_rfl) (by kernel_rfl) (fun _ _ _ _ _ h => absurd h.1 (by simp)) (fun W hS => ex_fieldE 2 3 24 rfl rfl (.inr (.inr (.inr ⟨rfl, rfl⟩)))) hd6 ?_
    simp only [Act.put, List.setIfInBounds_toArray, List.set_cons_zero, List.set_cons_succ]
    refine take_one (i := 3) (d := some 49) (v := .slice (some ⟨w.heap.size, 24, none⟩) 16 16) rfl rfl rfl (by kernel_rfl) (by kernel_rfl) (by kernel_rfl) (fun _ _ _ _ _ h => absurd h.1 (by simp)) (fun W hS => ex_slice6 48 rfl rfl) hd6 ?_
    simp only [Act.put, List.setIfInBounds_toArray, List.set_cons_zero, List.set_cons_succ]
    refine take_one (i := 4) (d := some 50) (v := .slice av zs.length cv) rfl rfl rfl (by kernel_rfl) (by kernel_rfl) (by kernel_rfl) (fun _ _ _ _ _ h => absurd h.1 (by simp)) (fun W hS => ex_move (.tmp 1) rfl rfl) hd6 ?_
    simp only [Act.put, List.setIfInBounds_toArray, List.set_cons_zero, List.set_cons_succ]
    have hdr : Below w5.heap.size w5 w5.drew := (Below.refl _ w5).drew
    refine all_two (i1 := 5) (i2 := 10) (by kernel_rfl) rfl rfl rfl rfl ?_ ?_
    · skip
      refine wp_call (d := some 51) 21 _ rfl (by kernel_rfl) (M4.out _ hd6) ?_
      rintro _ wc ⟨c, hq, hc, hb⟩
      cases hq
      have hy := hdr.trans (hb.mono (Nat.le_refl _))
      have hx := hd6.trans (hb.mono hd6.size)
      refine ⟨hx, ?_⟩
      simp only [Act.put, List.setIfInBounds_toArray, List.set_cons_zero, List.set_cons_succ]
      refine take_one (i := 6) (d := some 45) (v := .tuple #[.agg c.toArray, .bool n6, .int .i64 e6]) rfl rfl rfl (by kernel_rfl) (by kernel_rfl) (by kernel_rfl) (fun _ _ _ _ _ h => absurd h.1 (by simp)) (fun W hS => ex_move (.tmp 51) rfl rfl) hx ?_
      simp only [Act.put, List.setIfInBounds_toArray, List.set_cons_zero, List.set_cons_succ]
      refine take_one (i := 7) (d := some 52) (v := .agg c.toArray) rfl rfl rfl (by kernel_rfl) (by kernel_rfl) (by kernel_rfl) (fun _ _ _ _ _ h => absurd h.1 (by simp)) (fun W hS => ex_extract (.tmp 45) 0 rfl rfl rfl) hx ?_
      simp only [Act.put, List.setIfInBounds_toArray, List.set_cons_zero, List.set_cons_succ]
      refine take_one (i := 8) (d := some 53) (v := .bool n6) rfl rfl rfl (by kernel_rfl) (by kernel_rfl) (by kernel_rfl) (fun _ _ _ _ _ h => absurd h.1 (by simp)) (fun W hS => ex_extract (.tmp 45) 1 rfl rfl rfl) hx ?_
      simp only [Act.put, List.setIfInBounds_toArray, List.set_cons_zero, List.set_cons_succ]
      refine take_one (i := 9) (d := some 54) (v := .int .i64 e6) rfl rfl rfl (by kernel_rfl) (by kernel_rfl) (by kernel_rfl) (fun _ _ _ _ _ h => absurd h.1 (by simp)) (fun W hS => ex_extract (.tmp 45) 2 rfl rfl rfl) hx ?_
      simp only [Act.put, List.setIfInBounds_toArray, List.set_cons_zero, List.set_cons_succ]
      obtain ⟨wE, hst, hbl, hbE⟩ := box_new Try.sizeOf31 wc [.int .u16 0, .int .u16 0, .slice none 0 0] rfl c hc.len hc.one
      have hxE := hx.trans (hbE.mono hx.size)
      have hyE := hy.trans (hbE.mono hy.size)
      have hcE := hc.on hbE
      refine all_one (i := 10) (by kernel_rfl) rfl rfl ?_
      refine alloc_udp (d := some 13) rfl rfl ⟨hx.alloc hx.size _, ?_⟩
      simp only [Act.put, List.setIfInBounds_toArray, List.set_cons_zero, List.set_cons_succ]
      refine all_one (i := 11) (by kernel_rfl) rfl rfl ?_
      refine store_wp (.tmp 13) (.tmp 52) 31 rfl rfl rfl hst ⟨hxE, ?_⟩
      simp only [Act.put, List.setIfInBounds_toArray, List.set_cons_zero, List.set_cons_succ]
      refine take_one (i := 12) (d := some 14) (v := .bool n6) rfl rfl rfl (by kernel_rfl) (by kernel_rfl) (by kernel_rfl) (fun _ _ _ _ _ h => absurd h.1 (by simp)) (fun W hS => ex_assign (.tmp 53) rfl rfl) hxE ?_
      simp only [Act.put, List.setIfInBounds_toArray, List.set_cons_zero, List.set_cons_succ]
      refine take_one (i := 13) (d := some 15) (v := .int .i64 e6) rfl rfl rfl (by kernel_rfl) (by kernel_rfl) (by kernel_rfl) (fun _ _ _ _ _ h => absurd h.1 (by simp)) (fun W hS => ex_assign (.tmp 54) rfl rfl) hxE ?_
      simp only [Act.put, List.setIfInBounds_toArray, List.set_cons_zero, List.set_cons_succ]
      refine wpAnyH_done (by kernel_rfl) ?_ _
      exact ⟨rfl, c, _, rfl, hbl, hcE, hyE⟩
    · skip
      have hb0 := hdr.alloc (Nat.le_refl _) (.cells [.int .u16 0, .int .u16 0, .slice none 0 0].toArray 31)
      have hx0 := hd6.alloc hd6.size (.cells [.int .u16 0, .int .u16 0, .slice none 0 0].toArray 31)
      refine alloc_udp (d := some 13) rfl rfl ⟨hx0, ?_⟩
      simp only [Act.put, List.setIfInBounds_toArray, List.set_cons_zero, List.set_cons_succ]
      have bl0 := blk_new w5.drew (.cells [.int .u16 0, .int .u16 0, .slice none 0 0].toArray 31)
      refine all_one (i := 5) (by kernel_rfl) rfl rfl ?_
      refine wp_call (d := some 51) 21 _ rfl (by kernel_rfl) (M4.out _ hx0) ?_
      rintro _ wc ⟨c, hq, hc, hb⟩
      cases hq
      have hy := hb0.trans (hb.mono hb0.size)
      have hx := hx0.trans (hb.mono hx0.size)
      refine ⟨hx, ?_⟩
      simp only [Act.put, List.setIfInBounds_toArray, List.set_cons_zero, List.set_cons_succ]
      refine take_one (i := 6) (d := some 45) (v := .tuple #[.agg c.toArray, .bool n6, .int .i64 e6]) rfl rfl rfl (by kernel_rfl) (by kernel_rfl) (by kernel_rfl) (fun _ _ _ _ _ h => absurd h.1 (by simp)) (fun W hS => ex_move (.tmp 51) rfl rfl) hx ?_
      simp only [Act.put, List.setIfInBounds_toArray, List.set_cons_zero, List.set_cons_succ]
      refine take_one (i := 7) (d := some 52) (v := .agg c.toArray) rfl rfl rfl (by kernel_rfl) (by kernel_rfl) (by kernel_rfl) (fun _ _ _ _ _ h => absurd h.1 (by simp)) (fun W hS => ex_extract (.tmp 45) 0 rfl rfl rfl) hx ?_
      simp only [Act.put, List.setIfInBounds_toArray, List.set_cons_zero, List.set_cons_succ]
      refine take_one (i := 8) (d := some 53) (v := .bool n6) rfl rfl rfl (by kernel_rfl) (by kernel_rfl) (by kernel_rfl) (fun _ _ _ _ _ h => absurd h.1 (by simp)) (fun W hS => ex_extract (.tmp 45) 1 rfl rfl rfl) hx ?_
      simp only [Act.put, List.setIfInBounds_toArray, List.set_cons_zero, List.set_cons_succ]
      refine take_one (i := 9) (d := some 54) (v := .int .i64 e6) rfl rfl rfl (by kernel_rfl) (by kernel_rfl) (by kernel_rfl) (fun _ _ _ _ _ h => absurd h.1 (by simp)) (fun W hS => ex_extract (.tmp 45) 2 rfl rfl rfl) hx ?_
      simp only [Act.put, List.setIfInBounds_toArray, List.set_cons_zero, List.set_cons_succ]
      obtain ⟨wE, hst, hbl, ho⟩ := box_store Try.sizeOf31 (blk_on bl0 hb) rfl c hc.len hc.one
      have hxE : Below W0.heap.size W0 wE := hx.trans (ho.below hd6.size)
      have hyE : Below w5.heap.size w5 wE := hy.trans (ho.below (Nat.le_refl _))
      have hcE := hc.box (blk_on bl0 hb) ho
      refine all_one (i := 11) (by kernel_rfl) rfl rfl ?_
      refine store_wp (.tmp 13) (.tmp 52) 31 rfl rfl rfl hst ⟨hxE, ?_⟩
      simp only [Act.put, List.setIfInBounds_toArray, List.set_cons_zero, List.set_cons_succ]
      refine take_one (i := 12) (d := some 14) (v := .bool n6) rfl rfl rfl (by kernel_rfl) (by kernel_rfl) (by kernel_rfl) (fun _ _ _ _ _ h => absurd h.1 (by simp)) (fun W hS => ex_assign (.tmp 53) rfl rfl) hxE ?_
      simp only [Act.put, List.setIfInBounds_toArray, List.set_cons_zero, List.set_cons_succ]
      refine take_one (i := 13) (d := some 15) (v := .int .i64 e6) rfl rfl rfl (by kernel_rfl) (by kernel_rfl) (by kernel_rfl) (fun _ _ _ _ _ h => absurd h.1 (by simp)) (fun W hS => ex_assign (.tmp 54) rfl rfl) hxE ?_
      simp only [Act.put, List.setIfInBounds_toArray, List.set_cons_zero, List.set_cons_succ]
      refine wpAnyH_done (by kernel_rfl) ?_ _
      exact ⟨rfl, c, _, rfl, hbl, hcE, hyE⟩
  rintro _ w6b ⟨c6, R6, rfl, b6, hc6, hy6⟩
  simp only [Act.put, List.setIfInBounds_toArray, List.set_cons_zero, List.set_cons_succ]
  have hx6b := hx5.trans (hy6.mono hx5.size)
  have HC6 : Hid _ := hc6
  have BB6 : Hid _ := b6
  have HY6 : Hid _ := hy6
  have hl6 : Hid (c6.length = 3) := hc6.len
  clear b6 hc6 hy6 hd6
  have hz3 : Below w3b.heap.size w3b w6b := HY5.out.trans (HY6.out.mono HY5.out.size)
  have hz1 : Below w2.heap.size w2 w6b := HY3.out.trans (hz3.mono HY3.out.size)
  have L1 : Hid (∀ W, Below w6b.heap.size w6b W → (Instr.loadAt 31 (.pointer (some ⟨w1.heap.size, 0, none⟩))).run Try.prog W = .ok (.agg c1.toArray) W) := fun W hW => agg_load Try.isAgg31 Try.sizeOf31 hl1.out (CellsAt.of_blk (blk_on (blk_on BB1.out hz1) hW))
  have L3 : Hid (∀ W, Below w6b.heap.size w6b W → (Instr.loadAt 31 (.pointer (some ⟨R3, 0, none⟩))).run Try.prog W = .ok (.agg c3.toArray) W) := fun W hW => agg_load Try.isAgg31 Try.sizeOf31 hl3.out (CellsAt.of_blk (blk_on (blk_on BB3.out hz3) hW))
  have L4 : Hid (∀ W, Below w6b.heap.size w6b W → (Instr.loadAt 31 (.pointer (some ⟨w4.heap.size, 0, none⟩))).run Try.prog W = .ok (.agg c4.toArray) W) := fun W hW => agg_load Try.isAgg31 Try.sizeOf31 hl4.out (CellsAt.of_blk (blk_on (blk_on BB4.out HY6.out) hW))
  have L6 : Hid (∀ W, Below w6b.heap.size w6b W → (Instr.loadAt 31 (.pointer (some ⟨R6, 0, none⟩))).run Try.prog W = .ok (.agg c6.toArray) W) := fun W hW => agg_load Try.isAgg31 Try.sizeOf31 hl6.out (CellsAt.of_blk (blk_on BB6.out hW))
  have S1 : Hid _ := RSameUDP_calls w6b (HC1.out.on hz1) (HC3.out.on hz3)
  rw [sameU_self] at S1
  have S2 : Hid (∀ W, Below w6b.heap.size w6b W → Calls Try.prog 23 #[.agg c4.toArray, .agg c6.toArray] W fun e w' => e = .returned (.bool true) ∧ Below W.heap.size W w') := fun W hW => by
    have k := RSameUDP_calls W ((HC4.out.on HY6.out).on hW) (HC6.out.on hW)
    rwa [sameU_self] at k
  have HF : Hid (Below w.heap.size w w6b) := HB.out.trans (hx6b.mono HB.out.size)
  have hy0 : Below w6b.heap.size w6b w6b := Below.refl _ _
  clear hz1 hz3 HC1 HC3 HC4 HC6 BB1 BB3 BB4 BB6 HY3 HY5 HY6 hx6b hx5 hx3b hx2 hx0 HST2 HST5 hl1 hl3 hl4 hl6 M2 M4 HLA HLB HLC HLD
  go_wp2_with first
    | ((with_reducible show wpList _ _ _ _ _ _); refine arm_load rfl (.tmp 5) 31 rfl rfl (L1.out _ hy0) ?_)
    | ((with_reducible show wpList _ _ _ _ _ _); refine arm_load rfl (.tmp 8) 31 rfl rfl (L3.out _ hy0) ?_)
  refine Calls.mono S1.out ?_
  rintro _ w7 ⟨rfl, hy7⟩
  go_wp2_with first
    | ((with_reducible show wpList _ _ _ _ _ _); refine arm_load rfl (.tmp 11) 31 rfl rfl (L4.out _ hy7) ?_)
    | ((with_reducible show wpList _ _ _ _ _ _); refine arm_load rfl (.tmp 13) 31 rfl rfl (L6.out _ hy7) ?_)
  refine Calls.mono (S2.out _ hy7) ?_
  rintro _ w8 ⟨rfl, hy8⟩
  go_wp2_with fail
  refine Calls.mono (awake_calls6 _) ?_
  rintro _ w9 ⟨rfl, hy9⟩
  go_wp2
  go_ret
  have hy78 := hy7.trans (hy8.mono hy7.size)
  have hy79 := hy78.trans (hy9.mono hy78.size)
  exact ⟨rfl, HF.out.trans (hy79.mono HF.out.size)⟩

set_option maxRecDepth 100000 in
theorem segmentUDPs_open {H : Type} {enc : TypeId × Value → H} {W : World} {base : Nat} (v0 v1 : Value) {d0 d1 : DataW H} {p0 p1 : List MemPlace}
    (o0 : Value.okWide Try.prog W .any base 27 v0) (h0 : DataW.Trod enc Try.prog W 0 (fun _ => true) true 27 v0 d0 p0) (z0 : ∀ k ∈ d0.weights Try.prog 27, k ≤ reachBytes)
    (o1 : Value.okWide Try.prog W .any base 29 v1) (h1 : DataW.Trod enc Try.prog W 0 (fun _ => true) true 29 v1 d1 p1) (z1 : ∀ k ∈ d1.weights Try.prog 29, k ≤ reachBytes) :
    Calls Try.prog 4 #[v0, v1] W fun e w' => e = .returned (.bool true) ∧ Below W.heap.size W w' := by
  obtain ⟨A, B, C, D, rfl, la, lb, lc, ld, fa, fb, fc, fd⟩ := open_ends h0 z0
  obtain ⟨zs, h⟩ := open_row o1 h1 z1
  exact segmentUDPs_walk A B C D la lb lc ld fa fb fc fd v1 zs W h

end Go.Proofs.Ytlhmelkgnpjgaaa
