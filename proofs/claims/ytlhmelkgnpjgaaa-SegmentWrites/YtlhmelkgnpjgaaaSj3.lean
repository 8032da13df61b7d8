/-
  SegmentWrites.
-/
import Derived.Test.YtlhmelkgnpjgaaaSj2
namespace Go.Proofs.Ytlhmelkgnpjgaaa
open Go Go.RowKit Go.Shelf
set_option linter.unusedVariables false
set_option linter.unusedSimpArgs false

set_option maxHeartbeats 8000000 in
set_option maxRecDepth 100000 in
theorem segmentWrites_walk (A B C D : List Int) (la : A.length = 4) (lb : B.length = 4) (lc : C.length = 16) (ld : D.length = 16) (fa : Fit A) (fb : Fit B) (fc : Fit C) (fd : Fit D) (u c : List Value) (s d : Int) (x : List Int) (t : Seg) (w : World) (hu : UdpC w u s d x) (ht : TcpC w c t) :
    Calls Try.prog 3 #[.agg (endsC A B C D).toArray, .agg u.toArray, .agg c.toArray] w fun e w' => e = .returned (.bool true) ∧ Below w.heap.size w w' := by
  obtain ⟨W0, hW0⟩ : ∃ W0, ((w.alloc (.cells (endsC A B C D).toArray 27)).alloc (.cells u.toArray 31)).alloc (.cells c.toArray 34) = W0 := ⟨_, rfl⟩
  have b1 := blk_alloc (blk_new (w.alloc (.cells (endsC A B C D).toArray 27)) (.cells u.toArray 31)) (.cells c.toArray 34)
  have b2 := blk_new ((w.alloc (.cells (endsC A B C D).toArray 27)).alloc (.cells u.toArray 31)) (.cells c.toArray 34)
  have hB : Below w.heap.size w (((w.alloc (.cells (endsC A B C D).toArray 27)).alloc (.cells u.toArray 31)).alloc (.cells c.toArray 34)) := (((Below.refl _ w).alloc (Nat.le_refl _) _).alloc (by simp) _).alloc (by simp <;> omega) _
  have hE0 : EndsBox (((w.alloc (.cells (endsC A B C D).toArray 27)).alloc (.cells u.toArray 31)).alloc (.cells c.toArray 34)) w.heap.size A B C D := (ends_new w la lb lc ld fa fb fc fd).on (((Below.refl _ _).alloc (Nat.le_refl _) _).alloc (by simp) _)
  rw [hW0] at b1 b2 hB hE0
  have s1 : (w.alloc (.cells (endsC A B C D).toArray 27)).heap.size = w.heap.size + 1 := by simp
  have s2 : ((w.alloc (.cells (endsC A B C D).toArray 27)).alloc (.cells u.toArray 31)).heap.size = w.heap.size + 1 + 1 := by simp
  rw [s1] at b1
  rw [s2] at b2
  have hUt : ∀ W, Below W0.heap.size W0 W → UdpC W u s d x := fun W hW => hu.on (hB.trans (hW.mono hB.size))
  have hTt : ∀ W, Below W0.heap.size W0 W → TcpC W c t := fun W hW => ht.on (hB.trans (hW.mono hB.size))
  have HE : Hid (∀ W, Below W0.heap.size W0 W → EndsBox W w.heap.size A B C D) := fun W hW => hE0.on hW
  have HU : Hid (∀ W, Below W0.heap.size W0 W → (Instr.loadAt 31 (.pointer (some ⟨w.heap.size + 1, 0, none⟩))).run Try.prog W = .ok (.agg u.toArray) W) := fun W hW => agg_load Try.isAgg31 Try.sizeOf31 hu.len (CellsAt.of_blk (blk_on b1 hW))
  have HT : Hid (∀ W, Below W0.heap.size W0 W → (Instr.loadAt 34 (.pointer (some ⟨w.heap.size + 1 + 1, 0, none⟩))).run Try.prog W = .ok (.agg c.toArray) W) := fun W hW => agg_load Try.isAgg34 Try.sizeOf34 ht.len (CellsAt.of_blk (blk_on b2 hW))
  have p4 : ∀ p n : Int, 0 ≤ p ∧ p < 256 → 0 ≤ n ∧ n ≤ 65535 → Fit (ph4 A B p n) := fun p n hp hn => ph4_fit fa fb hp hn
  have p6 : ∀ p n : Int, 0 ≤ p ∧ p < 256 → 0 ≤ n ∧ n ≤ 65535 → Fit (ph6 C D p n) := fun p n hp hn => ph6_fit fc fd hp hn
  obtain ⟨vd, -, hvd⟩ := hu.val
  have fu4 := udpB_fit (ph := ph4 A B) hu.fs hu.fd hvd.fit p4
  have fu6 := udpB_fit (ph := ph6 C D) hu.fs hu.fd hvd.fit p6
  have ft4 := tcpB_fit (ph := ph4 A B) ht p4
  have ft6 := tcpB_fit (ph := ph6 C D) ht p6
  have M1 : Hid (∀ W, Below W0.heap.size W0 W → Calls Try.prog 13 #[.agg (u8L A).toArray, .agg (u8L B).toArray, .agg u.toArray] W fun e w' => ∃ v, e = .returned (.tuple #[v, .int .i64 (udpE x)]) ∧ BytesAt w'.heap.size w' v (udpB (ph4 A B) s d x) ∧ Below W.heap.size W w') := fun W hW => (WriteUDP4_any A B la lb fa fb u s d x W (hUt W hW)).mono (fun e w' h => h.bytes fu4.1 fu4.2)
  have M3 : Hid (∀ W, Below W0.heap.size W0 W → Calls Try.prog 15 #[.agg (u8L C).toArray, .agg (u8L D).toArray, .agg u.toArray] W fun e w' => ∃ v, e = .returned (.tuple #[v, .int .i64 (udpE x)]) ∧ BytesAt w'.heap.size w' v (udpB (ph6 C D) s d x) ∧ Below W.heap.size W w') := fun W hW => (WriteUDP6_any C D lc ld fc fd u s d x W (hUt W hW)).mono (fun e w' h => h.bytes fu6.1 fu6.2)
  have M5 : Hid (∀ W, Below W0.heap.size W0 W → Calls Try.prog 16 #[.agg (u8L A).toArray, .agg (u8L B).toArray, .agg c.toArray] W fun e w' => ∃ v, e = .returned (.tuple #[v, .int .i64 (tcpE t)]) ∧ BytesAt w'.heap.size w' v (tcpB (ph4 A B) t) ∧ Below W.heap.size W w') := fun W hW => (WriteTCP4_any A B la lb fa fb c t W (hTt W hW)).mono (fun e w' h => h.bytes ft4.1 ft4.2)
  have M7 : Hid (∀ W, Below W0.heap.size W0 W → Calls Try.prog 18 #[.agg (u8L C).toArray, .agg (u8L D).toArray, .agg c.toArray] W fun e w' => ∃ v, e = .returned (.tuple #[v, .int .i64 (tcpE t)]) ∧ BytesAt w'.heap.size w' v (tcpB (ph6 C D) t) ∧ Below W.heap.size W w') := fun W hW => (WriteTCP6_any C D lc ld fc fd c t W (hTt W hW)).mono (fun e w' h => h.bytes ft6.1 ft6.2)
  have M2 : Hid (∀ W, Below W0.heap.size W0 W → Calls Try.prog 14 #[.slice (some ⟨w.heap.size, 0, none⟩) 4 4, .slice (some ⟨w.heap.size, 4, none⟩) 4 4, .agg u.toArray] W fun e w' => ∃ q, e = .returned q ∧ (∃ v, q = .tuple #[v, .int .i64 (udpE x)] ∧ BytesAt w'.heap.size w' v (udpB (ph4 A B) s d x) ∧ Below W.heap.size W w')) := fun W hW => (RWriteUDP_any _ _ 4 _ u s d x W (hE0.on hW).e4 p4 (hUt W hW)).mono (fun e w' h => by obtain ⟨v, h1, h2⟩ := h.bytes fu4.1 fu4.2; exact ⟨_, h1, v, rfl, h2⟩)
  have M4 : Hid (∀ W, Below W0.heap.size W0 W → Calls Try.prog 14 #[.slice (some ⟨w.heap.size, 8, none⟩) 16 16, .slice (some ⟨w.heap.size, 24, none⟩) 16 16, .agg u.toArray] W fun e w' => ∃ q, e = .returned q ∧ (∃ v, q = .tuple #[v, .int .i64 (udpE x)] ∧ BytesAt w'.heap.size w' v (udpB (ph6 C D) s d x) ∧ Below W.heap.size W w')) := fun W hW => (RWriteUDP_any _ _ 16 _ u s d x W (hE0.on hW).e6 p6 (hUt W hW)).mono (fun e w' h => by obtain ⟨v, h1, h2⟩ := h.bytes fu6.1 fu6.2; exact ⟨_, h1, v, rfl, h2⟩)
  have M6 : Hid (∀ W, Below W0.heap.size W0 W → Calls Try.prog 17 #[.slice (some ⟨w.heap.size, 0, none⟩) 4 4, .slice (some ⟨w.heap.size, 4, none⟩) 4 4, .agg c.toArray] W fun e w' => ∃ q, e = .returned q ∧ (∃ v, q = .tuple #[v, .int .i64 (tcpE t)] ∧ BytesAt w'.heap.size w' v (tcpB (ph4 A B) t) ∧ Below W.heap.size W w')) := fun W hW => (RWriteTCP_any _ _ 4 _ c t W (hE0.on hW).e4 p4 (hTt W hW)).mono (fun e w' h => by obtain ⟨v, h1, h2⟩ := h.bytes ft4.1 ft4.2; exact ⟨_, h1, v, rfl, h2⟩)
  have M8 : Hid (∀ W, Below W0.heap.size W0 W → Calls Try.prog 17 #[.slice (some ⟨w.heap.size, 8, none⟩) 16 16, .slice (some ⟨w.heap.size, 24, none⟩) 16 16, .agg c.toArray] W fun e w' => ∃ q, e = .returned q ∧ (∃ v, q = .tuple #[v, .int .i64 (tcpE t)] ∧ BytesAt w'.heap.size w' v (tcpB (ph6 C D) t) ∧ Below W.heap.size W w')) := fun W hW => (RWriteTCP_any _ _ 16 _ c t W (hE0.on hW).e6 p6 (hTt W hW)).mono (fun e w' h => by obtain ⟨v, h1, h2⟩ := h.bytes ft6.1 ft6.2; exact ⟨_, h1, v, rfl, h2⟩)
  have HB : Hid _ := hB
  have hx0 : Below W0.heap.size W0 W0 := Below.refl _ _
  have HLA : Hid (∀ W, Below W0.heap.size W0 W → (Instr.loadAt 23 (.pointer (some ⟨w.heap.size, 0, none⟩))).run Try.prog W = .ok (.agg (u8L A).toArray) W) := fun W hW => (hE0.on hW).lA
  have HLB : Hid (∀ W, Below W0.heap.size W0 W → (Instr.loadAt 23 (.pointer (some ⟨w.heap.size, 4, none⟩))).run Try.prog W = .ok (.agg (u8L B).toArray) W) := fun W hW => (hE0.on hW).lB
  have HLC : Hid (∀ W, Below W0.heap.size W0 W → (Instr.loadAt 25 (.pointer (some ⟨w.heap.size, 8, none⟩))).run Try.prog W = .ok (.agg (u8L C).toArray) W) := fun W hW => (hE0.on hW).lC
  have HLD : Hid (∀ W, Below W0.heap.size W0 W → (Instr.loadAt 25 (.pointer (some ⟨w.heap.size, 24, none⟩))).run Try.prog W = .ok (.agg (u8L D).toArray) W) := fun W hW => (hE0.on hW).lD
  generalize udpB (ph4 A B) s d x = Z1 at *
  generalize udpB (ph6 C D) s d x = Z2 at *
  generalize tcpB (ph4 A B) t = Z3 at *
  generalize tcpB (ph6 C D) t = Z4 at *
  generalize udpE x = e1 at *
  generalize tcpE t = e2 at *
  clear b1 b2 hB hE0 s1 s2 hUt hTt hu ht fu4 fu6 ft4 ft6 p4 p6 hvd fa fb fc fd la lb lc ld HE
  generalize endsC A B C D = xE at *
  generalize u8L A = xA at *
  generalize u8L B = xB at *
  generalize u8L C = xC at *
  generalize u8L D = xD at *
  go_enter Try.func3, Try.ntmps3
  go_wp2_with first
    | ((with_reducible show wpList _ _ _ _ _ _); refine arm_load rfl (.tmp 16) 23 rfl rfl (HLA.out _ hx0) ?_)
    | ((with_reducible show wpList _ _ _ _ _ _); refine arm_load rfl (.tmp 18) 23 rfl rfl (HLB.out _ hx0) ?_)
    | ((with_reducible show wpList _ _ _ _ _ _); refine arm_load rfl (.tmp 4) 31 rfl rfl (HU.out _ hx0) ?_)
  refine Calls.mono (M1.out _ hx0) ?_
  rintro _ w1 ⟨v1, rfl, hv1, hc1⟩
  have hx1 := hx0.trans (hc1.mono hx0.size)
  go_wp2_with fail
  have hd1 : Below W0.heap.size W0 w1.drew := hx1.drew
  refine wp_region_held (S := fun W => Below W0.heap.size W0 W) (by kernel_rfl) ?_
  show wpAnyH _ _ _ _ _ 11 (Array.replicate 11 false) _ w1.drew
  refine take_one (i := 0) (d := some 25) (v := .pointer (some ⟨w.heap.size, 0, none⟩)) rfl rfl rfl (by kernel_rfl) (by kernel_rfl) (by kernel_rfl) (fun _ _ d _ _ h => by cases d <;> exact h) (fun W hS => ex_fieldE 3 0 0 rfl rfl (.inl ⟨rfl, rfl⟩)) hd1 ?_
  simp only [Act.put, List.setIfInBounds_toArray, List.set_cons_zero, List.set_cons_succ]
  refine take_one (i := 1) (d := some 26) (v := .slice (some ⟨w.heap.size, 0, none⟩) 4 4) rfl rfl rfl (by kernel_rfl) (by kernel_rfl) (by kernel_rfl) (fun _ _ d _ _ h => by cases d <;> exact h) (fun W hS => ex_slice4 25 rfl rfl) hd1 ?_
  simp only [Act.put, List.setIfInBounds_toArray, List.set_cons_zero, List.set_cons_succ]
  refine take_one (i := 2) (d := some 27) (v := .pointer (some ⟨w.heap.size, 4, none⟩)) rfl rfl rfl (by kernel_rfl) (by kernel_rfl) (by kernel_rfl) (fun _ _ d _ _ h => by cases d <;> exact h) (fun W hS => ex_fieldE 3 1 4 rfl rfl (.inr (.inl ⟨rfl, rfl⟩))) hd1 ?_
  simp only [Act.put, List.setIfInBounds_toArray, List.set_cons_zero, List.set_cons_succ]
  refine take_one (i := 3) (d := some 28) (v := .slice (some ⟨w.heap.size, 4, none⟩) 4 4) rfl rfl rfl (by kernel_rfl) (by kernel_rfl) (by kernel_rfl) (fun _ _ d _ _ h => by cases d <;> exact h) (fun W hS => ex_slice4 27 rfl rfl) hd1 ?_
  simp only [Act.put, List.setIfInBounds_toArray, List.set_cons_zero, List.set_cons_succ]
  refine take_one (i := 4) (d := some 29) (v := .agg u.toArray) rfl rfl rfl (by kernel_rfl) (by kernel_rfl) (by kernel_rfl) (fun _ _ d _ _ h => by cases d <;> exact h) (fun W hS => ex_loadv (.tmp 4) 31 rfl rfl (HU.out W hS)) hd1 ?_
  simp only [Act.put, List.setIfInBounds_toArray, List.set_cons_zero, List.set_cons_succ]
  refine all_one (i := 5) (by kernel_rfl) rfl rfl ?_
  refine wp_call (d := some 30) 14 _ rfl (by kernel_rfl) (M2.out _ hd1) ?_
  rintro _ w2 ⟨v2, rfl, hv2, hc2⟩
  have hx2 := hd1.trans (hc2.mono hd1.size)
  refine ⟨hx2, ?_⟩
  simp only [Act.put, List.setIfInBounds_toArray, List.set_cons_zero, List.set_cons_succ]
  refine take_one (i := 6) (d := some 24) (v := .tuple #[v2, .int .i64 e1]) rfl rfl rfl (by kernel_rfl) (by kernel_rfl) (by kernel_rfl) (fun _ _ d _ _ h => by cases d <;> exact h) (fun W hS => ex_move (.tmp 30) rfl rfl) hx2 ?_
  simp only [Act.put, List.setIfInBounds_toArray, List.set_cons_zero, List.set_cons_succ]
  refine take_one (i := 7) (d := some 31) (v := v2) rfl rfl rfl (by kernel_rfl) (by kernel_rfl) (by kernel_rfl) (fun _ _ d _ _ h => by cases d <;> exact h) (fun W hS => ex_extract (.tmp 24) 0 rfl rfl rfl) hx2 ?_
  simp only [Act.put, List.setIfInBounds_toArray, List.set_cons_zero, List.set_cons_succ]
  refine take_one (i := 8) (d := some 32) (v := .int .i64 e1) rfl rfl rfl (by kernel_rfl) (by kernel_rfl) (by kernel_rfl) (fun _ _ d _ _ h => by cases d <;> exact h) (fun W hS => ex_extract (.tmp 24) 1 rfl rfl rfl) hx2 ?_
  simp only [Act.put, List.setIfInBounds_toArray, List.set_cons_zero, List.set_cons_succ]
  refine take_one (i := 9) (d := some 9) (v := v2) rfl rfl rfl (by kernel_rfl) (by kernel_rfl) (by kernel_rfl) (fun _ _ d _ _ h => by cases d <;> exact h) (fun W hS => ex_assign (.tmp 31) rfl rfl) hx2 ?_
  simp only [Act.put, List.setIfInBounds_toArray, List.set_cons_zero, List.set_cons_succ]
  refine take_one (i := 10) (d := some 10) (v := .int .i64 e1) rfl rfl rfl (by kernel_rfl) (by kernel_rfl) (by kernel_rfl) (fun _ _ d _ _ h => by cases d <;> exact h) (fun W hS => ex_assign (.tmp 32) rfl rfl) hx2 ?_
  simp only [Act.put, List.setIfInBounds_toArray, List.set_cons_zero, List.set_cons_succ]
  refine wpAnyH_done (by kernel_rfl) ?_ _
  have hy2 : Below w1.heap.size w1 w2 := ((Below.refl _ _).drew).trans (hc2.mono (Nat.le_refl _))
  go_wp2_with first
    | ((with_reducible show wpList _ _ _ _ _ _); refine arm_load rfl (.tmp 34) 25 rfl rfl (HLC.out _ hx2) ?_)
    | ((with_reducible show wpList _ _ _ _ _ _); refine arm_load rfl (.tmp 36) 25 rfl rfl (HLD.out _ hx2) ?_)
    | ((with_reducible show wpList _ _ _ _ _ _); refine arm_load rfl (.tmp 4) 31 rfl rfl (HU.out _ hx2) ?_)
  refine Calls.mono (M3.out _ hx2) ?_
  rintro _ w3 ⟨v3, rfl, hv3, hc3⟩
  have hx3 := hx2.trans (hc3.mono hx2.size)
  go_wp2_with fail
  have hd3 : Below W0.heap.size W0 w3.drew := hx3.drew
  refine wp_region_held (S := fun W => Below W0.heap.size W0 W) (by kernel_rfl) ?_
  show wpAnyH _ _ _ _ _ 11 (Array.replicate 11 false) _ w3.drew
  refine take_one (i := 0) (d := some 43) (v := .pointer (some ⟨w.heap.size, 8, none⟩)) rfl rfl rfl (by kernel_rfl) (by kernel_rfl) (by kernel_rfl) (fun _ _ d _ _ h => by cases d <;> exact h) (fun W hS => ex_fieldE 3 2 8 rfl rfl (.inr (.inr (.inl ⟨rfl, rfl⟩)))) hd3 ?_
  simp only [Act.put, List.setIfInBounds_toArray, List.set_cons_zero, List.set_cons_succ]
  refine take_one (i := 1) (d := some 44) (v := .slice (some ⟨w.heap.size, 8, none⟩) 16 16) rfl rfl rfl (by kernel_rfl) (by kernel_rfl) (by kernel_rfl) (fun _ _ d _ _ h => by cases d <;> exact h) (fun W hS => ex_slice6 43 rfl rfl) hd3 ?_
  simp only [Act.put, List.setIfInBounds_toArray, List.set_cons_zero, List.set_cons_succ]
  refine take_one (i := 2) (d := some 45) (v := .pointer (some ⟨w.heap.size, 24, none⟩)) rfl rfl rfl (by kernel_rfl) (by kernel_rfl) (by kernel_rfl) (fun _ _ d _ _ h => by cases d <;> exact h) (fun W hS => ex_fieldE 3 3 24 rfl rfl (.inr (.inr (.inr ⟨rfl, rfl⟩)))) hd3 ?_
  simp only [Act.put, List.setIfInBounds_toArray, List.set_cons_zero, List.set_cons_succ]
  refine take_one (i := 3) (d := some 46) (v := .slice (some ⟨w.heap.size, 24, none⟩) 16 16) rfl rfl rfl (by kernel_rfl) (by kernel_rfl) (by kernel_rfl) (fun _ _ d _ _ h => by cases d <;> exact h) (fun W hS => ex_slice6 45 rfl rfl) hd3 ?_
  simp only [Act.put, List.setIfInBounds_toArray, List.set_cons_zero, List.set_cons_succ]
  refine take_one (i := 4) (d := some 47) (v := .agg u.toArray) rfl rfl rfl (by kernel_rfl) (by kernel_rfl) (by kernel_rfl) (fun _ _ d _ _ h => by cases d <;> exact h) (fun W hS => ex_loadv (.tmp 4) 31 rfl rfl (HU.out W hS)) hd3 ?_
  simp only [Act.put, List.setIfInBounds_toArray, List.set_cons_zero, List.set_cons_succ]
  refine all_one (i := 5) (by kernel_rfl) rfl rfl ?_
  refine wp_call (d := some 48) 14 _ rfl (by kernel_rfl) (M4.out _ hd3) ?_
  rintro _ w4 ⟨v4, rfl, hv4, hc4⟩
  have hx4 := hd3.trans (hc4.mono hd3.size)
  refine ⟨hx4, ?_⟩
  simp only [Act.put, List.setIfInBounds_toArray, List.set_cons_zero, List.set_cons_succ]
  refine take_one (i := 6) (d := some 42) (v := .tuple #[v4, .int .i64 e1]) rfl rfl rfl (by kernel_rfl) (by kernel_rfl) (by kernel_rfl) (fun _ _ d _ _ h => by cases d <;> exact h) (fun W hS => ex_move (.tmp 48) rfl rfl) hx4 ?_
  simp only [Act.put, List.setIfInBounds_toArray, List.set_cons_zero, List.set_cons_succ]
  refine take_one (i := 7) (d := some 49) (v := v4) rfl rfl rfl (by kernel_rfl) (by kernel_rfl) (by kernel_rfl) (fun _ _ d _ _ h => by cases d <;> exact h) (fun W hS => ex_extract (.tmp 42) 0 rfl rfl rfl) hx4 ?_
  simp only [Act.put, List.setIfInBounds_toArray, List.set_cons_zero, List.set_cons_succ]
  refine take_one (i := 8) (d := some 50) (v := .int .i64 e1) rfl rfl rfl (by kernel_rfl) (by kernel_rfl) (by kernel_rfl) (fun _ _ d _ _ h => by cases d <;> exact h) (fun W hS => ex_extract (.tmp 42) 1 rfl rfl rfl) hx4 ?_
  simp only [Act.put, List.setIfInBounds_toArray, List.set_cons_zero, List.set_cons_succ]
  refine take_one (i := 9) (d := some 13) (v := v4) rfl rfl rfl (by kernel_rfl) (by kernel_rfl) (by kernel_rfl) (fun _ _ d _ _ h => by cases d <;> exact h) (fun W hS => ex_assign (.tmp 49) rfl rfl) hx4 ?_
  simp only [Act.put, List.setIfInBounds_toArray, List.set_cons_zero, List.set_cons_succ]
  refine take_one (i := 10) (d := some 14) (v := .int .i64 e1) rfl rfl rfl (by kernel_rfl) (by kernel_rfl) (by kernel_rfl) (fun _ _ d _ _ h => by cases d <;> exact h) (fun W hS => ex_assign (.tmp 50) rfl rfl) hx4 ?_
  simp only [Act.put, List.setIfInBounds_toArray, List.set_cons_zero, List.set_cons_succ]
  refine wpAnyH_done (by kernel_rfl) ?_ _
  have hy4 : Below w3.heap.size w3 w4 := ((Below.refl _ _).drew).trans (hc4.mono (Nat.le_refl _))
  have t1 := (((hv1.later hy2).later hc3).later hy4).text
  have t2 := ((hv2.later hc3).later hy4).text
  have t3 := (hv3.later hy4).text
  have t4 := hv4.text
  generalize strOfNums Z1 = X1 at *
  generalize strOfNums Z2 = X2 at *
  clear hv1 hv2 hv3 hv4 hy2 hc3 hy4 hc1 hc2 hc4
  go_wp2_with first
    | ((with_reducible show wpList _ _ _ _ _ _); refine arm_load rfl (.tmp 74) 23 rfl rfl (HLA.out _ hx4) ?_)
    | ((with_reducible show wpList _ _ _ _ _ _); refine arm_load rfl (.tmp 76) 23 rfl rfl (HLB.out _ hx4) ?_)
    | ((with_reducible show wpList _ _ _ _ _ _); refine arm_load rfl (.tmp 5) 34 rfl rfl (HT.out _ hx4) ?_)
  refine Calls.mono (M5.out _ hx4) ?_
  rintro _ w5 ⟨v5, rfl, hv5, hc5⟩
  have hx5 := hx4.trans (hc5.mono hx4.size)
  clear t1 t2 t3 t4
  go_wp2_with fail
  have hd5 : Below W0.heap.size W0 w5.drew := hx5.drew
  refine wp_region_held (S := fun W => Below W0.heap.size W0 W) (by kernel_rfl) ?_
  show wpAnyH _ _ _ _ _ 11 (Array.replicate 11 false) _ w5.drew
  refine take_one (i := 0) (d := some 83) (v := .pointer (some ⟨w.heap.size, 0, none⟩)) rfl rfl rfl (by kernel_rfl) (by kernel_rfl) (by kernel_rfl) (fun _ _ d _ _ h => by cases d <;> exact h) (fun W hS => ex_fieldE 3 0 0 rfl rfl (.inl ⟨rfl, rfl⟩)) hd5 ?_
  simp only [Act.put, List.setIfInBounds_toArray, List.set_cons_zero, List.set_cons_succ]
  refine take_one (i := 1) (d := some 84) (v := .slice (some ⟨w.heap.size, 0, none⟩) 4 4) rfl rfl rfl (by kernel_rfl) (by kernel_rfl) (by kernel_rfl) (fun _ _ d _ _ h => by cases d <;> exact h) (fun W hS => ex_slice4 83 rfl rfl) hd5 ?_
  simp only [Act.put, List.setIfInBounds_toArray, List.set_cons_zero, List.set_cons_succ]
  refine take_one (i := 2) (d := some 85) (v := .pointer (some ⟨w.heap.size, 4, none⟩)) rfl rfl rfl (by kernel_rfl) (by kernel_rfl) (by kernel_rfl) (fun _ _ d _ _ h => by cases d <;> exact h) (fun W hS => ex_fieldE 3 1 4 rfl rfl (.inr (.inl ⟨rfl, rfl⟩))) hd5 ?_
  simp only [Act.put, List.setIfInBounds_toArray, List.set_cons_zero, List.set_cons_succ]
  refine take_one (i := 3) (d := some 86) (v := .slice (some ⟨w.heap.size, 4, none⟩) 4 4) rfl rfl rfl (by kernel_rfl) (by kernel_rfl) (by kernel_rfl) (fun _ _ d _ _ h => by cases d <;> exact h) (fun W hS => ex_slice4 85 rfl rfl) hd5 ?_
  simp only [Act.put, List.setIfInBounds_toArray, List.set_cons_zero, List.set_cons_succ]
  refine take_one (i := 4) (d := some 87) (v := .agg c.toArray) rfl rfl rfl (by kernel_rfl) (by kernel_rfl) (by kernel_rfl) (fun _ _ d _ _ h => by cases d <;> exact h) (fun W hS => ex_loadv (.tmp 5) 34 rfl rfl (HT.out W hS)) hd5 ?_
  simp only [Act.put, List.setIfInBounds_toArray, List.set_cons_zero, List.set_cons_succ]
  refine all_one (i := 5) (by kernel_rfl) rfl rfl ?_
  refine wp_call (d := some 88) 17 _ rfl (by kernel_rfl) (M6.out _ hd5) ?_
  rintro _ w6 ⟨v6, rfl, hv6, hc6⟩
  have hx6 := hd5.trans (hc6.mono hd5.size)
  refine ⟨hx6, ?_⟩
  simp only [Act.put, List.setIfInBounds_toArray, List.set_cons_zero, List.set_cons_succ]
  refine take_one (i := 6) (d := some 82) (v := .tuple #[v6, .int .i64 e2]) rfl rfl rfl (by kernel_rfl) (by kernel_rfl) (by kernel_rfl) (fun _ _ d _ _ h => by cases d <;> exact h) (fun W hS => ex_move (.tmp 88) rfl rfl) hx6 ?_
  simp only [Act.put, List.setIfInBounds_toArray, List.set_cons_zero, List.set_cons_succ]
  refine take_one (i := 7) (d := some 89) (v := v6) rfl rfl rfl (by kernel_rfl) (by kernel_rfl) (by kernel_rfl) (fun _ _ d _ _ h => by cases d <;> exact h) (fun W hS => ex_extract (.tmp 82) 0 rfl rfl rfl) hx6 ?_
  simp only [Act.put, List.setIfInBounds_toArray, List.set_cons_zero, List.set_cons_succ]
  refine take_one (i := 8) (d := some 90) (v := .int .i64 e2) rfl rfl rfl (by kernel_rfl) (by kernel_rfl) (by kernel_rfl) (fun _ _ d _ _ h => by cases d <;> exact h) (fun W hS => ex_extract (.tmp 82) 1 rfl rfl rfl) hx6 ?_
  simp only [Act.put, List.setIfInBounds_toArray, List.set_cons_zero, List.set_cons_succ]
  refine take_one (i := 9) (d := some 9) (v := v6) rfl rfl rfl (by kernel_rfl) (by kernel_rfl) (by kernel_rfl) (fun _ _ d _ _ h => by cases d <;> exact h) (fun W hS => ex_assign (.tmp 89) rfl rfl) hx6 ?_
  simp only [Act.put, List.setIfInBounds_toArray, List.set_cons_zero, List.set_cons_succ]
  refine take_one (i := 10) (d := some 10) (v := .int .i64 e2) rfl rfl rfl (by kernel_rfl) (by kernel_rfl) (by kernel_rfl) (fun _ _ d _ _ h => by cases d <;> exact h) (fun W hS => ex_assign (.tmp 90) rfl rfl) hx6 ?_
  simp only [Act.put, List.setIfInBounds_toArray, List.set_cons_zero, List.set_cons_succ]
  refine wpAnyH_done (by kernel_rfl) ?_ _
  have hy6 : Below w5.heap.size w5 w6 := ((Below.refl _ _).drew).trans (hc6.mono (Nat.le_refl _))
  go_wp2_with first
    | ((with_reducible show wpList _ _ _ _ _ _); refine arm_load rfl (.tmp 92) 25 rfl rfl (HLC.out _ hx6) ?_)
    | ((with_reducible show wpList _ _ _ _ _ _); refine arm_load rfl (.tmp 94) 25 rfl rfl (HLD.out _ hx6) ?_)
    | ((with_reducible show wpList _ _ _ _ _ _); refine arm_load rfl (.tmp 5) 34 rfl rfl (HT.out _ hx6) ?_)
  refine Calls.mono (M7.out _ hx6) ?_
  rintro _ w7 ⟨v7, rfl, hv7, hc7⟩
  have hx7 := hx6.trans (hc7.mono hx6.size)
  go_wp2_with fail
  have hd7 : Below W0.heap.size W0 w7.drew := hx7.drew
  refine wp_region_held (S := fun W => Below W0.heap.size W0 W) (by kernel_rfl) ?_
  show wpAnyH _ _ _ _ _ 11 (Array.replicate 11 false) _ w7.drew
  refine take_one (i := 0) (d := some 101) (v := .pointer (some ⟨w.heap.size, 8, none⟩)) rfl rfl rfl (by kernel_rfl) (by kernel_rfl) (by kernel_rfl) (fun _ _ d _ _ h => by cases d <;> exact h) (fun W hS => ex_fieldE 3 2 8 rfl rfl (.inr (.inr (.inl ⟨rfl, rfl⟩)))) hd7 ?_
  simp only [Act.put, List.setIfInBounds_toArray, List.set_cons_zero, List.set_cons_succ]
  refine take_one (i := 1) (d := some 102) (v := .slice (some ⟨w.heap.size, 8, none⟩) 16 16) rfl rfl rfl (by kernel_rfl) (by kernel_rfl) (by kernel_rfl) (fun _ _ d _ _ h => by cases d <;> exact h) (fun W hS => ex_slice6 101 rfl rfl) hd7 ?_
  simp only [Act.put, List.setIfInBounds_toArray, List.set_cons_zero, List.set_cons_succ]
  refine take_one (i := 2) (d := some 103) (v := .pointer (some ⟨w.heap.size, 24, none⟩)) rfl rfl rfl (by kernel_rfl) (by kernel_rfl) (by kernel_rfl) (fun _ _ d _ _ h => by cases d <;> exact h) (fun W hS => ex_fieldE 3 3 24 rfl rfl (.inr (.inr (.inr ⟨rfl, rfl⟩)))) hd7 ?_
  simp only [Act.put, List.setIfInBounds_toArray, List.set_cons_zero, List.set_cons_succ]
  refine take_one (i := 3) (d := some 104) (v := .slice (some ⟨w.heap.size, 24, none⟩) 16 16) rfl rfl rfl (by kernel_rfl) (by kernel_rfl) (by kernel_rfl) (fun _ _ d _ _ h => by cases d <;> exact h) (fun W hS => ex_slice6 103 rfl rfl) hd7 ?_
  simp only [Act.put, List.setIfInBounds_toArray, List.set_cons_zero, List.set_cons_succ]
  refine take_one (i := 4) (d := some 105) (v := .agg c.toArray) rfl rfl rfl (by kernel_rfl) (by kernel_rfl) (by kernel_rfl) (fun _ _ d _ _ h => by cases d <;> exact h) (fun W hS => ex_loadv (.tmp 5) 34 rfl rfl (HT.out W hS)) hd7 ?_
  simp only [Act.put, List.setIfInBounds_toArray, List.set_cons_zero, List.set_cons_succ]
  refine all_one (i := 5) (by kernel_rfl) rfl rfl ?_
  refine wp_call (d := some 106) 17 _ rfl (by kernel_rfl) (M8.out _ hd7) ?_
  rintro _ w8 ⟨v8, rfl, hv8, hc8⟩
  have hx8 := hd7.trans (hc8.mono hd7.size)
  refine ⟨hx8, ?_⟩
  simp only [Act.put, List.setIfInBounds_toArray, List.set_cons_zero, List.set_cons_succ]
  refine take_one (i := 6) (d := some 100) (v := .tuple #[v8, .int .i64 e2]) rfl rfl rfl (by kernel_rfl) (by kernel_rfl) (by kernel_rfl) (fun _ _ d _ _ h => by cases d <;> exact h) (fun W hS => ex_move (.tmp 106) rfl rfl) hx8 ?_
  simp only [Act.put, List.setIfInBounds_toArray, List.set_cons_zero, List.set_cons_succ]
  refine take_one (i := 7) (d := some 107) (v := v8) rfl rfl rfl (by kernel_rfl) (by kernel_rfl) (by kernel_rfl) (fun _ _ d _ _ h => by cases d <;> exact h) (fun W hS => ex_extract (.tmp 100) 0 rfl rfl rfl) hx8 ?_
  simp only [Act.put, List.setIfInBounds_toArray, List.set_cons_zero, List.set_cons_succ]
  refine take_one (i := 8) (d := some 108) (v := .int .i64 e2) rfl rfl rfl (by kernel_rfl) (by kernel_rfl) (by kernel_rfl) (fun _ _ d _ _ h => by cases d <;> exact h) (fun W hS => ex_extract (.tmp 100) 1 rfl rfl rfl) hx8 ?_
  simp only [Act.put, List.setIfInBounds_toArray, List.set_cons_zero, List.set_cons_succ]
  refine take_one (i := 9) (d := some 13) (v := v8) rfl rfl rfl (by kernel_rfl) (by kernel_rfl) (by kernel_rfl) (fun _ _ d _ _ h => by cases d <;> exact h) (fun W hS => ex_assign (.tmp 107) rfl rfl) hx8 ?_
  simp only [Act.put, List.setIfInBounds_toArray, List.set_cons_zero, List.set_cons_succ]
  refine take_one (i := 10) (d := some 14) (v := .int .i64 e2) rfl rfl rfl (by kernel_rfl) (by kernel_rfl) (by kernel_rfl) (fun _ _ d _ _ h => by cases d <;> exact h) (fun W hS => ex_assign (.tmp 108) rfl rfl) hx8 ?_
  simp only [Act.put, List.setIfInBounds_toArray, List.set_cons_zero, List.set_cons_succ]
  refine wpAnyH_done (by kernel_rfl) ?_ _
  have hy8 : Below w7.heap.size w7 w8 := ((Below.refl _ _).drew).trans (hc8.mono (Nat.le_refl _))
  have t1 := (((hv5.later hy6).later hc7).later hy8).text
  have t2 := ((hv6.later hc7).later hy8).text
  have t3 := (hv7.later hy8).text
  have t4 := hv8.text
  generalize strOfNums Z3 = X3 at *
  generalize strOfNums Z4 = X4 at *
  clear hv5 hv6 hv7 hv8 hy6 hc7 hy8 hc5 hc6 hc8
  go_wp2_with fail
  refine Calls.mono (awake_calls6 _) ?_
  rintro _ w9 ⟨rfl, hb9⟩
  have H9 : Hid _ := HB.out.trans ((hx8.trans (hb9.mono hx8.size)).mono HB.out.size)
  clear hb9
  go_wp2
  go_ret
  exact ⟨rfl, H9.out⟩

set_option maxRecDepth 100000 in
theorem segmentWrites_open {H : Type} {enc : TypeId × Value → H} {W : World} {base : Nat} (v0 v1 v2 : Value) {d0 d1 d2 : DataW H} {p0 p1 p2 : List MemPlace}
    (o0 : Value.okWide Try.prog W .any base 27 v0) (h0 : DataW.Trod enc Try.prog W 0 (fun _ => true) true 27 v0 d0 p0) (z0 : ∀ k ∈ d0.weights Try.prog 27, k ≤ reachBytes)
    (o1 : Value.okWide Try.prog W .any base 31 v1) (h1 : DataW.Trod enc Try.prog W 0 (fun _ => true) true 31 v1 d1 p1) (z1 : ∀ k ∈ d1.weights Try.prog 31, k ≤ reachBytes)
    (o2 : Value.okWide Try.prog W .any base 34 v2) (h2 : DataW.Trod enc Try.prog W 0 (fun _ => true) true 34 v2 d2 p2) (z2 : ∀ k ∈ d2.weights Try.prog 34, k ≤ reachBytes) :
    Calls Try.prog 3 #[v0, v1, v2] W fun e w' => e = .returned (.bool true) ∧ Below W.heap.size W w' := by
  obtain ⟨A, B, C, D, rfl, la, lb, lc, ld, fa, fb, fc, fd⟩ := open_ends h0 z0
  obtain ⟨u, s, d, x, rfl, hu⟩ := open_udp h1 z1
  obtain ⟨c, t, rfl, ht⟩ := open_tcp h2 z2
  exact segmentWrites_walk A B C D la lb lc ld fa fb fc fd u c s d x t W hu ht

end Go.Proofs.Ytlhmelkgnpjgaaa
