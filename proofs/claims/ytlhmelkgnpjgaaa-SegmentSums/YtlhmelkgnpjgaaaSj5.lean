/-
  SegmentSums.
-/
import Derived.Test.YtlhmelkgnpjgaaaSj4
import Derived.Test.YtlhmelkgnpjgaaaRg
namespace Go.Proofs.Ytlhmelkgnpjgaaa
open Go Go.RowKit Go.Shelf
set_option linter.unusedVariables false
set_option linter.unusedSimpArgs false

theorem wp_parts2 {o : Oper} {a : Act} {d : Option Nat} {w : World} {K : Act → World → Prop} {Q : Exit → Act → World → Prop} (p0 p1 : Operand) (hop : o.op = Op.buildSlice 71 2 #[(0, p0), (1, p1)]) (hd : o.dst = d) {v0 v1 : Value} (h0 : a.eval p0 = v0) (h1 : a.eval p1 = v1)
    (s0 : ∃ x n m, v0 = .slice x n m) (s1 : ∃ x n m, v1 = .slice x n m)
    (hK : K (a.put d (.slice (some ⟨w.heap.size, 0, none⟩) 2 2)) (w.alloc (.cells #[v0, v1] 29))) : o.wp Try.prog a w K Q := by
  obtain ⟨x0, n0, m0, rfl⟩ := s0
  obtain ⟨x1, n1, m1, rfl⟩ := s1
  subst hd
  unfold Oper.wp
  generalize hev : a.eval = ev at *
  simp [execOp, hop, h0, h1, go_sem]
  exact hK
theorem step_callG {P : Program} {ops : Array Oper} {o : Oper} {a : Act} {w : World} {K : Act → World → Prop} {Q : Exit → Act → World → Prop} {E : Prop} {R : Value → World → Prop} (hw : Region.wanted o (yielded ops a.tmps) = true) (f : FuncId) (xs : Array Operand) (ts : Array TypeId)
    (hop : o.op = Op.call { callee := .value (.func f), args := xs, argTypes := ts }) (vs : Array Value)
    (hrun : (execOp a.eval o).run P w = .ok (.enter f vs) w) (hc : Calls P f vs w fun e w' => ∃ v, e = .returned v ∧ R v w') (hK : ∀ v w2, R v w2 → K (a.put o.dst v) w2) :
    if Region.wanted o (yielded ops a.tmps) = true then Oper.wp P o a w K Q else E := by
  rw [if_pos hw]
  unfold Oper.wp
  rw [hrun]
  refine hc.mono ?_
  rintro e w' ⟨v, rfl, hr⟩
  exact hK v w' hr

set_option maxHeartbeats 8000000 in
set_option maxRecDepth 100000 in
theorem segmentSums_walk (A B C D : List Int) (la : A.length = 4) (lb : B.length = 4) (lc : C.length = 16) (ld : D.length = 16) (fa : Fit A) (fb : Fit B) (fc : Fit C) (fd : Fit D) (u c : List Value) (s d : Int) (x : List Int) (t : Seg) (w : World) (hu : UdpC w u s d x) (ht : TcpC w c t) :
    Calls Try.prog 12 #[.agg (endsC A B C D).toArray, .agg u.toArray, .agg c.toArray] w fun e w' => e = .returned (.bool true) ∧ Below w.heap.size w w' := by
  obtain ⟨W0, hW0⟩ : ∃ W0, ((w.alloc (.cells (endsC A B C D).toArray 27)).alloc (.cells u.toArray 31)).alloc (.cells c.toArray 34) = W0 := ⟨_, rfl⟩
  have b1 := blk_alloc (blk_new (w.alloc (.cells (endsC A B C D).toArray 27)) (.cells u.toArray 31)) (.cells c.toArray 34)
  have b2 := blk_new ((w.alloc (.cells (endsC A B C D).toArray 27)).alloc (.cells u.toArray 31)) (.cells c.toArray 34)
  have hB : Below w.heap.size w (((w.alloc (.cells (endsC A B C D).toArray 27)).alloc (.cells u.toArray 31)).alloc (.cells c.toArray 34)) := (((Below.refl _ w).alloc (Nat.le_refl _) _).alloc (by simp) _).alloc (by simp <;> omega) _
  have hE0 : EndsBox (((w.alloc (.cells (endsC A B C D).toArray 27)).alloc (.cells u.toArray 31)).alloc (.cells c.toArray 34)) w.heap.size A B C D := (ends_new w la lb lc ld fa fb fc fd).on (((Below.refl _ _).alloc (Nat.le_refl _) _).alloc (by simp) _)
  rw [hW0] at b1 b2 hB hE0
  have s1 : (w.alloc (.cells (endsC A B C D).toArray 27)).heap.size = w.heap.size + 1 := by simp
  have s2 : ((w.alloc (.cells (endsC A B C D).toArray 27)).alloc (.cells u.toArray 31)).heap.size = w.heap.size + 1 + 1 := by simp
  rw [s1] at b1
  rw [s2] at b2
  have hUt : ∀ W, Below W0.heap.size W0 W → UdpC W u s d x := fun W hW => hu.on (hB.trans (hW.mono hB.size))
  have hTt : ∀ W, Below W0.heap.size W0 W → TcpC W c t := fun W hW => ht.on (hB.trans (hW.mono hB.size))
  have HE : Hid (∀ W, Below W0.heap.size W0 W → EndsBox W w.heap.size A B C D) := fun W hW => hE0.on hW
  have HU : Hid (∀ W, Below W0.heap.size W0 W → (Instr.loadAt 31 (.pointer (some ⟨w.heap.size + 1, 0, none⟩))).run Try.prog W = .ok (.agg u.toArray) W) := fun W hW => agg_load Try.isAgg31 Try.sizeOf31 hu.len (CellsAt.of_blk (blk_on b1 hW))
  have HT : Hid (∀ W, Below W0.heap.size W0 W → (Instr.loadAt 34 (.pointer (some ⟨w.heap.size + 1 + 1, 0, none⟩))).run Try.prog W = .ok (.agg c.toArray) W) := fun W hW => agg_load Try.isAgg34 Try.sizeOf34 ht.len (CellsAt.of_blk (blk_on b2 hW))
  have p4 : ∀ p n : Int, 0 ≤ p ∧ p < 256 → 0 ≤ n ∧ n ≤ 65535 → Fit (ph4 A B p n) := fun p n hp hn => ph4_fit fa fb hp hn
  have p6 : ∀ p n : Int, 0 ≤ p ∧ p < 256 → 0 ≤ n ∧ n ≤ 65535 → Fit (ph6 C D p n) := fun p n hp hn => ph6_fit fc fd hp hn
  obtain ⟨vd, -, hvd⟩ := hu.val
  have fu4 := udpB_fit (ph := ph4 A B) hu.fs hu.fd hvd.fit p4
  have fu6 := udpB_fit (ph := ph6 C D) hu.fs hu.fd hvd.fit p6
  have ft4 := tcpB_fit (ph := ph4 A B) ht p4
  have ft6 := tcpB_fit (ph := ph6 C D) ht p6
  have M3 : Hid (∀ W, Below W0.heap.size W0 W → Calls Try.prog 15 #[.agg (u8L C).toArray, .agg (u8L D).toArray, .agg u.toArray] W fun e w' => ∃ v, e = .returned (.tuple #[v, .int .i64 (udpE x)]) ∧ BytesAt w'.heap.size w' v (udpB (ph6 C D) s d x) ∧ Below W.heap.size W w') := fun W hW => (WriteUDP6_any C D lc ld fc fd u s d x W (hUt W hW)).mono (fun e w' h => h.bytes fu6.1 fu6.2)
  have M5 : Hid (∀ W, Below W0.heap.size W0 W → Calls Try.prog 16 #[.agg (u8L A).toArray, .agg (u8L B).toArray, .agg c.toArray] W fun e w' => ∃ v, e = .returned (.tuple #[v, .int .i64 (tcpE t)]) ∧ BytesAt w'.heap.size w' v (tcpB (ph4 A B) t) ∧ Below W.heap.size W w') := fun W hW => (WriteTCP4_any A B la lb fa fb c t W (hTt W hW)).mono (fun e w' h => h.bytes ft4.1 ft4.2)
  have HB : Hid _ := hB
  have hx0 : Below W0.heap.size W0 W0 := Below.refl _ _
  have HLA : Hid (∀ W, Below W0.heap.size W0 W → (Instr.loadAt 23 (.pointer (some ⟨w.heap.size, 0, none⟩))).run Try.prog W = .ok (.agg (u8L A).toArray) W) := fun W hW => (hE0.on hW).lA
  have HLB : Hid (∀ W, Below W0.heap.size W0 W → (Instr.loadAt 23 (.pointer (some ⟨w.heap.size, 4, none⟩))).run Try.prog W = .ok (.agg (u8L B).toArray) W) := fun W hW => (hE0.on hW).lB
  have HLC : Hid (∀ W, Below W0.heap.size W0 W → (Instr.loadAt 25 (.pointer (some ⟨w.heap.size, 8, none⟩))).run Try.prog W = .ok (.agg (u8L C).toArray) W) := fun W hW => (hE0.on hW).lC
  have HLD : Hid (∀ W, Below W0.heap.size W0 W → (Instr.loadAt 25 (.pointer (some ⟨w.heap.size, 24, none⟩))).run Try.prog W = .ok (.agg (u8L D).toArray) W) := fun W hW => (hE0.on hW).lD
  have HE4 : Hid (∀ W, Below W0.heap.size W0 W → EndV W (.slice (some ⟨w.heap.size, 0, none⟩) 4 4) (.slice (some ⟨w.heap.size, 4, none⟩) 4 4) 4 (ph4 A B)) := fun W hW => (hE0.on hW).e4
  have HE6 : Hid (∀ W, Below W0.heap.size W0 W → EndV W (.slice (some ⟨w.heap.size, 8, none⟩) 16 16) (.slice (some ⟨w.heap.size, 24, none⟩) 16 16) 16 (ph6 C D)) := fun W hW => (hE0.on hW).e6
  obtain ⟨vd', hud, hvd'⟩ := hu.val
  obtain ⟨vto, vtd, htd, hvto, hvtd⟩ := ht.val
  have KU : Hid (∀ W, Below W0.heap.size W0 W → W.cell? ⟨w.heap.size + 1, 2, none⟩ = some vd') := fun W hW => blk_cell (j := 2) (blk_on b1 hW) (by rw [hud]; rfl)
  have KO : Hid (∀ W, Below W0.heap.size W0 W → W.cell? ⟨w.heap.size + 1 + 1, 7, none⟩ = some vto) := fun W hW => blk_cell (j := 7) (blk_on b2 hW) (by rw [htd]; rfl)
  have KD : Hid (∀ W, Below W0.heap.size W0 W → W.cell? ⟨w.heap.size + 1 + 1, 8, none⟩ = some vtd) := fun W hW => blk_cell (j := 8) (blk_on b2 hW) (by rw [htd]; rfl)
  have SU : Hid (udpE x = 0 → udpB (ph6 C D) s d x = udpL (ph6 C D) s d x ∧ 8 + x.length ≤ 65535 ∧ sumW 0 (wordsL (ph6 C D 17 (udpL (ph6 C D) s d x).length ++ udpL (ph6 C D) s d x)) = 65535) := fun h => by
    have hn : 8 + x.length ≤ 65535 := by
      unfold udpE at h
      split at h
      · assumption
      · omega
    exact ⟨if_pos hn, hn, udp_sum (ph6_ok lc ld fc fd) hu.fs hu.fd hvd.fit hn⟩
  have ST : Hid (tcpE t = 0 → tcpB (ph4 A B) t = tcpL (ph4 A B) t ∧ tcpAll t ≤ 65535 ∧ sumW 0 (wordsL (ph4 A B 6 (tcpL (ph4 A B) t).length ++ tcpL (ph4 A B) t)) = 65535) := fun h => ⟨if_pos h, (tcpE_zero h).2, tcp_sum (ph4_ok la lb fa fb) ht h⟩
  obtain ⟨ax, kx, rfl, _⟩ := hvd'.val
  obtain ⟨ao, ko, rfl, _⟩ := hvto.val
  obtain ⟨ad, kd, rfl, _⟩ := hvtd.val
  have lx := hvd'.len
  have lo := hvto.len
  have lD := hvtd.len
  clear b1 b2 hB hE0 s1 s2 hUt hTt hu ht fu4 fu6 ft4 ft6 p4 p6 hvd hvd' hvto hvtd hud htd fa fb fc fd la lb lc ld HE
  generalize endsC A B C D = xE at *
  generalize u8L A = xA at *
  generalize u8L B = xB at *
  generalize u8L C = xC at *
  generalize u8L D = xD at *
  go_enter Try.func12, Try.ntmps12
  go_wp2_with fail
  refine Calls.mono (awake_calls6 _) ?_
  rintro _ w1 ⟨rfl, hx1⟩
  go_wp2_with first
    | ((with_reducible show wpList _ _ _ _ _ _); refine arm_load rfl (.tmp 14) 25 rfl rfl (HLC.out _ hx1) ?_)
    | ((with_reducible show wpList _ _ _ _ _ _); refine arm_load rfl (.tmp 16) 25 rfl rfl (HLD.out _ hx1) ?_)
    | ((with_reducible show wpList _ _ _ _ _ _); refine arm_load rfl (.tmp 4) 31 rfl rfl (HU.out _ hx1) ?_)
  refine Calls.mono (M3.out _ hx1) ?_
  rintro _ w2 ⟨v2, rfl, hv2, hc2⟩
  have hx2 := hx1.trans (hc2.mono hx1.size)
  clear hc2 M3
  by_cases hu0 : udpE x = 0
  · obtain ⟨eB, hn8, hsum⟩ := SU.out hu0
    rw [eB] at hv2
    rw [hu0]
    have hlU := udpL_length (ph6 C D) s d x
    rw [hlU] at hsum
    obtain ⟨a2, c2, rfl, _⟩ := hv2.val
    rw [hlU] at hv2 ⊢
    have HP : Hid (∀ W, Below W0.heap.size W0 W → Calls Try.prog 40 #[.slice (some ⟨w.heap.size, 8, none⟩) 16 16, .slice (some ⟨w.heap.size, 24, none⟩) 16 16, .int .u8 17, .int .i64 ((8 + x.length : Nat) : Int)] W fun e w' => ∃ u, e = .returned u ∧ (BytesAt w'.heap.size w' u (ph6 C D 17 ((8 + x.length : Nat) : Int)) ∧ Below W.heap.size W w')) := fun W hW => (HE6.out W hW).tells W (Below.refl _ _) 17 _ (by decide) (by omega)
    have hev := ((HE6.out W0 (Below.refl _ _)).even 17 ((8 + x.length : Nat) : Int)).1
    have hflat : [ph6 C D 17 ((8 + x.length : Nat) : Int), udpL (ph6 C D) s d x].flatten = ph6 C D 17 ((8 + x.length : Nat) : Int) ++ udpL (ph6 C D) s d x := by simp
    have HF : Hid (∀ W u, BytesAt W.heap.size W u (ph6 C D 17 ((8 + x.length : Nat) : Int)) → Below w2.heap.size w2 W → Calls Try.prog 39 #[.slice (some ⟨W.heap.size, 0, none⟩) 2 2] (W.alloc (.cells #[u, .slice a2 (8 + x.length) c2] 29)) fun e w' => ∃ q, e = .returned q ∧ (q = .int .u16 65535 ∧ Below W.heap.size W w')) := fun W u hu' hW => (fold_ref _ _ _ _ _ (parts_two W _ _ _ _ _ hu' (hv2.later hW)) (by rw [hflat, List.length_append, hlU]; omega)).mono (fun e w' h => ⟨_, h.1, by rw [hflat, hsum], ((Below.refl _ W).alloc (Nat.le_refl _) _).trans (h.2.mono (by simp))⟩)
    clear eB hv2 hev hflat hsum hlU
    go_wp2_with fail
    have hd2 : Below W0.heap.size W0 w2.drew := hx2.drew
    refine wp_region_held (S := fun W => Below W0.heap.size W0 W) (by kernel_rfl) ?_
    show wpAnyH _ _ _ _ _ 24 (Array.replicate 24 false) _ w2.drew
    have hq0 : ((0 : Int) == 0) = true := rfl
    refine take_one (i := 0) (d := some 22) (v := .int .i64 0) rfl rfl rfl (by kernel_rfl) (by kernel_rfl) (by kernel_rfl) (fun _ _ d _ _ h => by cases d <;> exact h) (fun W hS => ex_move (.tmp 8) rfl rfl) hd2 ?_
    simp only [Act.put, List.setIfInBounds_toArray, List.set_cons_zero, List.set_cons_succ]
    refine take_one (i := 1) (d := some 23) (v := .bool true) rfl rfl rfl (by kernel_rfl) (by kernel_rfl) (by kernel_rfl) (fun _ _ d _ _ h => by cases d <;> exact h) (fun W hS => (by rw [ex_eqlE (.tmp 22) 0 rfl rfl, hq0])) hd2 ?_
    simp only [Act.put, List.setIfInBounds_toArray, List.set_cons_zero, List.set_cons_succ]
    refine take_one (i := 2) (d := some 24) (v := .bool true) rfl rfl rfl (by kernel_rfl) (by kernel_rfl) (by kernel_rfl) (fun _ _ d _ _ h => by cases d <;> exact h) (fun W hS => ex_move (.tmp 23) rfl rfl) hd2 ?_
    simp only [Act.put, List.setIfInBounds_toArray, List.set_cons_zero, List.set_cons_succ]
    refine take_w (i := 3) (d := some 25) (v := .pointer (some ⟨w.heap.size, 8, none⟩)) rfl (by kernel_rfl) rfl (by kernel_rfl) (by kernel_rfl) (by kernel_rfl) (fun _ _ d _ _ h => by cases d <;> exact h) (fun W hS => ex_fieldE 3 2 8 rfl rfl (.inr (.inr (.inl ⟨rfl, rfl⟩)))) hd2 ?_
    simp only [Act.put, List.setIfInBounds_toArray, List.set_cons_zero, List.set_cons_succ]
    refine take_w (i := 4) (d := some 26) (v := .slice (some ⟨w.heap.size, 8, none⟩) 16 16) rfl (by kernel_rfl) rfl (by kernel_rfl) (by kernel_rfl) (by kernel_rfl) (fun _ _ d _ _ h => by cases d <;> exact h) (fun W hS => ex_slice6 25 rfl rfl) hd2 ?_
    simp only [Act.put, List.setIfInBounds_toArray, List.set_cons_zero, List.set_cons_succ]
    refine take_w (i := 5) (d := some 27) (v := .pointer (some ⟨w.heap.size, 24, none⟩)) rfl (by kernel_rfl) rfl (by kernel_rfl) (by kernel_rfl) (by kernel_rfl) (fun _ _ d _ _ h => by cases d <;> exact h) (fun W hS => ex_fieldE 3 3 24 rfl rfl (.inr (.inr (.inr ⟨rfl, rfl⟩)))) hd2 ?_
    simp only [Act.put, List.setIfInBounds_toArray, List.set_cons_zero, List.set_cons_succ]
    refine take_w (i := 6) (d := some 28) (v := .slice (some ⟨w.heap.size, 24, none⟩) 16 16) rfl (by kernel_rfl) rfl (by kernel_rfl) (by kernel_rfl) (by kernel_rfl) (fun _ _ d _ _ h => by cases d <;> exact h) (fun W hS => ex_slice6 27 rfl rfl) hd2 ?_
    simp only [Act.put, List.setIfInBounds_toArray, List.set_cons_zero, List.set_cons_succ]
    refine take_w (i := 7) (d := some 29) (v := .slice a2 (8 + x.length) c2) rfl (by kernel_rfl) rfl (by kernel_rfl) (by kernel_rfl) (by kernel_rfl) (fun _ _ d _ _ h => by cases d <;> exact h) (fun W hS => ex_move (.tmp 7) rfl rfl) hd2 ?_
    simp only [Act.put, List.setIfInBounds_toArray, List.set_cons_zero, List.set_cons_succ]
    refine take_w (i := 8) (d := some 30) (v := .int .i64 ((8 + x.length : Nat) : Int)) rfl (by kernel_rfl) rfl (by kernel_rfl) (by kernel_rfl) (by kernel_rfl) (fun _ _ d _ _ h => by cases d <;> exact h) (fun W hS => ex_len (.tmp 29) rfl rfl) hd2 ?_
    simp only [Act.put, List.setIfInBounds_toArray, List.set_cons_zero, List.set_cons_succ]
    refine take_w (i := 10) (d := some 32) (v := .slice a2 (8 + x.length) c2) rfl (by kernel_rfl) rfl (by kernel_rfl) (by kernel_rfl) (by kernel_rfl) (fun _ _ d _ _ h => by cases d <;> exact h) (fun W hS => ex_move (.tmp 7) rfl rfl) hd2 ?_
    simp only [Act.put, List.setIfInBounds_toArray, List.set_cons_zero, List.set_cons_succ]
    refine all_w (i := 9) (by kernel_rfl) rfl (by kernel_rfl) ?_
    refine wp_call (d := some 31) 40 _ rfl (by kernel_rfl) (HP.out _ hd2) ?_
    rintro u3 w3 ⟨hu3, hb3⟩
    have hy3 : Below w2.heap.size w2 w3 := ((Below.refl _ w2).drew).trans (hb3.mono (Nat.le_refl _))
    have hx3 := hx2.trans (hy3.mono hx2.size)
    refine ⟨hx3, ?_⟩
    simp only [Act.put, List.setIfInBounds_toArray, List.set_cons_zero, List.set_cons_succ]
    have hb3a := (Below.refl w3.heap.size w3).alloc (Nat.le_refl _) (.cells #[u3, .slice a2 (8 + x.length) c2] 29)
    refine all_w (i := 11) (by kernel_rfl) rfl (by kernel_rfl) ?_
    refine wp_parts2 (d := some 33) (.tmp 31) (.tmp 32) rfl rfl rfl rfl hu3.slc ⟨_, _, _, rfl⟩ ⟨hx3.trans (hb3a.mono hx3.size), ?_⟩
    simp only [Act.put, List.setIfInBounds_toArray, List.set_cons_zero, List.set_cons_succ]
    refine all_w (i := 12) (by kernel_rfl) rfl (by kernel_rfl) ?_
    refine wp_call (d := some 34) 39 _ rfl (by kernel_rfl) (HF.out _ _ hu3 hy3) ?_
    rintro _ w4 ⟨rfl, hb4⟩
    have hx4 := hx3.trans (hb4.mono hx3.size)
    refine ⟨hx4, ?_⟩
    simp only [Act.put, List.setIfInBounds_toArray, List.set_cons_zero, List.set_cons_succ]
    refine take_w (i := 13) (d := some 35) (v := .bool false) rfl (by kernel_rfl) rfl (by kernel_rfl) (by kernel_rfl) (by kernel_rfl) (fun _ _ d _ _ h => by cases d <;> exact h) (fun W hS => ex_neq16 (.tmp 34) 65535 (x := 65535) rfl rfl) hx4 ?_
    simp only [Act.put, List.setIfInBounds_toArray, List.set_cons_zero, List.set_cons_succ]
    refine take_w (i := 14) (d := some 36) (v := .bool false) rfl (by kernel_rfl) rfl (by kernel_rfl) (by kernel_rfl) (by kernel_rfl) (fun _ _ d _ _ h => by cases d <;> exact h) (fun W hS => ex_move (.tmp 35) rfl rfl) hx4 ?_
    simp only [Act.put, List.setIfInBounds_toArray, List.set_cons_zero, List.set_cons_succ]
    refine take_w (i := 15) (d := some 37) (v := .slice a2 (8 + x.length) c2) rfl (by kernel_rfl) rfl (by kernel_rfl) (by kernel_rfl) (by kernel_rfl) (fun _ _ d _ _ h => by cases d <;> exact h) (fun W hS => ex_move (.tmp 7) rfl rfl) hx4 ?_
    simp only [Act.put, List.setIfInBounds_toArray, List.set_cons_zero, List.set_cons_succ]
    refine take_w (i := 16) (d := some 38) (v := .int .i64 ((8 + x.length : Nat) : Int)) rfl (by kernel_rfl) rfl (by kernel_rfl) (by kernel_rfl) (by kernel_rfl) (fun _ _ d _ _ h => by cases d <;> exact h) (fun W hS => ex_len (.tmp 37) rfl rfl) hx4 ?_
    simp only [Act.put, List.setIfInBounds_toArray, List.set_cons_zero, List.set_cons_succ]
    refine take_w (i := 17) (d := some 39) (v := .pointer (some ⟨w.heap.size + 1, 2, none⟩)) rfl (by kernel_rfl) rfl (by kernel_rfl) (by kernel_rfl) (by kernel_rfl) (fun _ _ d _ _ h => by cases d <;> exact h) (fun W hS => ex_fieldU 4 2 rfl rfl (.inr (.inr rfl))) hx4 ?_
    simp only [Act.put, List.setIfInBounds_toArray, List.set_cons_zero, List.set_cons_succ]
    refine take_w (i := 18) (d := some 40) (v := .slice ax x.length kx) rfl (by kernel_rfl) rfl (by kernel_rfl) (by kernel_rfl) (by kernel_rfl) (fun _ _ d _ _ h => by cases d <;> exact h) (fun W hS => ex_load 39 rfl rfl (KU.out W hS) ⟨_, _, _, rfl⟩) hx4 ?_
    simp only [Act.put, List.setIfInBounds_toArray, List.set_cons_zero, List.set_cons_succ]
    refine take_w (i := 19) (d := some 41) (v := .int .i64 x.length) rfl (by kernel_rfl) rfl (by kernel_rfl) (by kernel_rfl) (by kernel_rfl) (fun _ _ d _ _ h => by cases d <;> exact h) (fun W hS => ex_len (.tmp 40) rfl rfl) hx4 ?_
    simp only [Act.put, List.setIfInBounds_toArray, List.set_cons_zero, List.set_cons_succ]
    refine take_w (i := 20) (d := some 42) (v := .int .i64 (8 + (x.length : Int))) rfl (by kernel_rfl) rfl (by kernel_rfl) (by kernel_rfl) (by kernel_rfl) (fun _ _ d _ _ h => by cases d <;> exact h) (fun W hS => ex_add (.const (.int .i64 8)) (.tmp 41) rfl rfl rfl (by omega)) hx4 ?_
    simp only [Act.put, List.setIfInBounds_toArray, List.set_cons_zero, List.set_cons_succ]
    refine take_w (i := 21) (d := some 43) (v := .bool false) rfl (by kernel_rfl) rfl (by kernel_rfl) (by kernel_rfl) (by kernel_rfl) (fun _ _ d _ _ h => by cases d <;> exact h) (fun W hS => (by rw [ex_neqI (.tmp 38) (.tmp 42) rfl rfl rfl]; simp)) hx4 ?_
    simp only [Act.put, List.setIfInBounds_toArray, List.set_cons_zero, List.set_cons_succ]
    refine take_w (i := 22) (d := some 44) (v := .bool false) rfl (by kernel_rfl) rfl (by kernel_rfl) (by kernel_rfl) (by kernel_rfl) (fun _ _ d _ _ h => by cases d <;> exact h) (fun W hS => ex_pick (.tmp 36) (.const (.bool true)) (.tmp 43) rfl rfl rfl) hx4 ?_
    simp only [Act.put, List.setIfInBounds_toArray, List.set_cons_zero, List.set_cons_succ]
    refine take_one (i := 23) (d := some 45) (v := .bool false) rfl rfl rfl (by kernel_rfl) (by kernel_rfl) (by kernel_rfl) (fun _ _ d _ _ h => by cases d <;> exact h) (fun W hS => ex_pick (.tmp 24) (.tmp 44) (.const (.bool false)) rfl rfl rfl) hx4 ?_
    simp only [Act.put, List.setIfInBounds_toArray, List.set_cons_zero, List.set_cons_succ]
    refine wpAnyH_done (by kernel_rfl) ?_ _
    clear HP HF hq0
    go_wp2_with first
      | ((with_reducible show wpList _ _ _ _ _ _); refine arm_load rfl (.tmp 47) 23 rfl rfl (HLA.out _ hx4) ?_)
      | ((with_reducible show wpList _ _ _ _ _ _); refine arm_load rfl (.tmp 49) 23 rfl rfl (HLB.out _ hx4) ?_)
      | ((with_reducible show wpList _ _ _ _ _ _); refine arm_load rfl (.tmp 5) 34 rfl rfl (HT.out _ hx4) ?_)
    refine Calls.mono (M5.out _ hx4) ?_
    rintro _ w5 ⟨v5, rfl, hv5, hc5⟩
    have hx5 := hx4.trans (hc5.mono hx4.size)
    clear hc5
    by_cases ht0 : tcpE t = 0
    · obtain ⟨eT, hnT, hsumT⟩ := ST.out ht0
      rw [eT] at hv5
      rw [ht0]
      have hlT := tcpL_length (ph4 A B) t
      rw [hlT] at hsumT
      have hN : tcpAll t = 20 + t.opts.length + t.data.length := rfl
      obtain ⟨a5, c5, rfl, _⟩ := hv5.val
      rw [hlT, hN] at hv5
      rw [hlT, hN]
      rw [hN] at hsumT hnT hlT
      have HP : Hid (∀ W, Below W0.heap.size W0 W → Calls Try.prog 40 #[.slice (some ⟨w.heap.size, 0, none⟩) 4 4, .slice (some ⟨w.heap.size, 4, none⟩) 4 4, .int .u8 6, .int .i64 ((20 + t.opts.length + t.data.length : Nat) : Int)] W fun e w' => ∃ u, e = .returned u ∧ (BytesAt w'.heap.size w' u (ph4 A B 6 ((20 + t.opts.length + t.data.length : Nat) : Int)) ∧ Below W.heap.size W w')) := fun W hW => (HE4.out W hW).tells W (Below.refl _ _) 6 _ (by decide) (by omega)
      have hev := ((HE4.out W0 (Below.refl _ _)).even 6 ((20 + t.opts.length + t.data.length : Nat) : Int)).1
      have hflat : [ph4 A B 6 ((20 + t.opts.length + t.data.length : Nat) : Int), tcpL (ph4 A B) t].flatten = ph4 A B 6 ((20 + t.opts.length + t.data.length : Nat) : Int) ++ tcpL (ph4 A B) t := by simp
      have HF : Hid (∀ W u, BytesAt W.heap.size W u (ph4 A B 6 ((20 + t.opts.length + t.data.length : Nat) : Int)) → Below w5.heap.size w5 W → Calls Try.prog 39 #[.slice (some ⟨W.heap.size, 0, none⟩) 2 2] (W.alloc (.cells #[u, .slice a5 (20 + t.opts.length + t.data.length) c5] 29)) fun e w' => ∃ q, e = .returned q ∧ (q = .int .u16 65535 ∧ Below W.heap.size W w')) := fun W u hu' hW => (fold_ref _ _ _ _ _ (parts_two W _ _ _ _ _ hu' (hv5.later hW)) (by rw [hflat, List.length_append, hlT]; omega)).mono (fun e w' h => ⟨_, h.1, by rw [hflat, hsumT], ((Below.refl _ W).alloc (Nat.le_refl _) _).trans (h.2.mono (by simp))⟩)
      clear eT hv5 hev hflat hsumT hlT hN
      go_wp2_with fail
      have hd5 : Below W0.heap.size W0 w5.drew := hx5.drew
      refine wp_region_held (S := fun W => Below W0.heap.size W0 W) (by kernel_rfl) ?_
      show wpAnyH _ _ _ _ _ 29 (Array.replicate 29 false) _ w5.drew
      have hq0 : ((0 : Int) != 0) = false := rfl
      refine take_one (i := 0) (d := some 55) (v := .int .i64 0) rfl rfl rfl (by kernel_rfl) (by kernel_rfl) (by kernel_rfl) (fun _ _ d _ _ h => by cases d <;> exact h) (fun W hS => ex_move (.tmp 10) rfl rfl) hd5 ?_
      simp only [Act.put, List.setIfInBounds_toArray, List.set_cons_zero, List.set_cons_succ]
      refine take_one (i := 1) (d := some 56) (v := .bool false) rfl rfl rfl (by kernel_rfl) (by kernel_rfl) (by kernel_rfl) (fun _ _ d _ _ h => by cases d <;> exact h) (fun W hS => (by rw [ex_neqE (.tmp 55) 0 rfl rfl, hq0])) hd5 ?_
      simp only [Act.put, List.setIfInBounds_toArray, List.set_cons_zero, List.set_cons_succ]
      refine take_one (i := 2) (d := some 57) (v := .bool false) rfl rfl rfl (by kernel_rfl) (by kernel_rfl) (by kernel_rfl) (fun _ _ d _ _ h => by cases d <;> exact h) (fun W hS => ex_move (.tmp 56) rfl rfl) hd5 ?_
      simp only [Act.put, List.setIfInBounds_toArray, List.set_cons_zero, List.set_cons_succ]
      refine take_w (i := 3) (d := some 58) (v := .pointer (some ⟨w.heap.size, 0, none⟩)) rfl (by kernel_rfl) rfl (by kernel_rfl) (by kernel_rfl) (by kernel_rfl) (fun _ _ d _ _ h => by cases d <;> exact h) (fun W hS => ex_fieldE 3 0 0 rfl rfl (.inl ⟨rfl, rfl⟩)) hd5 ?_
      simp only [Act.put, List.setIfInBounds_toArray, List.set_cons_zero, List.set_cons_succ]
      refine take_w (i := 4) (d := some 59) (v := .slice (some ⟨w.heap.size, 0, none⟩) 4 4) rfl (by kernel_rfl) rfl (by kernel_rfl) (by kernel_rfl) (by kernel_rfl) (fun _ _ d _ _ h => by cases d <;> exact h) (fun W hS => ex_slice4 58 rfl rfl) hd5 ?_
      simp only [Act.put, List.setIfInBounds_toArray, List.set_cons_zero, List.set_cons_succ]
      refine take_w (i := 5) (d := some 60) (v := .pointer (some ⟨w.heap.size, 4, none⟩)) rfl (by kernel_rfl) rfl (by kernel_rfl) (by kernel_rfl) (by kernel_rfl) (fun _ _ d _ _ h => by cases d <;> exact h) (fun W hS => ex_fieldE 3 1 4 rfl rfl (.inr (.inl ⟨rfl, rfl⟩))) hd5 ?_
      simp only [Act.put, List.setIfInBounds_toArray, List.set_cons_zero, List.set_cons_succ]
      refine take_w (i := 6) (d := some 61) (v := .slice (some ⟨w.heap.size, 4, none⟩) 4 4) rfl (by kernel_rfl) rfl (by kernel_rfl) (by kernel_rfl) (by kernel_rfl) (fun _ _ d _ _ h => by cases d <;> exact h) (fun W hS => ex_slice4 60 rfl rfl) hd5 ?_
      simp only [Act.put, List.setIfInBounds_toArray, List.set_cons_zero, List.set_cons_succ]
      refine take_w (i := 7) (d := some 62) (v := .slice a5 (20 + t.opts.length + t.data.length) c5) rfl (by kernel_rfl) rfl (by kernel_rfl) (by kernel_rfl) (by kernel_rfl) (fun _ _ d _ _ h => by cases d <;> exact h) (fun W hS => ex_move (.tmp 9) rfl rfl) hd5 ?_
      simp only [Act.put, List.setIfInBounds_toArray, List.set_cons_zero, List.set_cons_succ]
      refine take_w (i := 8) (d := some 63) (v := .int .i64 ((20 + t.opts.length + t.data.length : Nat) : Int)) rfl (by kernel_rfl) rfl (by kernel_rfl) (by kernel_rfl) (by kernel_rfl) (fun _ _ d _ _ h => by cases d <;> exact h) (fun W hS => ex_len (.tmp 62) rfl rfl) hd5 ?_
      simp only [Act.put, List.setIfInBounds_toArray, List.set_cons_zero, List.set_cons_succ]
      refine take_w (i := 10) (d := some 65) (v := .slice a5 (20 + t.opts.length + t.data.length) c5) rfl (by kernel_rfl) rfl (by kernel_rfl) (by kernel_rfl) (by kernel_rfl) (fun _ _ d _ _ h => by cases d <;> exact h) (fun W hS => ex_move (.tmp 9) rfl rfl) hd5 ?_
      simp only [Act.put, List.setIfInBounds_toArray, List.set_cons_zero, List.set_cons_succ]
      refine all_w (i := 9) (by kernel_rfl) rfl (by kernel_rfl) ?_
      refine wp_call (d := some 64) 40 _ rfl (by kernel_rfl) (HP.out _ hd5) ?_
      rintro u6 w6 ⟨hu6, hb6⟩
      have hy6 : Below w5.heap.size w5 w6 := ((Below.refl _ w5).drew).trans (hb6.mono (Nat.le_refl _))
      have hx6 := hx5.trans (hy6.mono hx5.size)
      refine ⟨hx6, ?_⟩
      simp only [Act.put, List.setIfInBounds_toArray, List.set_cons_zero, List.set_cons_succ]
      have hb6a := (Below.refl w6.heap.size w6).alloc (Nat.le_refl _) (.cells #[u6, .slice a5 (20 + t.opts.length + t.data.length) c5] 29)
      refine all_w (i := 11) (by kernel_rfl) rfl (by kernel_rfl) ?_
      refine wp_parts2 (d := some 66) (.tmp 64) (.tmp 65) rfl rfl rfl rfl hu6.slc ⟨_, _, _, rfl⟩ ⟨hx6.trans (hb6a.mono hx6.size), ?_⟩
      simp only [Act.put, List.setIfInBounds_toArray, List.set_cons_zero, List.set_cons_succ]
      refine all_w (i := 12) (by kernel_rfl) rfl (by kernel_rfl) ?_
      refine wp_call (d := some 67) 39 _ rfl (by kernel_rfl) (HF.out _ _ hu6 hy6) ?_
      rintro _ w7 ⟨rfl, hb7⟩
      have hx7 := hx6.trans (hb7.mono hx6.size)
      refine ⟨hx7, ?_⟩
      simp only [Act.put, List.setIfInBounds_toArray, List.set_cons_zero, List.set_cons_succ]
      refine take_w (i := 13) (d := some 68) (v := .bool true) rfl (by kernel_rfl) rfl (by kernel_rfl) (by kernel_rfl) (by kernel_rfl) (fun _ _ d _ _ h => by cases d <;> exact h) (fun W hS => ex_eql16 (.tmp 67) 65535 (x := 65535) rfl rfl) hx7 ?_
      simp only [Act.put, List.setIfInBounds_toArray, List.set_cons_zero, List.set_cons_succ]
      refine take_w (i := 14) (d := some 69) (v := .bool true) rfl (by kernel_rfl) rfl (by kernel_rfl) (by kernel_rfl) (by kernel_rfl) (fun _ _ d _ _ h => by cases d <;> exact h) (fun W hS => ex_move (.tmp 68) rfl rfl) hx7 ?_
      simp only [Act.put, List.setIfInBounds_toArray, List.set_cons_zero, List.set_cons_succ]
      refine take_w (i := 15) (d := some 70) (v := .slice a5 (20 + t.opts.length + t.data.length) c5) rfl (by kernel_rfl) rfl (by kernel_rfl) (by kernel_rfl) (by kernel_rfl) (fun _ _ d _ _ h => by cases d <;> exact h) (fun W hS => ex_move (.tmp 9) rfl rfl) hx7 ?_
      simp only [Act.put, List.setIfInBounds_toArray, List.set_cons_zero, List.set_cons_succ]
      refine take_w (i := 16) (d := some 71) (v := .int .i64 ((20 + t.opts.length + t.data.length : Nat) : Int)) rfl (by kernel_rfl) rfl (by kernel_rfl) (by kernel_rfl) (by kernel_rfl) (fun _ _ d _ _ h => by cases d <;> exact h) (fun W hS => ex_len (.tmp 70) rfl rfl) hx7 ?_
      simp only [Act.put, List.setIfInBounds_toArray, List.set_cons_zero, List.set_cons_succ]
      refine take_w (i := 17) (d := some 72) (v := .pointer (some ⟨w.heap.size + 1 + 1, 7, none⟩)) rfl (by kernel_rfl) rfl (by kernel_rfl) (by kernel_rfl) (by kernel_rfl) (fun _ _ d _ _ h => by cases d <;> exact h) (fun W hS => ex_fieldT 5 7 rfl rfl (by decide)) hx7 ?_
      simp only [Act.put, List.setIfInBounds_toArray, List.set_cons_zero, List.set_cons_succ]
      refine take_w (i := 18) (d := some 73) (v := .slice ao t.opts.length ko) rfl (by kernel_rfl) rfl (by kernel_rfl) (by kernel_rfl) (by kernel_rfl) (fun _ _ d _ _ h => by cases d <;> exact h) (fun W hS => ex_load 72 rfl rfl (KO.out W hS) ⟨_, _, _, rfl⟩) hx7 ?_
      simp only [Act.put, List.setIfInBounds_toArray, List.set_cons_zero, List.set_cons_succ]
      refine take_w (i := 19) (d := some 74) (v := .int .i64 t.opts.length) rfl (by kernel_rfl) rfl (by kernel_rfl) (by kernel_rfl) (by kernel_rfl) (fun _ _ d _ _ h => by cases d <;> exact h) (fun W hS => ex_len (.tmp 73) rfl rfl) hx7 ?_
      simp only [Act.put, List.setIfInBounds_toArray, List.set_cons_zero, List.set_cons_succ]
      refine take_w (i := 20) (d := some 75) (v := .int .i64 (20 + (t.opts.length : Int))) rfl (by kernel_rfl) rfl (by kernel_rfl) (by kernel_rfl) (by kernel_rfl) (fun _ _ d _ _ h => by cases d <;> exact h) (fun W hS => ex_add (.const (.int .i64 20)) (.tmp 74) rfl rfl rfl (by omega)) hx7 ?_
      simp only [Act.put, List.setIfInBounds_toArray, List.set_cons_zero, List.set_cons_succ]
      refine take_w (i := 21) (d := some 76) (v := .pointer (some ⟨w.heap.size + 1 + 1, 8, none⟩)) rfl (by kernel_rfl) rfl (by kernel_rfl) (by kernel_rfl) (by kernel_rfl) (fun _ _ d _ _ h => by cases d <;> exact h) (fun W hS => ex_fieldT 5 8 rfl rfl (by decide)) hx7 ?_
      simp only [Act.put, List.setIfInBounds_toArray, List.set_cons_zero, List.set_cons_succ]
      refine take_w (i := 22) (d := some 77) (v := .slice ad t.data.length kd) rfl (by kernel_rfl) rfl (by kernel_rfl) (by kernel_rfl) (by kernel_rfl) (fun _ _ d _ _ h => by cases d <;> exact h) (fun W hS => ex_load 76 rfl rfl (KD.out W hS) ⟨_, _, _, rfl⟩) hx7 ?_
      simp only [Act.put, List.setIfInBounds_toArray, List.set_cons_zero, List.set_cons_succ]
      refine take_w (i := 23) (d := some 78) (v := .int .i64 t.data.length) rfl (by kernel_rfl) rfl (by kernel_rfl) (by kernel_rfl) (by kernel_rfl) (fun _ _ d _ _ h => by cases d <;> exact h) (fun W hS => ex_len (.tmp 77) rfl rfl) hx7 ?_
      simp only [Act.put, List.setIfInBounds_toArray, List.set_cons_zero, List.set_cons_succ]
      refine take_w (i := 24) (d := some 79) (v := .int .i64 (20 + (t.opts.length : Int) + (t.data.length : Int))) rfl (by kernel_rfl) rfl (by kernel_rfl) (by kernel_rfl) (by kernel_rfl) (fun _ _ d _ _ h => by cases d <;> exact h) (fun W hS => ex_add (.tmp 75) (.tmp 78) rfl rfl rfl (by omega)) hx7 ?_
      simp only [Act.put, List.setIfInBounds_toArray, List.set_cons_zero, List.set_cons_succ]
      refine take_w (i := 25) (d := some 80) (v := .bool true) rfl (by kernel_rfl) rfl (by kernel_rfl) (by kernel_rfl) (by kernel_rfl) (fun _ _ d _ _ h => by cases d <;> exact h) (fun W hS => (by rw [ex_eqlI (.tmp 71) (.tmp 79) rfl rfl rfl]; simp)) hx7 ?_
      simp only [Act.put, List.setIfInBounds_toArray, List.set_cons_zero, List.set_cons_succ]
      refine take_w (i := 26) (d := some 81) (v := .bool true) rfl (by kernel_rfl) rfl (by kernel_rfl) (by kernel_rfl) (by kernel_rfl) (fun _ _ d _ _ h => by cases d <;> exact h) (fun W hS => ex_pick (.tmp 69) (.tmp 80) (.const (.bool false)) rfl rfl rfl) hx7 ?_
      simp only [Act.put, List.setIfInBounds_toArray, List.set_cons_zero, List.set_cons_succ]
      refine take_one (i := 27) (d := some 82) (v := .bool true) rfl rfl rfl (by kernel_rfl) (by kernel_rfl) (by kernel_rfl) (fun _ _ d _ _ h => by cases d <;> exact h) (fun W hS => ex_pick (.tmp 57) (.const (.bool true)) (.tmp 81) rfl rfl rfl) hx7 ?_
      simp only [Act.put, List.setIfInBounds_toArray, List.set_cons_zero, List.set_cons_succ]
      refine take_one (i := 28) (d := some 6) (v := .bool true) rfl rfl rfl (by kernel_rfl) (by kernel_rfl) (by kernel_rfl) (fun _ _ d _ _ h => by cases d <;> exact h) (fun W hS => ex_assign (.tmp 82) rfl rfl) hx7 ?_
      simp only [Act.put, List.setIfInBounds_toArray, List.set_cons_zero, List.set_cons_succ]
      refine wpAnyH_done (by kernel_rfl) ?_ _
      have H9 : Hid _ := HB.out.trans (hx7.mono HB.out.size)
      go_wp2
      go_ret
      exact ⟨rfl, H9.out⟩
    · have hq0 : (tcpE t != 0) = true := by simp [ht0]
      generalize tcpE t = er at *
      go_wp2_with fail
      have hd5 : Below W0.heap.size W0 w5.drew := hx5.drew
      refine wp_region_held (S := fun W => Below W0.heap.size W0 W) (by kernel_rfl) ?_
      show wpAnyH _ _ _ _ _ 29 (Array.replicate 29 false) _ w5.drew
      refine take_one (i := 0) (d := some 55) (v := .int .i64 er) rfl rfl rfl (by kernel_rfl) (by kernel_rfl) (by kernel_rfl) (fun _ _ d _ _ h => by cases d <;> exact h) (fun W hS => ex_move (.tmp 10) rfl rfl) hd5 ?_
      simp only [Act.put, List.setIfInBounds_toArray, List.set_cons_zero, List.set_cons_succ]
      refine take_one (i := 1) (d := some 56) (v := .bool true) rfl rfl rfl (by kernel_rfl) (by kernel_rfl) (by kernel_rfl) (fun _ _ d _ _ h => by cases d <;> exact h) (fun W hS => (by rw [ex_neqE (.tmp 55) 0 rfl rfl, hq0])) hd5 ?_
      simp only [Act.put, List.setIfInBounds_toArray, List.set_cons_zero, List.set_cons_succ]
      refine take_one (i := 2) (d := some 57) (v := .bool true) rfl rfl rfl (by kernel_rfl) (by kernel_rfl) (by kernel_rfl) (fun _ _ d _ _ h => by cases d <;> exact h) (fun W hS => ex_move (.tmp 56) rfl rfl) hd5 ?_
      simp only [Act.put, List.setIfInBounds_toArray, List.set_cons_zero, List.set_cons_succ]
      refine take_un (i := 3) (d := some 58) rfl (by kernel_rfl) rfl (by kernel_rfl) (by kernel_rfl) (by kernel_rfl) (fun _ _ d _ _ h => by cases d <;> exact h) hd5 ?_
      simp only [Act.put, List.setIfInBounds_toArray, List.set_cons_zero, List.set_cons_succ]
      refine take_un (i := 4) (d := some 59) rfl (by kernel_rfl) rfl (by kernel_rfl) (by kernel_rfl) (by kernel_rfl) (fun _ _ d _ _ h => by cases d <;> exact h) hd5 ?_
      simp only [Act.put, List.setIfInBounds_toArray, List.set_cons_zero, List.set_cons_succ]
      refine take_un (i := 5) (d := some 60) rfl (by kernel_rfl) rfl (by kernel_rfl) (by kernel_rfl) (by kernel_rfl) (fun _ _ d _ _ h => by cases d <;> exact h) hd5 ?_
      simp only [Act.put, List.setIfInBounds_toArray, List.set_cons_zero, List.set_cons_succ]
      refine take_un (i := 6) (d := some 61) rfl (by kernel_rfl) rfl (by kernel_rfl) (by kernel_rfl) (by kernel_rfl) (fun _ _ d _ _ h => by cases d <;> exact h) hd5 ?_
      simp only [Act.put, List.setIfInBounds_toArray, List.set_cons_zero, List.set_cons_succ]
      refine take_un (i := 7) (d := some 62) rfl (by kernel_rfl) rfl (by kernel_rfl) (by kernel_rfl) (by kernel_rfl) (fun _ _ d _ _ h => by cases d <;> exact h) hd5 ?_
      simp only [Act.put, List.setIfInBounds_toArray, List.set_cons_zero, List.set_cons_succ]
      refine take_un (i := 8) (d := some 63) rfl (by kernel_rfl) rfl (by kernel_rfl) (by kernel_rfl) (by kernel_rfl) (fun _ _ d _ _ h => by cases d <;> exact h) hd5 ?_
      simp only [Act.put, List.setIfInBounds_toArray, List.set_cons_zero, List.set_cons_succ]
      refine take_un (i := 9) (d := some 64) rfl (by kernel_rfl) rfl (by kernel_rfl) (by kernel_rfl) (by kernel_rfl) (fun _ _ d _ _ h => by cases d <;> exact h) hd5 ?_
      simp only [Act.put, List.setIfInBounds_toArray, List.set_cons_zero, List.set_cons_succ]
      refine take_un (i := 10) (d := some 65) rfl (by kernel_rfl) rfl (by kernel_rfl) (by kernel_rfl) (by kernel_rfl) (fun _ _ d _ _ h => by cases d <;> exact h) hd5 ?_
      simp only [Act.put, List.setIfInBounds_toArray, List.set_cons_zero, List.set_cons_succ]
      refine take_un (i := 11) (d := some 66) rfl (by kernel_rfl) rfl (by kernel_rfl) (by kernel_rfl) (by kernel_rfl) (fun _ _ d _ _ h => by cases d <;> exact h) hd5 ?_
      simp only [Act.put, List.setIfInBounds_toArray, List.set_cons_zero, List.set_cons_succ]
      refine take_un (i := 12) (d := some 67) rfl (by kernel_rfl) rfl (by kernel_rfl) (by kernel_rfl) (by kernel_rfl) (fun _ _ d _ _ h => by cases d <;> exact h) hd5 ?_
      simp only [Act.put, List.setIfInBounds_toArray, List.set_cons_zero, List.set_cons_succ]
      refine take_un (i := 13) (d := some 68) rfl (by kernel_rfl) rfl (by kernel_rfl) (by kernel_rfl) (by kernel_rfl) (fun _ _ d _ _ h => by cases d <;> exact h) hd5 ?_
      simp only [Act.put, List.setIfInBounds_toArray, List.set_cons_zero, List.set_cons_succ]
      refine take_un (i := 14) (d := some 69) rfl (by kernel_rfl) rfl (by kernel_rfl) (by kernel_rfl) (by kernel_rfl) (fun _ _ d _ _ h => by cases d <;> exact h) hd5 ?_
      simp only [Act.put, List.setIfInBounds_toArray, List.set_cons_zero, List.set_cons_succ]
      refine take_un (i := 15) (d := some 70) rfl (by kernel_rfl) rfl (by kernel_rfl) (by kernel_rfl) (by kernel_rfl) (fun _ _ d _ _ h => by cases d <;> exact h) hd5 ?_
      simp only [Act.put, List.setIfInBounds_toArray, List.set_cons_zero, List.set_cons_succ]
      refine take_un (i := 16) (d := some 71) rfl (by kernel_rfl) rfl (by kernel_rfl) (by kernel_rfl) (by kernel_rfl) (fun _ _ d _ _ h => by cases d <;> exact h) hd5 ?_
      simp only [Act.put, List.setIfInBounds_toArray, List.set_cons_zero, List.set_cons_succ]
      refine take_un (i := 17) (d := some 72) rfl (by kernel_rfl) rfl (by kernel_rfl) (by kernel_rfl) (by kernel_rfl) (fun _ _ d _ _ h => by cases d <;> exact h) hd5 ?_
      simp only [Act.put, List.setIfInBounds_toArray, List.set_cons_zero, List.set_cons_succ]
      refine take_un (i := 18) (d := some 73) rfl (by kernel_rfl) rfl (by kernel_rfl) (by kernel_rfl) (by kernel_rfl) (fun _ _ d _ _ h => by cases d <;> exact h) hd5 ?_
      simp only [Act.put, List.setIfInBounds_toArray, List.set_cons_zero, List.set_cons_succ]
      refine take_un (i := 19) (d := some 74) rfl (by kernel_rfl) rfl (by kernel_rfl) (by kernel_rfl) (by kernel_rfl) (fun _ _ d _ _ h => by cases d <;> exact h) hd5 ?_
      simp only [Act.put, List.setIfInBounds_toArray, List.set_cons_zero, List.set_cons_succ]
      refine take_un (i := 20) (d := some 75) rfl (by kernel_rfl) rfl (by kernel_rfl) (by kernel_rfl) (by kernel_rfl) (fun _ _ d _ _ h => by cases d <;> exact h) hd5 ?_
      simp only [Act.put, List.setIfInBounds_toArray, List.set_cons_zero, List.set_cons_succ]
      refine take_un (i := 21) (d := some 76) rfl (by kernel_rfl) rfl (by kernel_rfl) (by kernel_rfl) (by kernel_rfl) (fun _ _ d _ _ h => by cases d <;> exact h) hd5 ?_
      simp only [Act.put, List.setIfInBounds_toArray, List.set_cons_zero, List.set_cons_succ]
      refine take_un (i := 22) (d := some 77) rfl (by kernel_rfl) rfl (by kernel_rfl) (by kernel_rfl) (by kernel_rfl) (fun _ _ d _ _ h => by cases d <;> exact h) hd5 ?_
      simp only [Act.put, List.setIfInBounds_toArray, List.set_cons_zero, List.set_cons_succ]
      refine take_un (i := 23) (d := some 78) rfl (by kernel_rfl) rfl (by kernel_rfl) (by kernel_rfl) (by kernel_rfl) (fun _ _ d _ _ h => by cases d <;> exact h) hd5 ?_
      simp only [Act.put, List.setIfInBounds_toArray, List.set_cons_zero, List.set_cons_succ]
      refine take_un (i := 24) (d := some 79) rfl (by kernel_rfl) rfl (by kernel_rfl) (by kernel_rfl) (by kernel_rfl) (fun _ _ d _ _ h => by cases d <;> exact h) hd5 ?_
      simp only [Act.put, List.setIfInBounds_toArray, List.set_cons_zero, List.set_cons_succ]
      refine take_un (i := 25) (d := some 80) rfl (by kernel_rfl) rfl (by kernel_rfl) (by kernel_rfl) (by kernel_rfl) (fun _ _ d _ _ h => by cases d <;> exact h) hd5 ?_
      simp only [Act.put, List.setIfInBounds_toArray, List.set_cons_zero, List.set_cons_succ]
      refine take_un (i := 26) (d := some 81) rfl (by kernel_rfl) rfl (by kernel_rfl) (by kernel_rfl) (by kernel_rfl) (fun _ _ d _ _ h => by cases d <;> exact h) hd5 ?_
      simp only [Act.put, List.setIfInBounds_toArray, List.set_cons_zero, List.set_cons_succ]
      refine take_one (i := 27) (d := some 82) (v := .bool true) rfl rfl rfl (by kernel_rfl) (by kernel_rfl) (by kernel_rfl) (fun _ _ d _ _ h => by cases d <;> exact h) (fun W hS => ex_pick (.tmp 57) (.const (.bool true)) (.tmp 81) rfl rfl rfl) hd5 ?_
      simp only [Act.put, List.setIfInBounds_toArray, List.set_cons_zero, List.set_cons_succ]
      refine take_one (i := 28) (d := some 6) (v := .bool true) rfl rfl rfl (by kernel_rfl) (by kernel_rfl) (by kernel_rfl) (fun _ _ d _ _ h => by cases d <;> exact h) (fun W hS => ex_assign (.tmp 82) rfl rfl) hd5 ?_
      simp only [Act.put, List.setIfInBounds_toArray, List.set_cons_zero, List.set_cons_succ]
      refine wpAnyH_done (by kernel_rfl) ?_ _
      have H9 : Hid _ := HB.out.trans (hd5.mono HB.out.size)
      go_wp2
      go_ret
      exact ⟨rfl, H9.out⟩
  · have hq0 : (udpE x == 0) = false := by simpa using hu0
    generalize udpE x = er2 at *
    go_wp2_with fail
    have hd2 : Below W0.heap.size W0 w2.drew := hx2.drew
    refine wp_region_held (S := fun W => Below W0.heap.size W0 W) (by kernel_rfl) ?_
    show wpAnyH _ _ _ _ _ 24 (Array.replicate 24 false) _ w2.drew
    refine take_one (i := 0) (d := some 22) (v := .int .i64 er2) rfl rfl rfl (by kernel_rfl) (by kernel_rfl) (by kernel_rfl) (fun _ _ d _ _ h => by cases d <;> exact h) (fun W hS => ex_move (.tmp 8) rfl rfl) hd2 ?_
    simp only [Act.put, List.setIfInBounds_toArray, List.set_cons_zero, List.set_cons_succ]
    refine take_one (i := 1) (d := some 23) (v := .bool false) rfl rfl rfl (by kernel_rfl) (by kernel_rfl) (by kernel_rfl) (fun _ _ d _ _ h => by cases d <;> exact h) (fun W hS => (by rw [ex_eqlE (.tmp 22) 0 rfl rfl, hq0])) hd2 ?_
    simp only [Act.put, List.setIfInBounds_toArray, List.set_cons_zero, List.set_cons_succ]
    refine take_one (i := 2) (d := some 24) (v := .bool false) rfl rfl rfl (by kernel_rfl) (by kernel_rfl) (by kernel_rfl) (fun _ _ d _ _ h => by cases d <;> exact h) (fun W hS => ex_move (.tmp 23) rfl rfl) hd2 ?_
    simp only [Act.put, List.setIfInBounds_toArray, List.set_cons_zero, List.set_cons_succ]
    refine take_un (i := 3) (d := some 25) rfl (by kernel_rfl) rfl (by kernel_rfl) (by kernel_rfl) (by kernel_rfl) (fun _ _ d _ _ h => by cases d <;> exact h) hd2 ?_
    simp only [Act.put, List.setIfInBounds_toArray, List.set_cons_zero, List.set_cons_succ]
    refine take_un (i := 4) (d := some 26) rfl (by kernel_rfl) rfl (by kernel_rfl) (by kernel_rfl) (by kernel_rfl) (fun _ _ d _ _ h => by cases d <;> exact h) hd2 ?_
    simp only [Act.put, List.setIfInBounds_toArray, List.set_cons_zero, List.set_cons_succ]
    refine take_un (i := 5) (d := some 27) rfl (by kernel_rfl) rfl (by kernel_rfl) (by kernel_rfl) (by kernel_rfl) (fun _ _ d _ _ h => by cases d <;> exact h) hd2 ?_
    simp only [Act.put, List.setIfInBounds_toArray, List.set_cons_zero, List.set_cons_succ]
    refine take_un (i := 6) (d := some 28) rfl (by kernel_rfl) rfl (by kernel_rfl) (by kernel_rfl) (by kernel_rfl) (fun _ _ d _ _ h => by cases d <;> exact h) hd2 ?_
    simp only [Act.put, List.setIfInBounds_toArray, List.set_cons_zero, List.set_cons_succ]
    refine take_un (i := 7) (d := some 29) rfl (by kernel_rfl) rfl (by kernel_rfl) (by kernel_rfl) (by kernel_rfl) (fun _ _ d _ _ h => by cases d <;> exact h) hd2 ?_
    simp only [Act.put, List.setIfInBounds_toArray, List.set_cons_zero, List.set_cons_succ]
    refine take_un (i := 8) (d := some 30) rfl (by kernel_rfl) rfl (by kernel_rfl) (by kernel_rfl) (by kernel_rfl) (fun _ _ d _ _ h => by cases d <;> exact h) hd2 ?_
    simp only [Act.put, List.setIfInBounds_toArray, List.set_cons_zero, List.set_cons_succ]
    refine take_un (i := 9) (d := some 31) rfl (by kernel_rfl) rfl (by kernel_rfl) (by kernel_rfl) (by kernel_rfl) (fun _ _ d _ _ h => by cases d <;> exact h) hd2 ?_
    simp only [Act.put, List.setIfInBounds_toArray, List.set_cons_zero, List.set_cons_succ]
    refine take_un (i := 10) (d := some 32) rfl (by kernel_rfl) rfl (by kernel_rfl) (by kernel_rfl) (by kernel_rfl) (fun _ _ d _ _ h => by cases d <;> exact h) hd2 ?_
    simp only [Act.put, List.setIfInBounds_toArray, List.set_cons_zero, List.set_cons_succ]
    refine take_un (i := 11) (d := some 33) rfl (by kernel_rfl) rfl (by kernel_rfl) (by kernel_rfl) (by kernel_rfl) (fun _ _ d _ _ h => by cases d <;> exact h) hd2 ?_
    simp only [Act.put, List.setIfInBounds_toArray, List.set_cons_zero, List.set_cons_succ]
    refine take_un (i := 12) (d := some 34) rfl (by kernel_rfl) rfl (by kernel_rfl) (by kernel_rfl) (by kernel_rfl) (fun _ _ d _ _ h => by cases d <;> exact h) hd2 ?_
    simp only [Act.put, List.setIfInBounds_toArray, List.set_cons_zero, List.set_cons_succ]
    refine take_un (i := 13) (d := some 35) rfl (by kernel_rfl) rfl (by kernel_rfl) (by kernel_rfl) (by kernel_rfl) (fun _ _ d _ _ h => by cases d <;> exact h) hd2 ?_
    simp only [Act.put, List.setIfInBounds_toArray, List.set_cons_zero, List.set_cons_succ]
    refine take_un (i := 14) (d := some 36) rfl (by kernel_rfl) rfl (by kernel_rfl) (by kernel_rfl) (by kernel_rfl) (fun _ _ d _ _ h => by cases d <;> exact h) hd2 ?_
    simp only [Act.put, List.setIfInBounds_toArray, List.set_cons_zero, List.set_cons_succ]
    refine take_un (i := 15) (d := some 37) rfl (by kernel_rfl) rfl (by kernel_rfl) (by kernel_rfl) (by kernel_rfl) (fun _ _ d _ _ h => by cases d <;> exact h) hd2 ?_
    simp only [Act.put, List.setIfInBounds_toArray, List.set_cons_zero, List.set_cons_succ]
    refine take_un (i := 16) (d := some 38) rfl (by kernel_rfl) rfl (by kernel_rfl) (by kernel_rfl) (by kernel_rfl) (fun _ _ d _ _ h => by cases d <;> exact h) hd2 ?_
    simp only [Act.put, List.setIfInBounds_toArray, List.set_cons_zero, List.set_cons_succ]
    refine take_un (i := 17) (d := some 39) rfl (by kernel_rfl) rfl (by kernel_rfl) (by kernel_rfl) (by kernel_rfl) (fun _ _ d _ _ h => by cases d <;> exact h) hd2 ?_
    simp only [Act.put, List.setIfInBounds_toArray, List.set_cons_zero, List.set_cons_succ]
    refine take_un (i := 18) (d := some 40) rfl (by kernel_rfl) rfl (by kernel_rfl) (by kernel_rfl) (by kernel_rfl) (fun _ _ d _ _ h => by cases d <;> exact h) hd2 ?_
    simp only [Act.put, List.setIfInBounds_toArray, List.set_cons_zero, List.set_cons_succ]
    refine take_un (i := 19) (d := some 41) rfl (by kernel_rfl) rfl (by kernel_rfl) (by kernel_rfl) (by kernel_rfl) (fun _ _ d _ _ h => by cases d <;> exact h) hd2 ?_
    simp only [Act.put, List.setIfInBounds_toArray, List.set_cons_zero, List.set_cons_succ]
    refine take_un (i := 20) (d := some 42) rfl (by kernel_rfl) rfl (by kernel_rfl) (by kernel_rfl) (by kernel_rfl) (fun _ _ d _ _ h => by cases d <;> exact h) hd2 ?_
    simp only [Act.put, List.setIfInBounds_toArray, List.set_cons_zero, List.set_cons_succ]
    refine take_un (i := 21) (d := some 43) rfl (by kernel_rfl) rfl (by kernel_rfl) (by kernel_rfl) (by kernel_rfl) (fun _ _ d _ _ h => by cases d <;> exact h) hd2 ?_
    simp only [Act.put, List.setIfInBounds_toArray, List.set_cons_zero, List.set_cons_succ]
    refine take_un (i := 22) (d := some 44) rfl (by kernel_rfl) rfl (by kernel_rfl) (by kernel_rfl) (by kernel_rfl) (fun _ _ d _ _ h => by cases d <;> exact h) hd2 ?_
    simp only [Act.put, List.setIfInBounds_toArray, List.set_cons_zero, List.set_cons_succ]
    refine take_one (i := 23) (d := some 45) (v := .bool false) rfl rfl rfl (by kernel_rfl) (by kernel_rfl) (by kernel_rfl) (fun _ _ d _ _ h => by cases d <;> exact h) (fun W hS => ex_pick (.tmp 24) (.tmp 44) (.const (.bool false)) rfl rfl rfl) hd2 ?_
    simp only [Act.put, List.setIfInBounds_toArray, List.set_cons_zero, List.set_cons_succ]
    refine wpAnyH_done (by kernel_rfl) ?_ _
    clear hq0
    generalize w2.drew = w3 at *
    have hx3 := hd2
    go_wp2_with first
      | ((with_reducible show wpList _ _ _ _ _ _); refine arm_load rfl (.tmp 47) 23 rfl rfl (HLA.out _ hx3) ?_)
      | ((with_reducible show wpList _ _ _ _ _ _); refine arm_load rfl (.tmp 49) 23 rfl rfl (HLB.out _ hx3) ?_)
      | ((with_reducible show wpList _ _ _ _ _ _); refine arm_load rfl (.tmp 5) 34 rfl rfl (HT.out _ hx3) ?_)
    refine Calls.mono (M5.out _ hx3) ?_
    rintro _ w4 ⟨v4, rfl, hv4, hc4⟩
    have hx4 := hx3.trans (hc4.mono hx3.size)
    clear hc4
    by_cases ht0 : tcpE t = 0
    · obtain ⟨eT, hnT, hsumT⟩ := ST.out ht0
      rw [eT] at hv4
      rw [ht0]
      have hlT := tcpL_length (ph4 A B) t
      rw [hlT] at hsumT
      have hN : tcpAll t = 20 + t.opts.length + t.data.length := rfl
      obtain ⟨a4, c4, rfl, _⟩ := hv4.val
      rw [hlT, hN] at hv4
      rw [hlT, hN]
      rw [hN] at hsumT hnT hlT
      have HP : Hid (∀ W, Below W0.heap.size W0 W → Calls Try.prog 40 #[.slice (some ⟨w.heap.size, 0, none⟩) 4 4, .slice (some ⟨w.heap.size, 4, none⟩) 4 4, .int .u8 6, .int .i64 ((20 + t.opts.length + t.data.length : Nat) : Int)] W fun e w' => ∃ u, e = .returned u ∧ (BytesAt w'.heap.size w' u (ph4 A B 6 ((20 + t.opts.length + t.data.length : Nat) : Int)) ∧ Below W.heap.size W w')) := fun W hW => (HE4.out W hW).tells W (Below.refl _ _) 6 _ (by decide) (by omega)
      have hev := ((HE4.out W0 (Below.refl _ _)).even 6 ((20 + t.opts.length + t.data.length : Nat) : Int)).1
      have hflat : [ph4 A B 6 ((20 + t.opts.length + t.data.length : Nat) : Int), tcpL (ph4 A B) t].flatten = ph4 A B 6 ((20 + t.opts.length + t.data.length : Nat) : Int) ++ tcpL (ph4 A B) t := by simp
      have HF : Hid (∀ W u, BytesAt W.heap.size W u (ph4 A B 6 ((20 + t.opts.length + t.data.length : Nat) : Int)) → Below w4.heap.size w4 W → Calls Try.prog 39 #[.slice (some ⟨W.heap.size, 0, none⟩) 2 2] (W.alloc (.cells #[u, .slice a4 (20 + t.opts.length + t.data.length) c4] 29)) fun e w' => ∃ q, e = .returned q ∧ (q = .int .u16 65535 ∧ Below W.heap.size W w')) := fun W u hu' hW => (fold_ref _ _ _ _ _ (parts_two W _ _ _ _ _ hu' (hv4.later hW)) (by rw [hflat, List.length_append, hlT]; omega)).mono (fun e w' h => ⟨_, h.1, by rw [hflat, hsumT], ((Below.refl _ W).alloc (Nat.le_refl _) _).trans (h.2.mono (by simp))⟩)
      clear eT hv4 hev hflat hsumT hlT hN
      go_wp2_with fail
      have hd4 : Below W0.heap.size W0 w4.drew := hx4.drew
      refine wp_region_held (S := fun W => Below W0.heap.size W0 W) (by kernel_rfl) ?_
      show wpAnyH _ _ _ _ _ 29 (Array.replicate 29 false) _ w4.drew
      have hq0 : ((0 : Int) != 0) = false := rfl
      refine take_one (i := 0) (d := some 55) (v := .int .i64 0) rfl rfl rfl (by kernel_rfl) (by kernel_rfl) (by kernel_rfl) (fun _ _ d _ _ h => by cases d <;> exact h) (fun W hS => ex_move (.tmp 10) rfl rfl) hd4 ?_
      simp only [Act.put, List.setIfInBounds_toArray, List.set_cons_zero, List.set_cons_succ]
      refine take_one (i := 1) (d := some 56) (v := .bool false) rfl rfl rfl (by kernel_rfl) (by kernel_rfl) (by kernel_rfl) (fun _ _ d _ _ h => by cases d <;> exact h) (fun W hS => (by rw [ex_neqE (.tmp 55) 0 rfl rfl, hq0])) hd4 ?_
      simp only [Act.put, List.setIfInBounds_toArray, List.set_cons_zero, List.set_cons_succ]
      refine take_one (i := 2) (d := some 57) (v := .bool false) rfl rfl rfl (by kernel_rfl) (by kernel_rfl) (by kernel_rfl) (fun _ _ d _ _ h => by cases d <;> exact h) (fun W hS => ex_move (.tmp 56) rfl rfl) hd4 ?_
      simp only [Act.put, List.setIfInBounds_toArray, List.set_cons_zero, List.set_cons_succ]
      refine take_w (i := 3) (d := some 58) (v := .pointer (some ⟨w.heap.size, 0, none⟩)) rfl (by kernel_rfl) rfl (by kernel_rfl) (by kernel_rfl) (by kernel_rfl) (fun _ _ d _ _ h => by cases d <;> exact h) (fun W hS => ex_fieldE 3 0 0 rfl rfl (.inl ⟨rfl, rfl⟩)) hd4 ?_
      simp only [Act.put, List.setIfInBounds_toArray, List.set_cons_zero, List.set_cons_succ]
      refine take_w (i := 4) (d := some 59) (v := .slice (some ⟨w.heap.size, 0, none⟩) 4 4) rfl (by kernel_rfl) rfl (by kernel_rfl) (by kernel_rfl) (by kernel_rfl) (fun _ _ d _ _ h => by cases d <;> exact h) (fun W hS => ex_slice4 58 rfl rfl) hd4 ?_
      simp only [Act.put, List.setIfInBounds_toArray, List.set_cons_zero, List.set_cons_succ]
      refine take_w (i := 5) (d := some 60) (v := .pointer (some ⟨w.heap.size, 4, none⟩)) rfl (by kernel_rfl) rfl (by kernel_rfl) (by kernel_rfl) (by kernel_rfl) (fun _ _ d _ _ h => by cases d <;> exact h) (fun W hS => ex_fieldE 3 1 4 rfl rfl (.inr (.inl ⟨rfl, rfl⟩))) hd4 ?_
      simp only [Act.put, List.setIfInBounds_toArray, List.set_cons_zero, List.set_cons_succ]
      refine take_w (i := 6) (d := some 61) (v := .slice (some ⟨w.heap.size, 4, none⟩) 4 4) rfl (by kernel_rfl) rfl (by kernel_rfl) (by kernel_rfl) (by kernel_rfl) (fun _ _ d _ _ h => by cases d <;> exact h) (fun W hS => ex_slice4 60 rfl rfl) hd4 ?_
      simp only [Act.put, List.setIfInBounds_toArray, List.set_cons_zero, List.set_cons_succ]
      refine take_w (i := 7) (d := some 62) (v := .slice a4 (20 + t.opts.length + t.data.length) c4) rfl (by kernel_rfl) rfl (by kernel_rfl) (by kernel_rfl) (by kernel_rfl) (fun _ _ d _ _ h => by cases d <;> exact h) (fun W hS => ex_move (.tmp 9) rfl rfl) hd4 ?_
      simp only [Act.put, List.setIfInBounds_toArray, List.set_cons_zero, List.set_cons_succ]
      refine take_w (i := 8) (d := some 63) (v := .int .i64 ((20 + t.opts.length + t.data.length : Nat) : Int)) rfl (by kernel_rfl) rfl (by kernel_rfl) (by kernel_rfl) (by kernel_rfl) (fun _ _ d _ _ h => by cases d <;> exact h) (fun W hS => ex_len (.tmp 62) rfl rfl) hd4 ?_
      simp only [Act.put, List.setIfInBounds_toArray, List.set_cons_zero, List.set_cons_succ]
      refine take_w (i := 10) (d := some 65) (v := .slice a4 (20 + t.opts.length + t.data.length) c4) rfl (by kernel_rfl) rfl (by kernel_rfl) (by kernel_rfl) (by kernel_rfl) (fun _ _ d _ _ h => by cases d <;> exact h) (fun W hS => ex_move (.tmp 9) rfl rfl) hd4 ?_
      simp only [Act.put, List.setIfInBounds_toArray, List.set_cons_zero, List.set_cons_succ]
      refine all_w (i := 9) (by kernel_rfl) rfl (by kernel_rfl) ?_
      refine wp_call (d := some 64) 40 _ rfl (by kernel_rfl) (HP.out _ hd4) ?_
      rintro u5 w5 ⟨hu5, hb5⟩
      have hy5 : Below w4.heap.size w4 w5 := ((Below.refl _ w4).drew).trans (hb5.mono (Nat.le_refl _))
      have hx5 := hx4.trans (hy5.mono hx4.size)
      refine ⟨hx5, ?_⟩
      simp only [Act.put, List.setIfInBounds_toArray, List.set_cons_zero, List.set_cons_succ]
      have hb5a := (Below.refl w5.heap.size w5).alloc (Nat.le_refl _) (.cells #[u5, .slice a4 (20 + t.opts.length + t.data.length) c4] 29)
      refine all_w (i := 11) (by kernel_rfl) rfl (by kernel_rfl) ?_
      refine wp_parts2 (d := some 66) (.tmp 64) (.tmp 65) rfl rfl rfl rfl hu5.slc ⟨_, _, _, rfl⟩ ⟨hx5.trans (hb5a.mono hx5.size), ?_⟩
      simp only [Act.put, List.setIfInBounds_toArray, List.set_cons_zero, List.set_cons_succ]
      refine all_w (i := 12) (by kernel_rfl) rfl (by kernel_rfl) ?_
      refine wp_call (d := some 67) 39 _ rfl (by kernel_rfl) (HF.out _ _ hu5 hy5) ?_
      rintro _ w6 ⟨rfl, hb6⟩
      have hx6 := hx5.trans (hb6.mono hx5.size)
      refine ⟨hx6, ?_⟩
      simp only [Act.put, List.setIfInBounds_toArray, List.set_cons_zero, List.set_cons_succ]
      refine take_w (i := 13) (d := some 68) (v := .bool true) rfl (by kernel_rfl) rfl (by kernel_rfl) (by kernel_rfl) (by kernel_rfl) (fun _ _ d _ _ h => by cases d <;> exact h) (fun W hS => ex_eql16 (.tmp 67) 65535 (x := 65535) rfl rfl) hx6 ?_
      simp only [Act.put, List.setIfInBounds_toArray, List.set_cons_zero, List.set_cons_succ]
      refine take_w (i := 14) (d := some 69) (v := .bool true) rfl (by kernel_rfl) rfl (by kernel_rfl) (by kernel_rfl) (by kernel_rfl) (fun _ _ d _ _ h => by cases d <;> exact h) (fun W hS => ex_move (.tmp 68) rfl rfl) hx6 ?_
      simp only [Act.put, List.setIfInBounds_toArray, List.set_cons_zero, List.set_cons_succ]
      refine take_w (i := 15) (d := some 70) (v := .slice a4 (20 + t.opts.length + t.data.length) c4) rfl (by kernel_rfl) rfl (by kernel_rfl) (by kernel_rfl) (by kernel_rfl) (fun _ _ d _ _ h => by cases d <;> exact h) (fun W hS => ex_move (.tmp 9) rfl rfl) hx6 ?_
      simp only [Act.put, List.setIfInBounds_toArray, List.set_cons_zero, List.set_cons_succ]
      refine take_w (i := 16) (d := some 71) (v := .int .i64 ((20 + t.opts.length + t.data.length : Nat) : Int)) rfl (by kernel_rfl) rfl (by kernel_rfl) (by kernel_rfl) (by kernel_rfl) (fun _ _ d _ _ h => by cases d <;> exact h) (fun W hS => ex_len (.tmp 70) rfl rfl) hx6 ?_
      simp only [Act.put, List.setIfInBounds_toArray, List.set_cons_zero, List.set_cons_succ]
      refine take_w (i := 17) (d := some 72) (v := .pointer (some ⟨w.heap.size + 1 + 1, 7, none⟩)) rfl (by kernel_rfl) rfl (by kernel_rfl) (by kernel_rfl) (by kernel_rfl) (fun _ _ d _ _ h => by cases d <;> exact h) (fun W hS => ex_fieldT 5 7 rfl rfl (by decide)) hx6 ?_
      simp only [Act.put, List.setIfInBounds_toArray, List.set_cons_zero, List.set_cons_succ]
      refine take_w (i := 18) (d := some 73) (v := .slice ao t.opts.length ko) rfl (by kernel_rfl) rfl (by kernel_rfl) (by kernel_rfl) (by kernel_rfl) (fun _ _ d _ _ h => by cases d <;> exact h) (fun W hS => ex_load 72 rfl rfl (KO.out W hS) ⟨_, _, _, rfl⟩) hx6 ?_
      simp only [Act.put, List.setIfInBounds_toArray, List.set_cons_zero, List.set_cons_succ]
      refine take_w (i := 19) (d := some 74) (v := .int .i64 t.opts.length) rfl (by kernel_rfl) rfl (by kernel_rfl) (by kernel_rfl) (by kernel_rfl) (fun _ _ d _ _ h => by cases d <;> exact h) (fun W hS => ex_len (.tmp 73) rfl rfl) hx6 ?_
      simp only [Act.put, List.setIfInBounds_toArray, List.set_cons_zero, List.set_cons_succ]
      refine take_w (i := 20) (d := some 75) (v := .int .i64 (20 + (t.opts.length : Int))) rfl (by kernel_rfl) rfl (by kernel_rfl) (by kernel_rfl) (by kernel_rfl) (fun _ _ d _ _ h => by cases d <;> exact h) (fun W hS => ex_add (.const (.int .i64 20)) (.tmp 74) rfl rfl rfl (by omega)) hx6 ?_
      simp only [Act.put, List.setIfInBounds_toArray, List.set_cons_zero, List.set_cons_succ]
      refine take_w (i := 21) (d := some 76) (v := .pointer (some ⟨w.heap.size + 1 + 1, 8, none⟩)) rfl (by kernel_rfl) rfl (by kernel_rfl) (by kernel_rfl) (by kernel_rfl) (fun _ _ d _ _ h => by cases d <;> exact h) (fun W hS => ex_fieldT 5 8 rfl rfl (by decide)) hx6 ?_
      simp only [Act.put, List.setIfInBounds_toArray, List.set_cons_zero, List.set_cons_succ]
      refine take_w (i := 22) (d := some 77) (v := .slice ad t.data.length kd) rfl (by kernel_rfl) rfl (by kernel_rfl) (by kernel_rfl) (by kernel_rfl) (fun _ _ d _ _ h => by cases d <;> exact h) (fun W hS => ex_load 76 rfl rfl (KD.out W hS) ⟨_, _, _, rfl⟩) hx6 ?_
      simp only [Act.put, List.setIfInBounds_toArray, List.set_cons_zero, List.set_cons_succ]
      refine take_w (i := 23) (d := some 78) (v := .int .i64 t.data.length) rfl (by kernel_rfl) rfl (by kernel_rfl) (by kernel_rfl) (by kernel_rfl) (fun _ _ d _ _ h => by cases d <;> exact h) (fun W hS => ex_len (.tmp 77) rfl rfl) hx6 ?_
      simp only [Act.put, List.setIfInBounds_toArray, List.set_cons_zero, List.set_cons_succ]
      refine take_w (i := 24) (d := some 79) (v := .int .i64 (20 + (t.opts.length : Int) + (t.data.length : Int))) rfl (by kernel_rfl) rfl (by kernel_rfl) (by kernel_rfl) (by kernel_rfl) (fun _ _ d _ _ h => by cases d <;> exact h) (fun W hS => ex_add (.tmp 75) (.tmp 78) rfl rfl rfl (by omega)) hx6 ?_
      simp only [Act.put, List.setIfInBounds_toArray, List.set_cons_zero, List.set_cons_succ]
      refine take_w (i := 25) (d := some 80) (v := .bool true) rfl (by kernel_rfl) rfl (by kernel_rfl) (by kernel_rfl) (by kernel_rfl) (fun _ _ d _ _ h => by cases d <;> exact h) (fun W hS => (by rw [ex_eqlI (.tmp 71) (.tmp 79) rfl rfl rfl]; simp)) hx6 ?_
      simp only [Act.put, List.setIfInBounds_toArray, List.set_cons_zero, List.set_cons_succ]
      refine take_w (i := 26) (d := some 81) (v := .bool true) rfl (by kernel_rfl) rfl (by kernel_rfl) (by kernel_rfl) (by kernel_rfl) (fun _ _ d _ _ h => by cases d <;> exact h) (fun W hS => ex_pick (.tmp 69) (.tmp 80) (.const (.bool false)) rfl rfl rfl) hx6 ?_
      simp only [Act.put, List.setIfInBounds_toArray, List.set_cons_zero, List.set_cons_succ]
      refine take_one (i := 27) (d := some 82) (v := .bool true) rfl rfl rfl (by kernel_rfl) (by kernel_rfl) (by kernel_rfl) (fun _ _ d _ _ h => by cases d <;> exact h) (fun W hS => ex_pick (.tmp 57) (.const (.bool true)) (.tmp 81) rfl rfl rfl) hx6 ?_
      simp only [Act.put, List.setIfInBounds_toArray, List.set_cons_zero, List.set_cons_succ]
      refine take_one (i := 28) (d := some 6) (v := .bool true) rfl rfl rfl (by kernel_rfl) (by kernel_rfl) (by kernel_rfl) (fun _ _ d _ _ h => by cases d <;> exact h) (fun W hS => ex_assign (.tmp 82) rfl rfl) hx6 ?_
      simp only [Act.put, List.setIfInBounds_toArray, List.set_cons_zero, List.set_cons_succ]
      refine wpAnyH_done (by kernel_rfl) ?_ _
      have H9 : Hid _ := HB.out.trans (hx6.mono HB.out.size)
      go_wp2
      go_ret
      exact ⟨rfl, H9.out⟩
    · have hq0 : (tcpE t != 0) = true := by simp [ht0]
      generalize tcpE t = er at *
      go_wp2_with fail
      have hd4 : Below W0.heap.size W0 w4.drew := hx4.drew
      refine wp_region_held (S := fun W => Below W0.heap.size W0 W) (by kernel_rfl) ?_
      show wpAnyH _ _ _ _ _ 29 (Array.replicate 29 false) _ w4.drew
      refine take_one (i := 0) (d := some 55) (v := .int .i64 er) rfl rfl rfl (by kernel_rfl) (by kernel_rfl) (by kernel_rfl) (fun _ _ d _ _ h => by cases d <;> exact h) (fun W hS => ex_move (.tmp 10) rfl rfl) hd4 ?_
      simp only [Act.put, List.setIfInBounds_toArray, List.set_cons_zero, List.set_cons_succ]
      refine take_one (i := 1) (d := some 56) (v := .bool true) rfl rfl rfl (by kernel_rfl) (by kernel_rfl) (by kernel_rfl) (fun _ _ d _ _ h => by cases d <;> exact h) (fun W hS => (by rw [ex_neqE (.tmp 55) 0 rfl rfl, hq0])) hd4 ?_
      simp only [Act.put, List.setIfInBounds_toArray, List.set_cons_zero, List.set_cons_succ]
      refine take_one (i := 2) (d := some 57) (v := .bool true) rfl rfl rfl (by kernel_rfl) (by kernel_rfl) (by kernel_rfl) (fun _ _ d _ _ h => by cases d <;> exact h) (fun W hS => ex_move (.tmp 56) rfl rfl) hd4 ?_
      simp only [Act.put, List.setIfInBounds_toArray, List.set_cons_zero, List.set_cons_succ]
      refine take_un (i := 3) (d := some 58) rfl (by kernel_rfl) rfl (by kernel_rfl) (by kernel_rfl) (by kernel_rfl) (fun _ _ d _ _ h => by cases d <;> exact h) hd4 ?_
      simp only [Act.put, List.setIfInBounds_toArray, List.set_cons_zero, List.set_cons_succ]
      refine take_un (i := 4) (d := some 59) rfl (by kernel_rfl) rfl (by kernel_rfl) (by kernel_rfl) (by kernel_rfl) (fun _ _ d _ _ h => by cases d <;> exact h) hd4 ?_
      simp only [Act.put, List.setIfInBounds_toArray, List.set_cons_zero, List.set_cons_succ]
      refine take_un (i := 5) (d := some 60) rfl (by kernel_rfl) rfl (by kernel_rfl) (by kernel_rfl) (by kernel_rfl) (fun _ _ d _ _ h => by cases d <;> exact h) hd4 ?_
      simp only [Act.put, List.setIfInBounds_toArray, List.set_cons_zero, List.set_cons_succ]
      refine take_un (i := 6) (d := some 61) rfl (by kernel_rfl) rfl (by kernel_rfl) (by kernel_rfl) (by kernel_rfl) (fun _ _ d _ _ h => by cases d <;> exact h) hd4 ?_
      simp only [Act.put, List.setIfInBounds_toArray, List.set_cons_zero, List.set_cons_succ]
      refine take_un (i := 7) (d := some 62) rfl (by kernel_rfl) rfl (by kernel_rfl) (by kernel_rfl) (by kernel_rfl) (fun _ _ d _ _ h => by cases d <;> exact h) hd4 ?_
      simp only [Act.put, List.setIfInBounds_toArray, List.set_cons_zero, List.set_cons_succ]
      refine take_un (i := 8) (d := some 63) rfl (by kernel_rfl) rfl (by kernel_rfl) (by kernel_rfl) (by kernel_rfl) (fun _ _ d _ _ h => by cases d <;> exact h) hd4 ?_
      simp only [Act.put, List.setIfInBounds_toArray, List.set_cons_zero, List.set_cons_succ]
      refine take_un (i := 9) (d := some 64) rfl (by kernel_rfl) rfl (by kernel_rfl) (by kernel_rfl) (by kernel_rfl) (fun _ _ d _ _ h => by cases d <;> exact h) hd4 ?_
      simp only [Act.put, List.setIfInBounds_toArray, List.set_cons_zero, List.set_cons_succ]
      refine take_un (i := 10) (d := some 65) rfl (by kernel_rfl) rfl (by kernel_rfl) (by kernel_rfl) (by kernel_rfl) (fun _ _ d _ _ h => by cases d <;> exact h) hd4 ?_
      simp only [Act.put, List.setIfInBounds_toArray, List.set_cons_zero, List.set_cons_succ]
      refine take_un (i := 11) (d := some 66) rfl (by kernel_rfl) rfl (by kernel_rfl) (by kernel_rfl) (by kernel_rfl) (fun _ _ d _ _ h => by cases d <;> exact h) hd4 ?_
      simp only [Act.put, List.setIfInBounds_toArray, List.set_cons_zero, List.set_cons_succ]
      refine take_un (i := 12) (d := some 67) rfl (by kernel_rfl) rfl (by kernel_rfl) (by kernel_rfl) (by kernel_rfl) (fun _ _ d _ _ h => by cases d <;> exact h) hd4 ?_
      simp only [Act.put, List.setIfInBounds_toArray, List.set_cons_zero, List.set_cons_succ]
      refine take_un (i := 13) (d := some 68) rfl (by kernel_rfl) rfl (by kernel_rfl) (by kernel_rfl) (by kernel_rfl) (fun _ _ d _ _ h => by cases d <;> exact h) hd4 ?_
      simp only [Act.put, List.setIfInBounds_toArray, List.set_cons_zero, List.set_cons_succ]
      refine take_un (i := 14) (d := some 69) rfl (by kernel_rfl) rfl (by kernel_rfl) (by kernel_rfl) (by kernel_rfl) (fun _ _ d _ _ h => by cases d <;> exact h) hd4 ?_
      simp only [Act.put, List.setIfInBounds_toArray, List.set_cons_zero, List.set_cons_succ]
      refine take_un (i := 15) (d := some 70) rfl (by kernel_rfl) rfl (by kernel_rfl) (by kernel_rfl) (by kernel_rfl) (fun _ _ d _ _ h => by cases d <;> exact h) hd4 ?_
      simp only [Act.put, List.setIfInBounds_toArray, List.set_cons_zero, List.set_cons_succ]
      refine take_un (i := 16) (d := some 71) rfl (by kernel_rfl) rfl (by kernel_rfl) (by kernel_rfl) (by kernel_rfl) (fun _ _ d _ _ h => by cases d <;> exact h) hd4 ?_
      simp only [Act.put, List.setIfInBounds_toArray, List.set_cons_zero, List.set_cons_succ]
      refine take_un (i := 17) (d := some 72) rfl (by kernel_rfl) rfl (by kernel_rfl) (by kernel_rfl) (by kernel_rfl) (fun _ _ d _ _ h => by cases d <;> exact h) hd4 ?_
      simp only [Act.put, List.setIfInBounds_toArray, List.set_cons_zero, List.set_cons_succ]
      refine take_un (i := 18) (d := some 73) rfl (by kernel_rfl) rfl (by kernel_rfl) (by kernel_rfl) (by kernel_rfl) (fun _ _ d _ _ h => by cases d <;> exact h) hd4 ?_
      simp only [Act.put, List.setIfInBounds_toArray, List.set_cons_zero, List.set_cons_succ]
      refine take_un (i := 19) (d := some 74) rfl (by kernel_rfl) rfl (by kernel_rfl) (by kernel_rfl) (by kernel_rfl) (fun _ _ d _ _ h => by cases d <;> exact h) hd4 ?_
      simp only [Act.put, List.setIfInBounds_toArray, List.set_cons_zero, List.set_cons_succ]
      refine take_un (i := 20) (d := some 75) rfl (by kernel_rfl) rfl (by kernel_rfl) (by kernel_rfl) (by kernel_rfl) (fun _ _ d _ _ h => by cases d <;> exact h) hd4 ?_
      simp only [Act.put, List.setIfInBounds_toArray, List.set_cons_zero, List.set_cons_succ]
      refine take_un (i := 21) (d := some 76) rfl (by kernel_rfl) rfl (by kernel_rfl) (by kernel_rfl) (by kernel_rfl) (fun _ _ d _ _ h => by cases d <;> exact h) hd4 ?_
      simp only [Act.put, List.setIfInBounds_toArray, List.set_cons_zero, List.set_cons_succ]
      refine take_un (i := 22) (d := some 77) rfl (by kernel_rfl) rfl (by kernel_rfl) (by kernel_rfl) (by kernel_rfl) (fun _ _ d _ _ h => by cases d <;> exact h) hd4 ?_
      simp only [Act.put, List.setIfInBounds_toArray, List.set_cons_zero, List.set_cons_succ]
      refine take_un (i := 23) (d := some 78) rfl (by kernel_rfl) rfl (by kernel_rfl) (by kernel_rfl) (by kernel_rfl) (fun _ _ d _ _ h => by cases d <;> exact h) hd4 ?_
      simp only [Act.put, List.setIfInBounds_toArray, List.set_cons_zero, List.set_cons_succ]
      refine take_un (i := 24) (d := some 79) rfl (by kernel_rfl) rfl (by kernel_rfl) (by kernel_rfl) (by kernel_rfl) (fun _ _ d _ _ h => by cases d <;> exact h) hd4 ?_
      simp only [Act.put, List.setIfInBounds_toArray, List.set_cons_zero, List.set_cons_succ]
      refine take_un (i := 25) (d := some 80) rfl (by kernel_rfl) rfl (by kernel_rfl) (by kernel_rfl) (by kernel_rfl) (fun _ _ d _ _ h => by cases d <;> exact h) hd4 ?_
      simp only [Act.put, List.setIfInBounds_toArray, List.set_cons_zero, List.set_cons_succ]
      refine take_un (i := 26) (d := some 81) rfl (by kernel_rfl) rfl (by kernel_rfl) (by kernel_rfl) (by kernel_rfl) (fun _ _ d _ _ h => by cases d <;> exact h) hd4 ?_
      simp only [Act.put, List.setIfInBounds_toArray, List.set_cons_zero, List.set_cons_succ]
      refine take_one (i := 27) (d := some 82) (v := .bool true) rfl rfl rfl (by kernel_rfl) (by kernel_rfl) (by kernel_rfl) (fun _ _ d _ _ h => by cases d <;> exact h) (fun W hS => ex_pick (.tmp 57) (.const (.bool true)) (.tmp 81) rfl rfl rfl) hd4 ?_
      simp only [Act.put, List.setIfInBounds_toArray, List.set_cons_zero, List.set_cons_succ]
      refine take_one (i := 28) (d := some 6) (v := .bool true) rfl rfl rfl (by kernel_rfl) (by kernel_rfl) (by kernel_rfl) (fun _ _ d _ _ h => by cases d <;> exact h) (fun W hS => ex_assign (.tmp 82) rfl rfl) hd4 ?_
      simp only [Act.put, List.setIfInBounds_toArray, List.set_cons_zero, List.set_cons_succ]
      refine wpAnyH_done (by kernel_rfl) ?_ _
      have H9 : Hid _ := HB.out.trans (hd4.mono HB.out.size)
      go_wp2
      go_ret
      exact ⟨rfl, H9.out⟩

set_option maxRecDepth 100000 in
theorem segmentSums_open {H : Type} {enc : TypeId × Value → H} {W : World} {base : Nat} (v0 v1 v2 : Value) {d0 d1 d2 : DataW H} {p0 p1 p2 : List MemPlace}
    (o0 : Value.okWide Try.prog W .any base 27 v0) (h0 : DataW.Trod enc Try.prog W 0 (fun _ => true) true 27 v0 d0 p0) (z0 : ∀ k ∈ d0.weights Try.prog 27, k ≤ reachBytes)
    (o1 : Value.okWide Try.prog W .any base 31 v1) (h1 : DataW.Trod enc Try.prog W 0 (fun _ => true) true 31 v1 d1 p1) (z1 : ∀ k ∈ d1.weights Try.prog 31, k ≤ reachBytes)
    (o2 : Value.okWide Try.prog W .any base 34 v2) (h2 : DataW.Trod enc Try.prog W 0 (fun _ => true) true 34 v2 d2 p2) (z2 : ∀ k ∈ d2.weights Try.prog 34, k ≤ reachBytes) :
    Calls Try.prog 12 #[v0, v1, v2] W fun e w' => e = .returned (.bool true) ∧ Below W.heap.size W w' := by
  obtain ⟨A, B, C, D, rfl, la, lb, lc, ld, fa, fb, fc, fd⟩ := open_ends h0 z0
  obtain ⟨u, s, d, x, rfl, hu⟩ := open_udp h1 z1
  obtain ⟨c, t, rfl, ht⟩ := open_tcp h2 z2
  exact segmentSums_walk A B C D la lb lc ld fa fb fc fd u c s d x t W hu ht


end Go.Proofs.Ytlhmelkgnpjgaaa
