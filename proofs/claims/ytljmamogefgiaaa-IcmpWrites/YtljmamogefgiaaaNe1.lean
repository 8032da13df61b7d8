/-
  The document's Write4 and Write6 of package icmp.
-/
import Derived.Test.YtljmamogefgiaaaNe0
namespace Go.Proofs.Ytljmamogefgiaaa
open Go Go.RowKit Go.Shelf
set_option linter.unusedVariables false
set_option linter.unusedSimpArgs false

set_option maxHeartbeats 2000000 in
set_option maxRecDepth 100000 in
theorem Rbytes_calls (c : List Value) (m : Msg) (ck : Int) (hk : 0 ≤ ck ∧ ck ≤ 65535) (w : World) (hm : MsgC w c m) (hn : m.body.length ≤ 65535) :
    Calls Try.prog 49 #[.agg c.toArray, .int .u16 ck] w fun e w' => ∃ v, e = .returned v ∧ OB w.heap.size w w' v (icH m ck ++ m.body) := by
  have hm0 := hm
  obtain ⟨⟨vb, rfl, hd⟩, ft, fc, fr⟩ := hm
  have hb0 := blk_new w (.cells [.int .u8 m.ty, .int .u8 m.code, .int .u32 m.rest, vb].toArray 26)
  have hB0 := (Below.refl w.heap.size w).alloc (Nat.le_refl _) (.cells [.int .u8 m.ty, .int .u8 m.code, .int .u32 m.rest, vb].toArray 26)
  obtain ⟨W0, hW0⟩ : ∃ W0, w.alloc (.cells [.int .u8 m.ty, .int .u8 m.code, .int .u32 m.rest, vb].toArray 26) = W0 := ⟨_, rfl⟩
  rw [hW0] at hb0 hB0
  have k0 := blk_cell (j := 0) hb0 rfl
  have k1 := blk_cell (j := 1) hb0 rfl
  have k2 := blk_cell (j := 2) hb0 rfl
  have hBh := (Below.refl W0.heap.size W0).alloc (Nat.le_refl _) (.cells (u8L (icH m ck)).toArray 5)
  have hob : OB W0.heap.size W0 (W0.alloc (.cells (u8L (icH m ck)).toArray 5)) (.slice (some ⟨W0.heap.size, 0, none⟩) 8 8) (icH m ck) := ⟨⟨rfl, .inr ⟨W0.heap.size, 8, _, rfl, Nat.le_refl _, World.alloc_heap_new W0 _, Nat.le_refl _, by decide, rfl, rfl⟩⟩, hBh⟩
  have eh : u8L (icH m ck) = [.int .u8 m.ty, .int .u8 m.code, .int .u8 (ck / 256), .int .u8 (ck % 256), .int .u8 (m.rest / 16777216), .int .u8 (m.rest / 65536 % 256), .int .u8 (m.rest / 256 % 256), .int .u8 (m.rest % 256)] := rfl
  rw [eh] at hob hBh
  obtain ⟨W1, hW1⟩ : ∃ W1, W0.alloc (.cells [.int .u8 m.ty, .int .u8 m.code, .int .u8 (ck / 256), .int .u8 (ck % 256), .int .u8 (m.rest / 16777216), .int .u8 (m.rest / 65536 % 256), .int .u8 (m.rest / 256 % 256), .int .u8 (m.rest % 256)].toArray 5) = W1 := ⟨_, rfl⟩
  rw [hW1] at hob hBh
  have hw1 := hB0.trans (hBh.mono hB0.size)
  obtain ⟨v', wy, hrun, hO, _, _⟩ := hob.app hBh.size (hd.later hw1) (by show 8 + m.body.length ≤ _; omega) 24
  have k3 := blk_cell (j := 3) (blk_on hb0 hBh) rfl
  have HR : Hid _ := hrun
  have HO : Hid (OB w.heap.size w wy v' (icH m ck ++ m.body)) := hO.lower hB0 hB0.size
  obtain ⟨ad, cd, rfl, _⟩ := hd.val
  have HL : Hid (icH m ck ++ m.body = icH m ck ++ m.body) := rfl
  obtain ⟨zs, hzs⟩ : ∃ zs, icH m ck ++ m.body = zs := ⟨_, rfl⟩
  rw [hzs] at HO ⊢
  clear hzs HL hrun hO hob eh hd hm0 hw1 hBh hb0 hB0
  obtain ⟨ty, code, rest, body⟩ := m
  dsimp only at *
  have r1 : rest / 16777216 % 256 = rest / 16777216 := by omega
  have r2 : ck / 256 % 256 = ck / 256 := by omega
  go_enter Try.func49, Try.ntmps49
  go_wp2_with (at_builtin; refine wpList_append_run rfl _ _ _ _ rfl rfl rfl HR.out ?_)
  go_ret
  exact ⟨_, rfl, HO.out⟩

/-- write: behind a pseudo header, or none. -/
theorem icK_eq (ph : Int → List Int) (m : Msg) : icK ph m = 65535 - sumW 0 (wordsL [ph (8 + (m.body.length : Int)), icH m 0 ++ m.body].flatten) := by
  unfold icK
  simp
set_option maxHeartbeats 4000000 in
set_option maxRecDepth 100000 in
theorem Rwrite_calls (ph : Int → List Int) (hph : ∀ n, (ph n).length ≤ 40) (hfit : ∀ n : Int, 0 ≤ n ∧ n ≤ 65535 → Fit (ph n)) (c : List Value) (m : Msg) (hv : Value) (w : World) (hm : MsgC w c m) (hn : 8 + m.body.length ≤ 65535) (hh : BytesAt w.heap.size w hv (ph (8 + (m.body.length : Int)))) :
    Calls Try.prog 36 #[.agg c.toArray, hv] w fun e w' => ∃ v, e = .returned v ∧ OB w.heap.size w w' v (icL ph m) := by
  have hb0 := blk_new w (.cells c.toArray 26)
  have hB0 := (Below.refl w.heap.size w).alloc (Nat.le_refl _) (.cells c.toArray 26)
  obtain ⟨W0, hW0⟩ : ∃ W0, w.alloc (.cells c.toArray 26) = W0 := ⟨_, rfl⟩
  rw [hW0] at hb0 hB0
  have HC : Hid (∀ W, Below W0.heap.size W0 W → (Instr.loadAt 26 (.pointer (some ⟨w.heap.size, 0, none⟩))).run Try.prog W = .ok (.agg c.toArray) W) := fun W hS => agg_load Try.isAgg26 Try.sizeOf26 hm.len (CellsAt.of_blk (blk_on hb0 hS))
  have hkr := icK_range hm (hfit (8 + (m.body.length : Int)) (by omega))
  have HB1 : Hid (∀ W, Below W0.heap.size W0 W → Calls Try.prog 49 #[.agg c.toArray, .int .u16 0] W fun e w' => ∃ v, e = .returned v ∧ OB W.heap.size W w' v (icH m 0 ++ m.body)) := fun W hW => Rbytes_calls c m 0 (by decide) W (hm.on (hB0.trans (hW.mono hB0.size))) (by omega)
  have HB2 : Hid (∀ W, Below W0.heap.size W0 W → Calls Try.prog 49 #[.agg c.toArray, .int .u16 (icK ph m)] W fun e w' => ∃ v, e = .returned v ∧ OB W.heap.size W w' v (icL ph m)) := fun W hW => Rbytes_calls c m _ hkr W (hm.on (hB0.trans (hW.mono hB0.size))) (by omega)
  have hF0 : Fit (icH m 0 ++ m.body) := by
    obtain ⟨vb, _, hb⟩ := hm.val
    exact (icH_fit hm (by decide)).append hb.fit
  have hl0 : (icH m 0 ++ m.body).length = 8 + m.body.length := by rw [List.length_append]; rfl
  have HOF : Hid (∀ W u, Below W0.heap.size W0 W → OB W0.heap.size W0 W u (icH m 0 ++ m.body) → Calls Try.prog 50 #[.slice (some ⟨W.heap.size, 0, none⟩) 2 2] (W.alloc (.cells #[hv, u] 24)) fun e w' => ∃ q, e = .returned q ∧ (q = .int .u16 (icK ph m) ∧ Below W.heap.size W w')) := fun W u hW hu => (ROf_calls _ _ _ _ _ (parts_two W _ _ 24 _ _ (hh.later (hB0.trans (hW.mono hB0.size))) (own_bytes hu.own hF0 (by rw [hl0]; omega))) (by
      have h1 := hph (8 + (m.body.length : Int))
      simp [hl0, icH]
      omega)).mono (fun e w' h => ⟨_, h.1, by rw [icK_eq], ((Below.refl _ W).alloc (Nat.le_refl _) _).trans (h.2.mono (by simp))⟩)
  have HB : Hid _ := hB0
  obtain ⟨ah, kh, rfl, _⟩ := hh.val
  have hx0 : Below W0.heap.size W0 W0 := Below.refl _ _
  have hSL : Hid (∀ W u, OB W0.heap.size W0 W u (icH m 0 ++ m.body) → ∃ x n k, u = .slice x n k) := fun W u hu => by
    obtain ⟨a, k, e, _⟩ := (own_bytes hu.own hF0 (by rw [hl0]; omega)).val
    exact ⟨_, _, _, e⟩
  clear hb0 hB0 hm hh hkr hF0 hl0 hph hfit
  generalize icL ph m = zL at *
  generalize icK ph m = ck at *
  generalize icH m 0 ++ m.body = z0 at *
  generalize (ph (8 + (m.body.length : Int))).length = pl at *
  go_enter Try.func36, Try.ntmps36
  go_wp2_with fail
  have hd0 : Below W0.heap.size W0 W0.drew := hx0.drew
  refine wp_region_held (S := fun W => Below W0.heap.size W0 W) (by kernel_rfl) ?_
  show wpAnyH _ _ _ _ _ 8 (Array.replicate 8 false) _ W0.drew
  refine take_one (i := 0) (d := some 5) (v := .agg c.toArray) rfl rfl rfl (by kernel_rfl) (by kernel_rfl) (by kernel_rfl) (fun _ _ d _ _ h => by cases d <;> exact h) (fun W hS => ex_loadv (.tmp 2) 26 rfl rfl (HC.out W hS)) hd0 ?_
  simp only [Act.put, List.setIfInBounds_toArray, List.set_cons_zero, List.set_cons_succ]
  refine take_one (i := 1) (d := some 6) (v := .slice ah pl kh) rfl rfl rfl (by kernel_rfl) (by kernel_rfl) (by kernel_rfl) (fun _ _ d _ _ h => by cases d <;> exact h) (fun W hS => ex_move (.tmp 1) rfl rfl) hd0 ?_
  simp only [Act.put, List.setIfInBounds_toArray, List.set_cons_zero, List.set_cons_succ]
  refine take_one (i := 2) (d := some 7) (v := .agg c.toArray) rfl rfl rfl (by kernel_rfl) (by kernel_rfl) (by kernel_rfl) (fun _ _ d _ _ h => by cases d <;> exact h) (fun W hS => ex_loadv (.tmp 2) 26 rfl rfl (HC.out W hS)) hd0 ?_
  simp only [Act.put, List.setIfInBounds_toArray, List.set_cons_zero, List.set_cons_succ]
  refine all_one (i := 3) (by kernel_rfl) rfl rfl ?_
  refine wp_call (d := some 8) 49 _ rfl (by kernel_rfl) (HB1.out _ hd0) ?_
  rintro u1 w1 hu1
  have hx1 := hd0.trans (hu1.bel.mono hd0.size)
  have ho1 : OB W0.heap.size W0 w1 u1 z0 := hu1.lower hd0 hd0.size
  refine ⟨hx1, ?_⟩
  simp only [Act.put, List.setIfInBounds_toArray, List.set_cons_zero, List.set_cons_succ]
  have hxa := hx1.alloc hx1.size (.cells #[.slice ah pl kh, u1] 24)
  refine all_one (i := 4) (by kernel_rfl) rfl rfl ?_
  refine wp_parts2 (d := some 9) (.tmp 6) (.tmp 8) rfl rfl rfl rfl ⟨_, _, _, rfl⟩ (hSL.out _ _ ho1) ⟨hxa, ?_⟩
  simp only [Act.put, List.setIfInBounds_toArray, List.set_cons_zero, List.set_cons_succ]
  refine all_one (i := 5) (by kernel_rfl) rfl rfl ?_
  refine wp_call (d := some 10) 50 _ rfl (by kernel_rfl) (HOF.out _ _ hx1 ho1) ?_
  rintro _ w2 ⟨rfl, hb2⟩
  have hx2 := hx1.trans (hb2.mono hx1.size)
  refine ⟨hx2, ?_⟩
  simp only [Act.put, List.setIfInBounds_toArray, List.set_cons_zero, List.set_cons_succ]
  refine all_one (i := 6) (by kernel_rfl) rfl rfl ?_
  refine wp_call (d := some 11) 49 _ rfl (by kernel_rfl) (HB2.out _ hx2) ?_
  rintro u3 w3 hu3
  have hx3 := hx2.trans (hu3.bel.mono hx2.size)
  have HO : Hid (OB w.heap.size w w3 u3 zL) := (hu3.lower hx2 hx2.size).lower HB.out HB.out.size
  refine ⟨hx3, ?_⟩
  simp only [Act.put, List.setIfInBounds_toArray, List.set_cons_zero, List.set_cons_succ]
  refine take_one (i := 7) (d := some 4) (v := u3) rfl rfl rfl (by kernel_rfl) (by kernel_rfl) (by kernel_rfl) (fun _ _ d _ _ h => by cases d <;> exact h) (fun W hS => ex_assign (.tmp 11) rfl rfl) hx3 ?_
  simp only [Act.put, List.setIfInBounds_toArray, List.set_cons_zero, List.set_cons_succ]
  refine wpAnyH_done (by kernel_rfl) ?_ _
  go_wp2
  go_ret
  exact ⟨_, rfl, HO.out⟩

set_option maxHeartbeats 1000000 in
set_option maxRecDepth 100000 in
theorem long_calls (c : List Value) (m : Msg) (w : World) (hm : MsgC w c m) :
    Calls Try.prog 35 #[.agg c.toArray] w fun e w' => e = .returned (.bool (decide (65527 < (m.body.length : Int)))) ∧ Below w.heap.size w w' := by
  obtain ⟨⟨vb, rfl, hd⟩, ft, fc, fr⟩ := hm
  have HB0 : Hid _ := (Below.refl w.heap.size w).alloc (Nat.le_refl _) (.cells [.int .u8 m.ty, .int .u8 m.code, .int .u32 m.rest, vb].toArray 26)
  obtain ⟨ad, cd, rfl, _⟩ := hd.val
  clear hd
  go_enter Try.func35, Try.ntmps35
  go_wp2
  go_ret
  exact ⟨rfl, HB0.out⟩
set_option maxHeartbeats 1000000 in
set_option maxRecDepth 100000 in
theorem RWrite4_any (c : List Value) (m : Msg) (w : World) (hm : MsgC w c m) :
    Calls Try.prog 11 #[.agg c.toArray] w (Wrote2 w (icB phN m) (icE m)) := by
  have hb0 := blk_new w (.cells c.toArray 26)
  have hB0 := (Below.refl w.heap.size w).alloc (Nat.le_refl _) (.cells c.toArray 26)
  obtain ⟨W0, hW0⟩ : ∃ W0, w.alloc (.cells c.toArray 26) = W0 := ⟨_, rfl⟩
  rw [hW0] at hb0 hB0
  have HC : Hid (∀ W, Below W0.heap.size W0 W → (Instr.loadAt 26 (.pointer (some ⟨w.heap.size, 0, none⟩))).run Try.prog W = .ok (.agg c.toArray) W) := fun W hS => agg_load Try.isAgg26 Try.sizeOf26 hm.len (CellsAt.of_blk (blk_on hb0 hS))
  have HLO : Hid _ := long_calls c m W0 (hm.on hB0)
  have HB0 : Hid _ := hB0
  have hx0 : Below W0.heap.size W0 W0 := Below.refl _ _
  by_cases hn : 8 + m.body.length ≤ 65535
  · have e1 : icB phN m = icL phN m := if_pos hn
    have e2 : icE m = 0 := if_pos hn
    have q : decide (65527 < (m.body.length : Int)) = false := by simp; omega
    have HW : Hid (∀ W, Below W0.heap.size W0 W → Calls Try.prog 36 #[.agg c.toArray, .slice none 0 0] W fun e w' => ∃ v, e = .returned v ∧ OB W.heap.size W w' v (icL phN m)) := fun W hW => Rwrite_calls phN (fun _ => by simp [phN]) (fun n _ => phN_fit n) c m _ W (hm.on (hB0.trans (hW.mono hB0.size))) hn (BytesAt.none W)
    rw [e1, e2]
    rw [q] at HLO
    clear hb0 hB0 hm e1 e2 q hn
    generalize icL phN m = zs at *
    go_enter Try.func11, Try.ntmps11
    go_wp2_with first
      | ((with_reducible show wpList _ _ _ _ _ _); refine arm_load rfl (.tmp 1) 26 rfl rfl (HC.out _ hx0) ?_)
    refine Calls.mono HLO.out ?_
    rintro _ w1 ⟨rfl, hb1⟩
    go_wp2_with first
      | ((with_reducible show wpList _ _ _ _ _ _); refine arm_load rfl (.tmp 1) 26 rfl rfl (HC.out _ hb1) ?_)
    refine Calls.mono (HW.out _ hb1) ?_
    rintro _ w2 ⟨v, rfl, h1⟩
    have H1 : Hid (OB w.heap.size w w2 v zs) := (h1.lower hb1 hb1.size).lower HB0.out HB0.out.size
    clear h1 HW
    go_wp2
    go_ret2
    exact ⟨_, rfl, H1.out⟩
  · have e1 : icB phN m = [] := if_neg hn
    have e2 : icE m = 2 := if_neg hn
    have q : decide (65527 < (m.body.length : Int)) = true := by simp; omega
    rw [e1, e2]
    rw [q] at HLO
    clear hb0 hB0 hm e1 e2 q hn
    go_enter Try.func11, Try.ntmps11
    go_wp2_with first
      | ((with_reducible show wpList _ _ _ _ _ _); refine arm_load rfl (.tmp 1) 26 rfl rfl (HC.out _ hx0) ?_)
    refine Calls.mono HLO.out ?_
    rintro _ w1 ⟨rfl, hb1⟩
    have HX : Hid _ := HB0.out.trans (hb1.mono HB0.out.size)
    clear hb1
    go_wp2
    go_ret2
    exact ⟨_, rfl, OB.none w w1 HX.out⟩
set_option maxHeartbeats 2000000 in
set_option maxRecDepth 100000 in
theorem RWrite6_any (A B : List Int) (hA : A.length = 16) (hB : B.length = 16) (fa : Fit A) (fb : Fit B) (c : List Value) (m : Msg) (w : World) (hm : MsgC w c m) :
    Calls Try.prog 13 #[.agg (u8L A).toArray, .agg (u8L B).toArray, .agg c.toArray] w (Wrote2 w (icB (ph6I A B) m) (icE m)) := by
  obtain ⟨W0, hW0⟩ : ∃ W0, ((w.alloc (.cells (u8L A).toArray 59)).alloc (.cells (u8L B).toArray 59)).alloc (.cells c.toArray 26) = W0 := ⟨_, rfl⟩
  have b0 := blk_new w (.cells (u8L A).toArray 59)
  have b1 := blk_new (w.alloc (.cells (u8L A).toArray 59)) (.cells (u8L B).toArray 59)
  have b2 := blk_new ((w.alloc (.cells (u8L A).toArray 59)).alloc (.cells (u8L B).toArray 59)) (.cells c.toArray 26)
  have b0' := blk_alloc (blk_alloc b0 (.cells (u8L B).toArray 59)) (.cells c.toArray 26)
  have b1' := blk_alloc b1 (.cells c.toArray 26)
  have hb : Below w.heap.size w (((w.alloc (.cells (u8L A).toArray 59)).alloc (.cells (u8L B).toArray 59)).alloc (.cells c.toArray 26)) := (((Below.refl _ w).alloc (Nat.le_refl _) _).alloc (by simp) _).alloc (by simp <;> omega) _
  rw [hW0] at b0' b1' b2 hb
  have s1 : (w.alloc (.cells (u8L A).toArray 59)).heap.size = w.heap.size + 1 := by simp
  have s2 : ((w.alloc (.cells (u8L A).toArray 59)).alloc (.cells (u8L B).toArray 59)).heap.size = w.heap.size + 1 + 1 := by simp
  rw [s1] at b1'
  rw [s2] at b2
  have HA : Hid (∀ W, Below W0.heap.size W0 W → (Instr.loadAt 59 (.pointer (some ⟨w.heap.size, 0, none⟩))).run Try.prog W = .ok (.agg (u8L A).toArray) W) := fun W hS => agg_load Try.isAgg59 Try.sizeOf59 (by simp [u8L, hA]) (CellsAt.of_blk (blk_on b0' hS))
  have HBB : Hid (∀ W, Below W0.heap.size W0 W → (Instr.loadAt 59 (.pointer (some ⟨w.heap.size + 1, 0, none⟩))).run Try.prog W = .ok (.agg (u8L B).toArray) W) := fun W hS => agg_load Try.isAgg59 Try.sizeOf59 (by simp [u8L, hB]) (CellsAt.of_blk (blk_on b1' hS))
  have HC : Hid (∀ W, Below W0.heap.size W0 W → (Instr.loadAt 26 (.pointer (some ⟨w.heap.size + 1 + 1, 0, none⟩))).run Try.prog W = .ok (.agg c.toArray) W) := fun W hS => agg_load Try.isAgg26 Try.sizeOf26 hm.len (CellsAt.of_blk (blk_on b2 hS))
  have HLO : Hid _ := long_calls c m W0 (hm.on hb)
  have HB0 : Hid _ := hb
  have hx0 : Below W0.heap.size W0 W0 := Below.refl _ _
  by_cases hn : 8 + m.body.length ≤ 65535
  · have e1 : icB (ph6I A B) m = icL (ph6I A B) m := if_pos hn
    have e2 : icE m = 0 := if_pos hn
    have q : decide (65527 < (m.body.length : Int)) = false := by simp; omega
    have HW : Hid (∀ W hv, Below W0.heap.size W0 W → BytesAt W.heap.size W hv (ph6I A B (8 + (m.body.length : Int))) → Calls Try.prog 36 #[.agg c.toArray, hv] W fun e w' => ∃ v, e = .returned v ∧ OB W.heap.size W w' v (icL (ph6I A B) m)) := fun W hv hW hh => Rwrite_calls (ph6I A B) (fun _ => by simp [ph6I, ph6, hA, hB]) (ph6I_fit fa fb) c m _ W (hm.on (hb.trans (hW.mono hb.size))) hn hh
    have HPS : Hid (∀ W, Calls Try.prog 38 #[.agg (u8L A).toArray, .agg (u8L B).toArray, .int .u8 58, .int .i64 (8 + (m.body.length : Int))] W fun e w' => ∃ v, e = .returned (.tuple #[v, .int .i64 0]) ∧ BytesAt w'.heap.size w' v (ph6I A B (8 + (m.body.length : Int))) ∧ Below W.heap.size W w') := fun W => pseudo6_list_ref A B hA hB fa fb 58 _ (by decide) (by omega) W
    obtain ⟨vb, hcc, hvb⟩ := hm.val
    obtain ⟨ab, kb, rfl, _⟩ := hvb.val
    have K3 : Hid (∀ W, Below W0.heap.size W0 W → W.cell? ⟨w.heap.size + 1 + 1, 3, none⟩ = some (.slice ab m.body.length kb)) := fun W hW => blk_cell (j := 3) (blk_on b2 hW) (by rw [hcc]; rfl)
    rw [e1, e2]
    rw [q] at HLO
    clear b0 b1 b2 b0' b1' hb s1 s2 hm e1 e2 q hcc hvb fa fb hA hB
    generalize icL (ph6I A B) m = zs at *
    generalize ph6I A B = ph at *
    generalize u8L A = xA at *
    generalize u8L B = xB at *
    go_enter Try.func13, Try.ntmps13
    go_wp2_with first
      | ((with_reducible show wpList _ _ _ _ _ _); refine arm_load rfl (.tmp 5) 26 rfl rfl (HC.out _ hx0) ?_)
    refine Calls.mono HLO.out ?_
    rintro _ w1 ⟨rfl, hb1⟩
    have k3 := K3.out w1 hb1
    go_wp2_with first
      | ((with_reducible show wpList _ _ _ _ _ _); refine arm_load rfl (.tmp 3) 59 rfl rfl (HA.out _ hb1) ?_)
      | ((with_reducible show wpList _ _ _ _ _ _); refine arm_load rfl (.tmp 4) 59 rfl rfl (HBB.out _ hb1) ?_)
    refine Calls.mono (HPS.out _) ?_
    rintro _ w2 ⟨hv, rfl, hh, hb2⟩
    have hx2 := hb1.trans (hb2.mono hb1.size)
    have HW2 : Hid _ := HW.out w2 hv hx2 hh
    obtain ⟨ah, kh, rfl, _⟩ := hh.val
    clear hh HW HPS k3
    go_wp2_with first
      | ((with_reducible show wpList _ _ _ _ _ _); refine arm_load rfl (.tmp 5) 26 rfl rfl (HC.out _ hx2) ?_)
    refine Calls.mono HW2.out ?_
    rintro _ w3 ⟨v, rfl, h1⟩
    have H1 : Hid (OB w.heap.size w w3 v zs) := (h1.lower hx2 hx2.size).lower HB0.out HB0.out.size
    clear h1 HW2
    go_wp2
    go_ret2
    exact ⟨_, rfl, H1.out⟩
  · have e1 : icB (ph6I A B) m = [] := if_neg hn
    have e2 : icE m = 2 := if_neg hn
    have q : decide (65527 < (m.body.length : Int)) = true := by simp; omega
    rw [e1, e2]
    rw [q] at HLO
    clear b0 b1 b2 b0' b1' hb s1 s2 hm e1 e2 q hn fa fb hA hB
    generalize u8L A = xA at *
    generalize u8L B = xB at *
    go_enter Try.func13, Try.ntmps13
    go_wp2_with first
      | ((with_reducible show wpList _ _ _ _ _ _); refine arm_load rfl (.tmp 5) 26 rfl rfl (HC.out _ hx0) ?_)
    refine Calls.mono HLO.out ?_
    rintro _ w1 ⟨rfl, hb1⟩
    have HX : Hid _ := HB0.out.trans (hb1.mono HB0.out.size)
    clear hb1
    go_wp2
    go_ret2
    exact ⟨_, rfl, OB.none w w1 HX.out⟩

end Go.Proofs.Ytljmamogefgiaaa
