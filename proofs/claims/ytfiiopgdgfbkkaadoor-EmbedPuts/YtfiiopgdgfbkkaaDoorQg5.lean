/-
  Package embed: the document's Pair; the statement EmbedPuts for every argument.
-/
import Derived.Test.YtfiiopgdgfbkkaaDoorQg4
namespace Go.Proofs.YtfiiopgdgfbkkaaDoor
open Go Go.RowKit Go.ChangeShapes Go.WideShapes Go.ChangeAt
set_option linter.unusedVariables false
set_option linter.unusedSimpArgs false

set_option maxHeartbeats 6000000 in
set_option maxRecDepth 100000 in
theorem RPair_any (l a b : List Int) (n : Int) (w : World) (hl : l.length = 16) (hf : FitB l) (hn : -9223372036854775808 ≤ n ∧ n ≤ 9223372036854775807) (ha : a.length = 4) (fa : FitB a) (hb : b.length = 4) (fb : FitB b) :
    Calls Tryd.prog 12 #[P6 l n, A4L a, A4L b] w fun e w' => PutPost (pairE l n a b) w e w' := by
  generalize hQ : (fun e w' => PutPost (pairE l n a b) w e w') = Q
  have HQ : Hid _ := hQ
  clear hQ
  obtain ⟨hb0, hb1, hb2, hb3, hb4, hBw, hz⟩ := boxes5 w (cp6 l n) (b8 a) (b8 b) zero16V zero16V 25 27 27 23 23
  generalize hW : ((((w.alloc (.cells (cp6 l n).toArray 25)).alloc (.cells (b8 a).toArray 27)).alloc (.cells (b8 b).toArray 27)).alloc (.cells zero16V.toArray 23)).alloc (.cells zero16V.toArray 23) = W2 at *
  have HLP : Hid _ := loadP6 hl (CellsAt.pfx hl hb0).1
  have HZ : Hid _ := hz
  have HC : Hid _ := fun W => RCheckE_any l n W hf hl hn
  have HPA : Hid _ := fun W => RPut_any l n a W hf hl hn ha fa
  have HPB : Hid _ := fun W => RPut_any l n b W hf hl hn hb fb
  clear hz
  go_enter Tryd.func12, Tryd.ntmps12
  go_wp2_with ((with_reducible show wpList _ _ _ _ _ _); refine armL (.tmp 3) 25 rfl rfl rfl HLP.out ?_)
  refine (HC.out W2).mono ?_
  rintro e w4 ⟨rfl, hB24⟩
  have hz := HZ.out
  have m0 := (hB24.block w.heap.size (by omega)).trans hb0
  have m1 := (hB24.block (w.heap.size + 1) (by omega)).trans hb1
  have m2 := (hB24.block (w.heap.size + 2) (by omega)).trans hb2
  have m3 := (hB24.block (w.heap.size + 3) (by omega)).trans hb3
  have m4 := (hB24.block (w.heap.size + 4) (by omega)).trans hb4
  have hBw4 := hBw.trans (hB24.mono (by omega))
  have hz4 : w.heap.size + 5 ≤ w4.heap.size := by have := hB24.size; omega
  clear HLP HC hW hb0 hb1 hb2 hb3 hb4 hBw hB24 hz HZ
  by_cases h0 : chkE l n = 0
  · have hpa : putE l n a = AE6 (putL l n a) 0 := by unfold putE; rw [if_pos h0, h0]
    have hpb : putE l n b = AE6 (putL l n b) 0 := by unfold putE; rw [if_pos h0, h0]
    rw [hpa] at HPA
    rw [hpb] at HPB
    have hyl : (putL l n b).length = 16 := by unfold putL; rw [putK_length, hl]
    have hxl : (putL l n a).length = 16 := by unfold putL; rw [putK_length, hl]
    have HPE : Hid (pairE l n a b = if (knownB l n && !(globB a && globB b)) = true then pairV zeroA6 zeroA6 83 else pairV (putL l n a) (putL l n b) 0) := by
      have e : pairErr l n a b = if (knownB l n && !(globB a && globB b)) = true then 83 else 0 := by unfold pairErr; rw [if_neg (by simpa using h0)]
      unfold pairE
      rw [e]
      split <;> rfl
    have G1 : Hid (∀ y : Hi w4, Calls Tryd.prog 21 #[A4L a] y.W fun e w' => e = .returned (.bool (globB a)) ∧ Below y.W.heap.size y.W w') := fun y => RGlobal_any a y.W ha fa
    have G2 : Hid (∀ y : Hi w4, Calls Tryd.prog 21 #[A4L b] y.W fun e w' => e = .returned (.bool (globB b)) ∧ Below y.W.heap.size y.W w') := fun y => RGlobal_any b y.W hb fb
    have K1 : Hid (∀ y : Hi w4, Calls Tryd.prog 23 #[] y.W fun e w' => e = .returned (P6 kP2A 96) ∧ Below y.W.heap.size y.W w') := fun y => RKnown_any y.W
    have L3 : Hid (∀ y : Hi w4, (Instr.loadAt 25 (.pointer (some ⟨w.heap.size, 0, none⟩))).run Tryd.prog y.W = .ok (P6 l n) y.W) := fun y => loadP6 hl (CellsAt.pfx hl (Hi.blk m0 y)).1
    have L4 : Hid (∀ y : Hi w4, (Instr.loadAt 27 (.pointer (some ⟨w.heap.size + 1, 0, none⟩))).run Tryd.prog y.W = .ok (A4L a) y.W) := fun y => agg_load Tryd.isAgg27 Tryd.sizeOf27 (by rw [b8_length, ha]) (CellsAt.of_blk (Hi.blk m1 y))
    have L5 : Hid (∀ y : Hi w4, (Instr.loadAt 27 (.pointer (some ⟨w.heap.size + 1 + 1, 0, none⟩))).run Tryd.prog y.W = .ok (A4L b) y.W) := fun y => agg_load Tryd.isAgg27 Tryd.sizeOf27 (by rw [b8_length, hb]) (CellsAt.of_blk (Hi.blk m2 y))
    have EQ : Hid _ := fun W => eqlP6_known l n hf hl W
    rw [h0]
    clear hpa hpb h0
    generalize putL l n a = x at *
    generalize putL l n b = y at *
    generalize globB a = ga at *
    generalize globB b = gb at *
    generalize knownB l n = kn at *
    have hcases : (kn = false ∧ True ∧ True) ∨ (kn = true ∧ ga = false ∧ True) ∨ (kn = true ∧ ga = true ∧ gb = false) ∨ (kn = true ∧ ga = true ∧ gb = true) := by cases kn <;> cases ga <;> cases gb <;> simp
    have HCA : Hid _ := hcases
    clear hcases
    go_wp2_with fail
    have hcases := HCA.out
    clear HCA
    rcases hcases with h | h | h | h
    all_goals
      obtain ⟨h1, h2, h3⟩ := h
      subst h1
      try subst h2
      try subst h3
      refine wp_region_hi (by kernel_rfl) (by kernel_rfl) ?_
      repeat (first
        | go_big_quiet_skip
        | (go_big_quiet_want; refine hi_load (.tmp 3) 25 rfl rfl L3.out ?_; simp only [Act.put, List.setIfInBounds_toArray, List.set_cons_zero, List.set_cons_succ]; go_big_quiet_on)
        | (go_big_quiet_want; refine hi_load (.tmp 4) 27 rfl rfl L4.out ?_; simp only [Act.put, List.setIfInBounds_toArray, List.set_cons_zero, List.set_cons_succ]; go_big_quiet_on)
        | (go_big_quiet_want; refine hi_load (.tmp 5) 27 rfl rfl L5.out ?_; simp only [Act.put, List.setIfInBounds_toArray, List.set_cons_zero, List.set_cons_succ]; go_big_quiet_on)
        | (go_big_quiet_want; refine hi_bin8 .eql 25 25 (.tmp 21) (.tmp 22) rfl rfl rfl (fun W => gdP6 _ _ _ _ _ W) EQ.out ?_; simp only [Act.put, List.setIfInBounds_toArray, List.set_cons_zero, List.set_cons_succ]; go_big_quiet_on)
        | (go_big_quiet_want; go_big_quiet_op; first | go_big_quiet_on | go_big_quiet_call (first | (go_at_call 23; exact Hi.calls (K1.out _)) | (go_at_call 21; first | with_reducible exact Hi.calls (G1.out _) | with_reducible exact Hi.calls (G2.out _)))))
      refine wpQuiet_nil ?_
      intro _ hw
      obtain ⟨u1, rfl⟩ := hw
      have p0 := Hi.blk m0 u1
      have p1 := Hi.blk m1 u1
      have p2 := Hi.blk m2 u1
      have p3 := Hi.blk m3 u1
      have p4 := Hi.blk m4 u1
      have hBw5 := hBw4.trans (u1.below.mono (by omega))
      have hz5 : w.heap.size + 5 ≤ u1.W.heap.size := by have := u1.below.size; omega
      generalize u1.W = W5 at *
      clear G1 G2 K1 L3 L4 L5 EQ m0 m1 m2 m3 m4
      first
      | (have hpe : pairE l n a b = pairV zeroA6 zeroA6 83 := HPE.out.trans (if_pos (by simp; done))
         rw [hpe] at HQ
         clear hpe HPE HPB HPA
         obtain ⟨V1, V2, s1, s2, v1, v2, hBE, _, _⟩ := two_stores (w := w) (x := zeroA6) (y := zeroA6) rfl rfl p3 p4 hBw5 (by omega)
         have HS1 : Hid _ := s1
         have HS2 : Hid _ := s2
         have HV1 : Hid _ := v1
         have HV2 : Hid _ := v2
         have HBE : Hid _ := hBE
         clear s1 s2 v1 v2 hBE
         go_wp2_with first
           | ((with_reducible show wpList _ _ _ _ _ _); refine armS (.tmp 6) (.tmp 34) 23 rfl rfl rfl rfl HS1.out ?_)
           | ((with_reducible show wpList _ _ _ _ _ _); refine armS (.tmp 7) (.tmp 35) 23 rfl rfl rfl rfl HS2.out ?_)
         refine bodyPost_ret (res3cc Tryd.results12 rfl rfl HV1.out HV2.out) rfl ?_
         rw [← HQ.out]
         exact ⟨rfl, HBE.out⟩)
      | (have hpe : pairE l n a b = pairV x y 0 := HPE.out.trans (if_neg (by simp; done))
         rw [hpe] at HQ
         clear hpe HPE
         have HLP5 : Hid _ := loadP6 hl (CellsAt.pfx hl p0).1
         have HLA5 : Hid _ := agg_load (t := 27) Tryd.isAgg27 Tryd.sizeOf27 (vs := b8 a) (by rw [b8_length, ha]) (CellsAt.of_blk p1)
         go_wp2_with first
           | ((with_reducible show wpList _ _ _ _ _ _); refine armL (.tmp 3) 25 rfl rfl rfl HLP5.out ?_)
           | ((with_reducible show wpList _ _ _ _ _ _); refine armL (.tmp 4) 27 rfl rfl rfl HLA5.out ?_)
         refine (HPA.out W5).mono ?_
         rintro e w3 ⟨rfl, hB3⟩
         unfold AE6
         obtain ⟨w8, hst8, b8_, hB8⟩ := box_new Tryd.sizeOf23 w3 zero16V rfl (u8s x) (by rw [u8s_length, hxl]) (u8s_one _)
         have HS8 : Hid _ := hst8
         have hB58 := hB3.trans (hB8.mono hB3.size)
         have q0 := (hB58.block w.heap.size (by omega)).trans p0
         have q2 := (hB58.block (w.heap.size + 2) (by omega)).trans p2
         have q3 := (hB58.block (w.heap.size + 3) (by omega)).trans p3
         have q4 := (hB58.block (w.heap.size + 4) (by omega)).trans p4
         have hBw8 := hBw5.trans (hB58.mono (by omega))
         have hz8 : w.heap.size + 5 ≤ w8.heap.size := by have := hB58.size; omega
         have hs3 : w.heap.size + 5 ≤ w3.heap.size := by have := hB3.size; omega
         have hlt8 : w3.heap.size < w8.heap.size := (Array.getElem?_eq_some_iff.1 b8_).1
         have HLP8 : Hid _ := loadP6 hl (CellsAt.pfx hl q0).1
         have HLB8 : Hid _ := agg_load (t := 27) Tryd.isAgg27 Tryd.sizeOf27 (vs := b8 b) (by rw [b8_length, hb]) (CellsAt.of_blk q2)
         clear hst8 HLP5 HLA5 HPA p0 p1 p2 p3 p4 hB3 hB8 hB58
         go_wp2_with first
           | ((with_reducible show wpList _ _ _ _ _ _); refine armS (.tmp 10) (.tmp 40) 23 rfl rfl rfl rfl HS8.out ?_)
           | ((with_reducible show wpList _ _ _ _ _ _); refine armL (.tmp 3) 25 rfl rfl rfl HLP8.out ?_)
           | ((with_reducible show wpList _ _ _ _ _ _); refine armL (.tmp 5) 27 rfl rfl rfl HLB8.out ?_)
         refine (HPB.out w8).mono ?_
         rintro e w6 ⟨rfl, hB6⟩
         unfold AE6
         obtain ⟨w7, hst7, b7, hB7⟩ := box_new Tryd.sizeOf23 w6 zero16V rfl (u8s y) (by rw [u8s_length, hyl]) (u8s_one _)
         have HS7 : Hid _ := hst7
         have hB57 := hB6.trans (hB7.mono hB6.size)
         have r3 := (hB57.block (w.heap.size + 3) (by omega)).trans q3
         have r4 := (hB57.block (w.heap.size + 4) (by omega)).trans q4
         have r9 := (hB57.block w3.heap.size hlt8).trans b8_
         have hBw7 := hBw8.trans (hB57.mono (by omega))
         have hs6 : w.heap.size + 5 ≤ w6.heap.size := by have := hB6.size; omega
         have hne : w3.heap.size ≠ w6.heap.size := by have := hB6.size; omega
         clear hst7 HLP8 HLB8 HPB q0 q2 q3 q4 hB6 hB7 hB57 HS8
         go_wp2_with ((with_reducible show wpList _ _ _ _ _ _); refine armS (.tmp 12) (.tmp 46) 23 rfl rfl rfl rfl HS7.out ?_)
         refine wp_region_held (S := (fun W => W.heap[w3.heap.size]? = some (.cells (u8s x).toArray 23) ∧ W.heap[w6.heap.size]? = some (.cells (u8s y).toArray 23))) (by kernel_rfl) ?_
         show wpAnyH _ _ _ _ _ 5 (Array.replicate 5 false) _ _
         refine take_one (i := 0) (d := some 48) (v := (A6 x)) rfl rfl rfl (by kernel_rfl) (by kernel_rfl) (by kernel_rfl) (fun _ _ d _ _ h => by cases d <;> exact h) (fun W hS => ex_loadA (.tmp 10) 23 rfl rfl (load6 hxl (CellsAt.of_blk hS.1))) ⟨r9, b7⟩ ?_
         simp only [Act.put, List.setIfInBounds_toArray, List.set_cons_zero, List.set_cons_succ]
         refine take_one (i := 1) (d := some 49) (v := (A6 y)) rfl rfl rfl (by kernel_rfl) (by kernel_rfl) (by kernel_rfl) (fun _ _ d _ _ h => by cases d <;> exact h) (fun W hS => ex_loadA (.tmp 12) 23 rfl rfl (load6 hyl (CellsAt.of_blk hS.2))) ⟨r9, b7⟩ ?_
         simp only [Act.put, List.setIfInBounds_toArray, List.set_cons_zero, List.set_cons_succ]
         obtain ⟨V1, V2, s1, s2, v1, v2, hBE, o1, o2⟩ := two_stores (w := w) (W := w7.drew) (x := x) (y := y) hxl hyl r3 r4 hBw7.drew (by omega)
         have HS1 : Hid _ := s1
         have HS2 : Hid _ := s2
         have HV1 : Hid _ := v1
         have HV2 : Hid _ := v2
         have HBE : Hid _ := hBE
         have t9 := (o1.other w3.heap.size (by omega)).trans r9
         have t7 := (o1.other w6.heap.size (by omega)).trans b7
         have u9 := (o2.other w3.heap.size (by omega)).trans t9
         have u7 := (o2.other w6.heap.size (by omega)).trans t7
         refine all_one (i := 2) (by kernel_rfl) rfl rfl ?_
         refine wp_storeA (.tmp 6) (.tmp 48) 23 rfl rfl rfl rfl HS1.out ?_
         refine ⟨⟨t9, t7⟩, ?_⟩
         refine all_one (i := 3) (by kernel_rfl) rfl rfl ?_
         refine wp_storeA (.tmp 7) (.tmp 49) 23 rfl rfl rfl rfl HS2.out ?_
         refine ⟨⟨u9, u7⟩, ?_⟩
         refine take_one (i := 4) (d := some 8) (v := .int .i64 0) rfl rfl rfl (by kernel_rfl) (by kernel_rfl) (by kernel_rfl) (fun _ _ d _ _ h => by cases d <;> exact h) (fun W hS => by simp [execOp, go_sem]) ⟨u9, u7⟩ ?_
         refine wpAnyH_done (by kernel_rfl) ?_ _
         simp only [Act.put, List.setIfInBounds_toArray, List.set_cons_zero, List.set_cons_succ]
         go_wp2
         refine bodyPost_ret (res3cc Tryd.results12 rfl rfl HV1.out HV2.out) rfl ?_
         rw [← HQ.out]
         exact ⟨rfl, HBE.out⟩)
  · have hpe : pairE l n a b = pairV zeroA6 zeroA6 (chkE l n) := by
      have e : pairErr l n a b = chkE l n := by unfold pairErr; rw [if_pos h0]
      unfold pairE
      rw [e, if_neg h0, if_neg h0]
    rw [hpe] at HQ
    have q0 : (chkE l n != 0) = true := by simpa using h0
    have p3 := m3
    have p4 := m4
    clear hpe h0 HPB HPA
    generalize chkE l n = ce at *
    obtain ⟨V1, V2, s1, s2, v1, v2, hBE, _, _⟩ := two_stores (w := w) (x := zeroA6) (y := zeroA6) rfl rfl p3 p4 hBw4 (by omega)
    have HS1 : Hid _ := s1
    have HS2 : Hid _ := s2
    have HV1 : Hid _ := v1
    have HV2 : Hid _ := v2
    have HBE : Hid _ := hBE
    clear s1 s2 v1 v2 hBE
    go_wp2_with first
      | ((with_reducible show wpList _ _ _ _ _ _); refine armS (.tmp 6) (.tmp 18) 23 rfl rfl rfl rfl HS1.out ?_)
      | ((with_reducible show wpList _ _ _ _ _ _); refine armS (.tmp 7) (.tmp 19) 23 rfl rfl rfl rfl HS2.out ?_)
    refine bodyPost_ret (res3cc Tryd.results12 rfl rfl HV1.out HV2.out) rfl ?_
    rw [← HQ.out]
    exact ⟨rfl, HBE.out⟩

/-- Two new boxes are filled. -/
theorem two_new6 (W : World) {x y : List Int} (hx : x.length = 16) (hy : y.length = 16) :
    ∃ V1 V2, (Instr.storeAt 23 (.pointer (some ⟨W.heap.size, 0, none⟩)) (A6 x)).run Tryd.prog ((W.alloc (.cells zero16V.toArray 23)).alloc (.cells zero16V.toArray 23)) = .ok () V1 ∧ (Instr.storeAt 23 (.pointer (some ⟨W.heap.size + 1, 0, none⟩)) (A6 y)).run Tryd.prog V1 = .ok () V2 ∧
      V2.heap[W.heap.size]? = some (.cells (u8s x).toArray 23) ∧ V2.heap[W.heap.size + 1]? = some (.cells (u8s y).toArray 23) ∧ Below W.heap.size W V2 ∧ W.heap.size + 2 ≤ V2.heap.size := by
  have b3 := blk_alloc (blk_new W (.cells zero16V.toArray 23)) (.cells zero16V.toArray 23)
  have b4 := blk_new (W.alloc (.cells zero16V.toArray 23)) (.cells zero16V.toArray 23)
  have z1 : (W.alloc (.cells zero16V.toArray 23)).heap.size = W.heap.size + 1 := by simp
  rw [z1] at b4
  have hB : Below W.heap.size W ((W.alloc (.cells zero16V.toArray 23)).alloc (.cells zero16V.toArray 23)) := ((Below.refl _ W).alloc (Nat.le_refl _) _).alloc (by simp) _
  obtain ⟨V1, h1, c1, o1⟩ := box_store Tryd.sizeOf23 b3 rfl (u8s x) (by rw [u8s_length, hx]) (u8s_one _)
  obtain ⟨V2, h2, c2, o2⟩ := box_store Tryd.sizeOf23 ((o1.other (W.heap.size + 1) (by omega)).trans b4) rfl (u8s y) (by rw [u8s_length, hy]) (u8s_one _)
  exact ⟨V1, V2, h1, h2, (o2.other W.heap.size (by omega)).trans c1, c2, (hB.trans (o1.below (Nat.le_refl _))).trans (o2.below (by omega)), (Array.getElem?_eq_some_iff.1 c2).1⟩

theorem eqlA6_same (l : List Int) (hl : l.length = 16) (hf : FitB l) (W : World) : (binOp .eql 23 (A6 l) (A6 l)).run Tryd.prog W = .ok (.bool true) W := by
  have h := eqlA6 l l hf hf hl hl W
  rw [decide_eq_true rfl] at h
  exact h

set_option maxHeartbeats 6000000 in
set_option maxRecDepth 100000 in
theorem puts_walk (l a b : List Int) (n : Int) (w : World) (ht : Tz w ∧ Spc w) (hl : l.length = 16) (hf : FitB l) (hn : -9223372036854775808 ≤ n ∧ n ≤ 9223372036854775807) (ha : a.length = 4) (fa : FitB a) (hb : b.length = 4) (fb : FitB b) :
    Calls Tryd.prog 3 #[P6 l n, A4L a, A4L b] w fun e w' => PutPost (.bool true) w e w' := by
  generalize hQ : (fun e w' => PutPost (.bool true) w e w') = Q
  have HQ : Hid _ := hQ
  clear hQ
  obtain ⟨hb0, hb1, hb2, hBw, hz⟩ := boxes3 w (cp6 l n) (b8 a) (b8 b) 25 27 27
  generalize hW : ((w.alloc (.cells (cp6 l n).toArray 25)).alloc (.cells (b8 a).toArray 27)).alloc (.cells (b8 b).toArray 27) = W2 at *
  have hsp2 := ht.2.on hBw
  have htz2 := ht.1.on hBw
  have fz : FitB zeroA6 := fit_of (by decide)
  have hXl : (if chkE l n = 0 then putL l n a else zeroA6).length = 16 := by
    split
    · unfold putL; rw [putK_length, hl]
    · rfl
  have hXf : FitB (if chkE l n = 0 then putL l n a else zeroA6) := by
    split
    · exact putK_fit hf fa _ _
    · exact fz
  have hCl : (if pairErr l n a b = 0 then putL l n a else zeroA6).length = 16 := by
    split
    · unfold putL; rw [putK_length, hl]
    · rfl
  have hCf : FitB (if pairErr l n a b = 0 then putL l n a else zeroA6) := by
    split
    · exact putK_fit hf fa _ _
    · exact fz
  have hDl : (if pairErr l n a b = 0 then putL l n b else zeroA6).length = 16 := by
    split
    · unfold putL; rw [putK_length, hl]
    · rfl
  have hDf : FitB (if pairErr l n a b = 0 then putL l n b else zeroA6) := by
    split
    · exact putK_fit hf fb _ _
    · exact fz
  have h1 := fun W => Put_any l n a W hf hl hn ha fa
  have h2 := fun W => RPut_any l n a W hf hl hn ha fa
  have h3 := fun W (hb' : Below W2.heap.size W2 W) => Pair_any l a b n W (hsp2.on hb') hl hf hn ha fa hb fb
  have h4 := fun W => RPair_any l a b n W hl hf hn ha fa hb fb
  have h5 := fun W => Check_any l n W hf hl hn
  have h6 := fun W => RCheckE_any l n W hf hl hn
  unfold putE AE6 at h1 h2
  unfold pairE pairV at h3 h4
  generalize (if chkE l n = 0 then putL l n a else zeroA6) = x at *
  generalize (if pairErr l n a b = 0 then putL l n a else zeroA6) = c at *
  generalize (if pairErr l n a b = 0 then putL l n b else zeroA6) = d at *
  generalize chkE l n = ce at *
  generalize pairErr l n a b = pe at *
  have HLP : Hid (∀ W, Below W2.heap.size W2 W → (Instr.loadAt 25 (.pointer (some ⟨w.heap.size, 0, none⟩))).run Tryd.prog W = .ok (P6 l n) W) := fun W hb' => loadP6 hl (CellsAt.pfx hl ((hb'.block w.heap.size (by omega)).trans hb0)).1
  have HLA : Hid (∀ W, Below W2.heap.size W2 W → (Instr.loadAt 27 (.pointer (some ⟨w.heap.size + 1, 0, none⟩))).run Tryd.prog W = .ok (A4L a) W) := fun W hb' => agg_load Tryd.isAgg27 Tryd.sizeOf27 (by rw [b8_length, ha]) (CellsAt.of_blk ((hb'.block (w.heap.size + 1) (by omega)).trans hb1))
  have HLB : Hid (∀ W, Below W2.heap.size W2 W → (Instr.loadAt 27 (.pointer (some ⟨w.heap.size + 1 + 1, 0, none⟩))).run Tryd.prog W = .ok (A4L b) W) := fun W hb' => agg_load Tryd.isAgg27 Tryd.sizeOf27 (by rw [b8_length, hb]) (CellsAt.of_blk ((hb'.block (w.heap.size + 2) (by omega)).trans hb2))
  have H1 : Hid _ := h1
  have H2 : Hid _ := h2
  have H3 : Hid _ := h3
  have H4 : Hid _ := h4
  have H5 : Hid _ := h5
  have H6 : Hid _ := h6
  have HBW : Hid _ := hBw
  have HTZ : Hid (Tz W2) := htz2
  have hw2 : w.heap.size ≤ W2.heap.size := by omega
  clear h1 h2 h3 h4 h5 h6 hz ht hb0 hb1 hb2 hBw hsp2 htz2
  have P0 : Hid _ := HLP.out W2 (Below.refl _ _)
  have A0 : Hid _ := HLA.out W2 (Below.refl _ _)
  go_enter Tryd.func3, Tryd.ntmps3
  go_wp2_with first
    | ((with_reducible show wpList _ _ _ _ _ _); refine armL (.tmp 3) 25 rfl rfl rfl P0.out ?_)
    | ((with_reducible show wpList _ _ _ _ _ _); refine armL (.tmp 4) 27 rfl rfl rfl A0.out ?_)
  refine (H1.out W2).mono ?_
  rintro e w3 ⟨rfl, hB3⟩
  obtain ⟨w4, hst4, b4, hB4⟩ := box_new Tryd.sizeOf23 w3 zero16V rfl (u8s x) (by rw [u8s_length, hXl]) (u8s_one _)
  have HS4 : Hid _ := hst4
  have hB24 := hB3.trans (hB4.mono hB3.size)
  have hlt4 : w3.heap.size < w4.heap.size := (Array.getElem?_eq_some_iff.1 b4).1
  have P4_ : Hid _ := HLP.out w4 hB24
  have A4_ : Hid _ := HLA.out w4 hB24
  clear hst4 P0 A0 H1 hW hB3 hB4
  go_wp2_with first
    | ((with_reducible show wpList _ _ _ _ _ _); refine armS (.tmp 7) (.tmp 21) 23 rfl rfl rfl rfl HS4.out ?_)
    | ((with_reducible show wpList _ _ _ _ _ _); refine armL (.tmp 3) 25 rfl rfl rfl P4_.out ?_)
    | ((with_reducible show wpList _ _ _ _ _ _); refine armL (.tmp 4) 27 rfl rfl rfl A4_.out ?_)
  refine (H2.out w4).mono ?_
  rintro e w5 ⟨rfl, hB5⟩
  obtain ⟨w6, hst6, b6, hB6⟩ := box_new Tryd.sizeOf23 w5 zero16V rfl (u8s x) (by rw [u8s_length, hXl]) (u8s_one _)
  have HS6 : Hid _ := hst6
  have hB46 := hB5.trans (hB6.mono hB5.size)
  have hB26 := hB24.trans (hB46.mono hB24.size)
  have b46 := (hB46.block w3.heap.size hlt4).trans b4
  have hlt46 : w3.heap.size < w6.heap.size := Nat.lt_of_lt_of_le hlt4 hB46.size
  have hlt6 : w5.heap.size < w6.heap.size := (Array.getElem?_eq_some_iff.1 b6).1
  have P6_ : Hid _ := HLP.out w6 hB26
  have A6_ : Hid _ := HLA.out w6 hB26
  have B6_ : Hid _ := HLB.out w6 hB26
  clear hst6 P4_ A4_ H2 hB5 hB6 HS4 b4 hB24 hB46
  go_wp2_with first
    | ((with_reducible show wpList _ _ _ _ _ _); refine armS (.tmp 9) (.tmp 27) 23 rfl rfl rfl rfl HS6.out ?_)
    | ((with_reducible show wpList _ _ _ _ _ _); refine armL (.tmp 3) 25 rfl rfl rfl P6_.out ?_)
    | ((with_reducible show wpList _ _ _ _ _ _); refine armL (.tmp 4) 27 rfl rfl rfl A6_.out ?_)
    | ((with_reducible show wpList _ _ _ _ _ _); refine armL (.tmp 5) 27 rfl rfl rfl B6_.out ?_)
  refine (H3.out w6 hB26).mono ?_
  rintro e w7 ⟨rfl, hB7⟩
  obtain ⟨V1, w8, s1, s2, c8, d8, hB78, hz8⟩ := two_new6 w7 hCl hDl
  have S1 : Hid _ := s1
  have S2 : Hid _ := s2
  have hB68 := hB7.trans (hB78.mono hB7.size)
  have hB28 := hB26.trans (hB68.mono hB26.size)
  have b48 := (hB68.block w3.heap.size hlt46).trans b46
  have b68 := (hB68.block w5.heap.size hlt6).trans b6
  have hlt48 : w3.heap.size < w8.heap.size := Nat.lt_of_lt_of_le hlt46 hB68.size
  have hlt68 : w5.heap.size < w8.heap.size := Nat.lt_of_lt_of_le hlt6 hB68.size
  have P8_ : Hid _ := HLP.out w8 hB28
  have A8_ : Hid _ := HLA.out w8 hB28
  have B8_ : Hid _ := HLB.out w8 hB28
  clear s1 s2 P6_ A6_ B6_ H3 hB7 hB78 HS6 b46 b6 hB26 hB68
  go_wp2_with first
    | ((with_reducible show wpList _ _ _ _ _ _); refine armS (.tmp 11) (.tmp 34) 23 rfl rfl rfl rfl S1.out ?_)
    | ((with_reducible show wpList _ _ _ _ _ _); refine armS (.tmp 12) (.tmp 35) 23 rfl rfl rfl rfl S2.out ?_)
    | ((with_reducible show wpList _ _ _ _ _ _); refine armL (.tmp 3) 25 rfl rfl rfl P8_.out ?_)
    | ((with_reducible show wpList _ _ _ _ _ _); refine armL (.tmp 4) 27 rfl rfl rfl A8_.out ?_)
    | ((with_reducible show wpList _ _ _ _ _ _); refine armL (.tmp 5) 27 rfl rfl rfl B8_.out ?_)
  refine (H4.out w8).mono ?_
  rintro e w9 ⟨rfl, hB9⟩
  obtain ⟨V3, w10, s3, s4, c10, d10, hB910, hz10⟩ := two_new6 w9 hCl hDl
  have S3 : Hid _ := s3
  have S4 : Hid _ := s4
  have hB810 := hB9.trans (hB910.mono hB9.size)
  have hB210 := hB28.trans (hB810.mono hB28.size)
  have hBw10 : Below w.heap.size w w10 := HBW.out.trans (hB210.mono hw2)
  have htz10 := HTZ.out.on hB210
  have r7 := (hB810.block w3.heap.size hlt48).trans b48
  have r9 := (hB810.block w5.heap.size hlt68).trans b68
  have r11 := (hB810.block w7.heap.size (by omega)).trans c8
  have r12 := (hB810.block (w7.heap.size + 1) (by omega)).trans d8
  have L7 : Hid (∀ u : Hi w10, (Instr.loadAt 23 (.pointer (some ⟨w3.heap.size, 0, none⟩))).run Tryd.prog u.W = .ok (A6 x) u.W) := fun u => load6 hXl (CellsAt.of_blk (Hi.blk r7 u))
  have L9 : Hid (∀ u : Hi w10, (Instr.loadAt 23 (.pointer (some ⟨w5.heap.size, 0, none⟩))).run Tryd.prog u.W = .ok (A6 x) u.W) := fun u => load6 hXl (CellsAt.of_blk (Hi.blk r9 u))
  have L11 : Hid (∀ u : Hi w10, (Instr.loadAt 23 (.pointer (some ⟨w7.heap.size, 0, none⟩))).run Tryd.prog u.W = .ok (A6 c) u.W) := fun u => load6 hCl (CellsAt.of_blk (Hi.blk r11 u))
  have L12 : Hid (∀ u : Hi w10, (Instr.loadAt 23 (.pointer (some ⟨w7.heap.size + 1, 0, none⟩))).run Tryd.prog u.W = .ok (A6 d) u.W) := fun u => load6 hDl (CellsAt.of_blk (Hi.blk r12 u))
  have L14 : Hid (∀ u : Hi w10, (Instr.loadAt 23 (.pointer (some ⟨w9.heap.size, 0, none⟩))).run Tryd.prog u.W = .ok (A6 c) u.W) := fun u => load6 hCl (CellsAt.of_blk (Hi.blk c10 u))
  have L15 : Hid (∀ u : Hi w10, (Instr.loadAt 23 (.pointer (some ⟨w9.heap.size + 1, 0, none⟩))).run Tryd.prog u.W = .ok (A6 d) u.W) := fun u => load6 hDl (CellsAt.of_blk (Hi.blk d10 u))
  have L3 : Hid (∀ u : Hi w10, (Instr.loadAt 25 (.pointer (some ⟨w.heap.size, 0, none⟩))).run Tryd.prog u.W = .ok (P6 l n) u.W) := fun u => HLP.out u.W (hB210.trans (u.below.mono hB210.size))
  have C5 : Hid (∀ u : Hi w10, Calls Tryd.prog 13 #[P6 l n] u.W fun e w' => e = .returned (.int .i64 ce) ∧ Below u.W.heap.size u.W w') := fun u => H5.out u.W
  have C6 : Hid (∀ u : Hi w10, Calls Tryd.prog 14 #[P6 l n] u.W fun e w' => e = .returned (.int .i64 ce) ∧ Below u.W.heap.size u.W w') := fun u => H6.out u.W
  have AW : Hid (∀ u : Hi w10, Calls Tryd.prog 15 #[] u.W fun e w' => e = .returned (.bool true) ∧ Below u.W.heap.size u.W w') := fun u => awake_any u.W (htz10.on u.below)
  have E1 : Hid _ := fun W => eqlA6_same x hXl hXf W
  have E2 : Hid _ := fun W => eqlA6_same c hCl hCf W
  have E3 : Hid _ := fun W => eqlA6_same d hDl hDf W
  have q1 : (ce == ce) = true := by simp
  have q2 : (pe == pe) = true := by simp
  clear s3 s4 P8_ A8_ B8_ H4 H5 H6 hB9 hB910 S1 S2 b48 b68 c8 d8 c10 d10 hB28 hB810 hB210 HLP HLA HLB HBW HTZ r7 r9 r11 r12
  go_wp2_with first
    | ((with_reducible show wpList _ _ _ _ _ _); refine armS (.tmp 14) (.tmp 42) 23 rfl rfl rfl rfl S3.out ?_)
    | ((with_reducible show wpList _ _ _ _ _ _); refine armS (.tmp 15) (.tmp 43) 23 rfl rfl rfl rfl S4.out ?_)
  refine wp_region_hi (by kernel_rfl) (by kernel_rfl) ?_
  repeat (first
    | go_big_quiet_skip
    | (go_big_quiet_want; refine hi_load (.tmp 7) 23 rfl rfl L7.out ?_; simp only [Act.put, List.setIfInBounds_toArray, List.set_cons_zero, List.set_cons_succ]; go_big_quiet_on)
    | (go_big_quiet_want; refine hi_load (.tmp 9) 23 rfl rfl L9.out ?_; simp only [Act.put, List.setIfInBounds_toArray, List.set_cons_zero, List.set_cons_succ]; go_big_quiet_on)
    | (go_big_quiet_want; refine hi_load (.tmp 11) 23 rfl rfl L11.out ?_; simp only [Act.put, List.setIfInBounds_toArray, List.set_cons_zero, List.set_cons_succ]; go_big_quiet_on)
    | (go_big_quiet_want; refine hi_load (.tmp 12) 23 rfl rfl L12.out ?_; simp only [Act.put, List.setIfInBounds_toArray, List.set_cons_zero, List.set_cons_succ]; go_big_quiet_on)
    | (go_big_quiet_want; refine hi_load (.tmp 14) 23 rfl rfl L14.out ?_; simp only [Act.put, List.setIfInBounds_toArray, List.set_cons_zero, List.set_cons_succ]; go_big_quiet_on)
    | (go_big_quiet_want; refine hi_load (.tmp 15) 23 rfl rfl L15.out ?_; simp only [Act.put, List.setIfInBounds_toArray, List.set_cons_zero, List.set_cons_succ]; go_big_quiet_on)
    | (go_big_quiet_want; refine hi_load (.tmp 3) 25 rfl rfl L3.out ?_; simp only [Act.put, List.setIfInBounds_toArray, List.set_cons_zero, List.set_cons_succ]; go_big_quiet_on)
    | (go_big_quiet_want; refine hi_bin8 .eql 23 23 (.tmp 45) (.tmp 46) rfl rfl rfl (fun W => gdA6 _ _ _ _ _ W) E1.out ?_; simp only [Act.put, List.setIfInBounds_toArray, List.set_cons_zero, List.set_cons_succ]; go_big_quiet_on)
    | (go_big_quiet_want; refine hi_bin8 .eql 23 23 (.tmp 54) (.tmp 55) rfl rfl rfl (fun W => gdA6 _ _ _ _ _ W) E2.out ?_; simp only [Act.put, List.setIfInBounds_toArray, List.set_cons_zero, List.set_cons_succ]; go_big_quiet_on)
    | (go_big_quiet_want; refine hi_bin8 .eql 23 23 (.tmp 59) (.tmp 60) rfl rfl rfl (fun W => gdA6 _ _ _ _ _ W) E3.out ?_; simp only [Act.put, List.setIfInBounds_toArray, List.set_cons_zero, List.set_cons_succ]; go_big_quiet_on)
    | (go_big_quiet_want; go_big_quiet_op; first | go_big_quiet_on | go_big_quiet_call (first | (go_at_call 13; exact Hi.calls (C5.out _)) | (go_at_call 14; exact Hi.calls (C6.out _)) | (go_at_call 15; exact Hi.calls (AW.out _)))))
  refine wpQuiet_nil ?_
  intro _ hw
  obtain ⟨y1, rfl⟩ := hw
  have HBE : Hid (Below w.heap.size w y1.W) := hBw10.trans (y1.below.mono hBw10.size)
  go_wp2
  rw [← HQ.out]
  exact ⟨rfl, HBE.out⟩

set_option maxRecDepth 100000 in
theorem embedPuts_open {H : Type} {enc : TypeId × Value → H} {W : World} {base : Nat} (tb : Tz W ∧ Spc W) (v0 v1 v2 : Value) {d0 d1 d2 : DataW H} {p0 p1 p2 : List MemPlace}
    (o0 : Value.okWide Tryd.prog W .any base 25 v0) (h0 : DataW.Trod enc Tryd.prog W 0 (fun _ => true) true 25 v0 d0 p0)
    (o1 : Value.okWide Tryd.prog W .any base 27 v1) (h1 : DataW.Trod enc Tryd.prog W 0 (fun _ => true) true 27 v1 d1 p1)
    (o2 : Value.okWide Tryd.prog W .any base 27 v2) (h2 : DataW.Trod enc Tryd.prog W 0 (fun _ => true) true 27 v2 d2 p2) :
    Calls Tryd.prog 3 #[v0, v1, v2] W fun e w' => e = .returned (.bool true) ∧ Below W.heap.size W w' := by
  obtain ⟨l, n, rfl, ll, lf, wn⟩ := open_prefix6 h0
  obtain ⟨a0, a1, a2, a3, rfl, g0, g1, g2, g3⟩ := open_addr4 h1
  obtain ⟨b0, b1, b2, b3, rfl, f0, f1, f2, f3⟩ := open_addr4 h2
  exact puts_walk l [a0, a1, a2, a3] [b0, b1, b2, b3] n W tb ll lf (bounds_i64 wn) rfl (fit4 g0 g1 g2 g3) rfl (fit4 f0 f1 f2 f3)

end Go.Proofs.YtfiiopgdgfbkkaaDoor
