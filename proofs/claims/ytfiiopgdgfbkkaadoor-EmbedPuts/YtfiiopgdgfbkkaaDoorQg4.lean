/-
  Package embed: Pair of both sides.
-/
import Derived.Test.YtfiiopgdgfbkkaaDoorQg2
import Derived.Test.YtfiiopgdgfbkkaaDoorQf1
namespace Go.Proofs.YtfiiopgdgfbkkaaDoor
open Go Go.RowKit Go.ChangeShapes Go.WideShapes Go.ChangeAt
set_option linter.unusedVariables false
set_option linter.unusedSimpArgs false

theorem boxes5 (w : World) (c0 c1 c2 c3 c4 : List Value) (t0 t1 t2 t3 t4 : TypeId) :
    (((((w.alloc (.cells c0.toArray t0)).alloc (.cells c1.toArray t1)).alloc (.cells c2.toArray t2)).alloc (.cells c3.toArray t3)).alloc (.cells c4.toArray t4)).heap[w.heap.size]? = some (.cells c0.toArray t0) ∧
    (((((w.alloc (.cells c0.toArray t0)).alloc (.cells c1.toArray t1)).alloc (.cells c2.toArray t2)).alloc (.cells c3.toArray t3)).alloc (.cells c4.toArray t4)).heap[w.heap.size + 1]? = some (.cells c1.toArray t1) ∧
    (((((w.alloc (.cells c0.toArray t0)).alloc (.cells c1.toArray t1)).alloc (.cells c2.toArray t2)).alloc (.cells c3.toArray t3)).alloc (.cells c4.toArray t4)).heap[w.heap.size + 2]? = some (.cells c2.toArray t2) ∧
    (((((w.alloc (.cells c0.toArray t0)).alloc (.cells c1.toArray t1)).alloc (.cells c2.toArray t2)).alloc (.cells c3.toArray t3)).alloc (.cells c4.toArray t4)).heap[w.heap.size + 3]? = some (.cells c3.toArray t3) ∧
    (((((w.alloc (.cells c0.toArray t0)).alloc (.cells c1.toArray t1)).alloc (.cells c2.toArray t2)).alloc (.cells c3.toArray t3)).alloc (.cells c4.toArray t4)).heap[w.heap.size + 4]? = some (.cells c4.toArray t4) ∧
    Below w.heap.size w (((((w.alloc (.cells c0.toArray t0)).alloc (.cells c1.toArray t1)).alloc (.cells c2.toArray t2)).alloc (.cells c3.toArray t3)).alloc (.cells c4.toArray t4)) ∧
    (((((w.alloc (.cells c0.toArray t0)).alloc (.cells c1.toArray t1)).alloc (.cells c2.toArray t2)).alloc (.cells c3.toArray t3)).alloc (.cells c4.toArray t4)).heap.size = w.heap.size + 5 := by
  obtain ⟨h0, h1, h2, hB, hz⟩ := boxes3 w c0 c1 c2 t0 t1 t2
  have h3 := blk_new (((w.alloc (.cells c0.toArray t0)).alloc (.cells c1.toArray t1)).alloc (.cells c2.toArray t2)) (.cells c3.toArray t3)
  rw [hz] at h3
  have hB3 := hB.alloc hB.size (.cells c3.toArray t3)
  have hz3 : ((((w.alloc (.cells c0.toArray t0)).alloc (.cells c1.toArray t1)).alloc (.cells c2.toArray t2)).alloc (.cells c3.toArray t3)).heap.size = w.heap.size + 4 := by simp
  have h4 := blk_new ((((w.alloc (.cells c0.toArray t0)).alloc (.cells c1.toArray t1)).alloc (.cells c2.toArray t2)).alloc (.cells c3.toArray t3)) (.cells c4.toArray t4)
  rw [hz3] at h4
  exact ⟨blk_alloc (blk_alloc h0 _) _, blk_alloc (blk_alloc h1 _) _, blk_alloc (blk_alloc h2 _) _, blk_alloc h3 _, h4, hB3.alloc hB3.size _, by simp⟩

theorem res3cc {P : Program} {fn : Func} {a b c : Tmp} {t u : TypeId} (h : fn.results = #[.cell a t, .cell b u, .tmp c]) {tmps : Array Value} {R S : Addr} (hp : tmps.getD a undef = .pointer (some R)) (hq : tmps.getD b undef = .pointer (some S)) {v x : Value} {w : World} (hl : (loadVar t R).run P w = .ok v w) (hm : (loadVar u S).run P w = .ok x w) :
    (results fn tmps).run P w = .ok (.tuple #[v, x, tmps.getD c undef]) w := by
  rw [Array.getD_eq_getD_getElem?] at hp hq
  simp [results, h, hp, hq, asAddr, hl, hm]

def knownB (l : List Int) (n : Int) : Bool := decide (l = kP2A) && (n == 96)
def pairErr (l : List Int) (n : Int) (a b : List Int) : Int := if chkE l n ≠ 0 then chkE l n else if knownB l n && !(globB a && globB b) then 83 else 0
def pairV (x y : List Int) (e : Int) : Value := .tuple #[A6 x, A6 y, .int .i64 e]
def pairE (l : List Int) (n : Int) (a b : List Int) : Value := pairV (if pairErr l n a b = 0 then putL l n a else zeroA6) (if pairErr l n a b = 0 then putL l n b else zeroA6) (pairErr l n a b)

/-- Two boxes are filled, one behind the other. -/
theorem two_stores {w W : World} {R : Nat} {x y : List Int} (hx : x.length = 16) (hy : y.length = 16) (b3 : W.heap[R]? = some (.cells zero16V.toArray 23)) (b4 : W.heap[R + 1]? = some (.cells zero16V.toArray 23)) (hB : Below w.heap.size w W) (hR : w.heap.size ≤ R) :
    ∃ V1 V2, (Instr.storeAt 23 (.pointer (some ⟨R, 0, none⟩)) (A6 x)).run Tryd.prog W = .ok () V1 ∧ (Instr.storeAt 23 (.pointer (some ⟨R + 1, 0, none⟩)) (A6 y)).run Tryd.prog V1 = .ok () V2 ∧
      (loadVar 23 ⟨R, 0, none⟩).run Tryd.prog V2 = .ok (A6 x) V2 ∧ (loadVar 23 ⟨R + 1, 0, none⟩).run Tryd.prog V2 = .ok (A6 y) V2 ∧ Below w.heap.size w V2 ∧ Only R W V1 ∧ Only (R + 1) V1 V2 := by
  obtain ⟨V1, h1, c1, o1⟩ := box_store Tryd.sizeOf23 b3 rfl (u8s x) (by rw [u8s_length, hx]) (u8s_one _)
  have b4' := (o1.other (R + 1) (by omega)).trans b4
  obtain ⟨V2, h2, c2, o2⟩ := box_store Tryd.sizeOf23 b4' rfl (u8s y) (by rw [u8s_length, hy]) (u8s_one _)
  have c1' := (o2.other R (by omega)).trans c1
  exact ⟨V1, V2, h1, h2, agg_loadVar Tryd.isAgg23 Tryd.sizeOf23 (by rw [u8s_length, hx]) (CellsAt.of_blk c1'), agg_loadVar Tryd.isAgg23 Tryd.sizeOf23 (by rw [u8s_length, hy]) (CellsAt.of_blk c2), (hB.trans (o1.below hR)).trans (o2.below (by omega)), o1, o2⟩

theorem eqlP6_known (l : List Int) (n : Int) (hf : FitB l) (hl : l.length = 16) (W : World) : (binOp .eql 25 (P6 l n) (P6 kP2A 96)).run Tryd.prog W = .ok (.bool (knownB l n)) W :=
  eqlP6 l kP2A n 96 hf (fit_of (by decide)) hl rfl W

set_option maxHeartbeats 6000000 in
set_option maxRecDepth 100000 in
theorem Pair_any (l a b : List Int) (n : Int) (w : World) (hsp : Spc w) (hl : l.length = 16) (hf : FitB l) (hn : -9223372036854775808 ≤ n ∧ n ≤ 9223372036854775807) (ha : a.length = 4) (fa : FitB a) (hb : b.length = 4) (fb : FitB b) :
    Calls Tryd.prog 11 #[P6 l n, A4L a, A4L b] w fun e w' => PutPost (pairE l n a b) w e w' := by
  generalize hQ : (fun e w' => PutPost (pairE l n a b) w e w') = Q
  have HQ : Hid _ := hQ
  clear hQ
  obtain ⟨hb0, hb1, hb2, hb3, hb4, hBw, hz⟩ := boxes5 w (cp6 l n) (b8 a) (b8 b) zero16V zero16V 25 27 27 23 23
  generalize hW : ((((w.alloc (.cells (cp6 l n).toArray 25)).alloc (.cells (b8 a).toArray 27)).alloc (.cells (b8 b).toArray 27)).alloc (.cells zero16V.toArray 23)).alloc (.cells zero16V.toArray 23) = W2 at *
  have HLP : Hid _ := loadP6 hl (CellsAt.pfx hl hb0).1
  have HZ : Hid _ := hz
  have hsp2 := hsp.on hBw
  have HPA : Hid _ := fun W => Put_any l n a W hf hl hn ha fa
  have HPB : Hid _ := fun W => Put_any l n b W hf hl hn hb fb
  have HLA : Hid _ := agg_load (t := 27) Tryd.isAgg27 Tryd.sizeOf27 (vs := b8 a) (by rw [b8_length, ha]) (CellsAt.of_blk hb1)
  clear hz hsp
  go_enter Tryd.func11, Tryd.ntmps11
  go_wp2_with first
    | ((with_reducible show wpList _ _ _ _ _ _); refine armL (.tmp 3) 25 rfl rfl rfl HLP.out ?_)
    | ((with_reducible show wpList _ _ _ _ _ _); refine armL (.tmp 4) 27 rfl rfl rfl HLA.out ?_)
  refine (HPA.out W2).mono ?_
  rintro e w3 ⟨rfl, hB3⟩
  have hz := HZ.out
  unfold putE AE6
  have hAl : (if chkE l n = 0 then putL l n a else zeroA6).length = 16 := by
    split
    · unfold putL; rw [putK_length, hl]
    · rfl
  obtain ⟨xx, hxx⟩ : ∃ xx, xx = if chkE l n = 0 then putL l n a else zeroA6 := ⟨_, rfl⟩
  obtain ⟨ce, hce⟩ : ∃ ce, ce = chkE l n := ⟨_, rfl⟩
  rw [← hxx] at hAl
  rw [← hxx, ← hce]
  have HXX : Hid _ := hxx
  have HCE : Hid _ := hce
  clear hxx hce
  obtain ⟨w4, hst4, b4, hB4⟩ := box_new Tryd.sizeOf23 w3 zero16V rfl (u8s xx) (by rw [u8s_length, hAl]) (u8s_one _)
  have HS4 : Hid _ := hst4
  have hB24 := hB3.trans (hB4.mono hB3.size)
  have m0 := (hB24.block w.heap.size (by omega)).trans hb0
  have m1 := (hB24.block (w.heap.size + 1) (by omega)).trans hb1
  have m2 := (hB24.block (w.heap.size + 2) (by omega)).trans hb2
  have m3 := (hB24.block (w.heap.size + 3) (by omega)).trans hb3
  have m4 := (hB24.block (w.heap.size + 4) (by omega)).trans hb4
  have hBw4 := hBw.trans (hB24.mono (by omega))
  have hz4 : w.heap.size + 5 ≤ w4.heap.size := by have := hB24.size; omega
  have hlt4 : w3.heap.size < w4.heap.size := (Array.getElem?_eq_some_iff.1 b4).1
  have hs3 : w.heap.size + 5 ≤ w3.heap.size := by have := hB3.size; omega
  have hsp4 := hsp2.on hB24
  clear hst4 HLP HLA HPA hW hb0 hb1 hb2 hb3 hb4 hBw hB3 hB4 hB24 hz HZ hsp2
  by_cases h0 : chkE l n = 0
  · have e1 : xx = putL l n a := HXX.out.trans (if_pos h0)
    have e2 : ce = 0 := HCE.out.trans h0
    clear HXX HCE
    subst e1 e2
    have hpe : putE l n b = AE6 (putL l n b) 0 := by unfold putE; rw [if_pos h0, h0]
    rw [hpe] at HPB
    have hyl : (putL l n b).length = 16 := by unfold putL; rw [putK_length, hl]
    have hxl : (putL l n a).length = 16 := hAl
    have HPE : Hid (pairE l n a b = if (knownB l n && !(globB a && globB b)) = true then pairV zeroA6 zeroA6 83 else pairV (putL l n a) (putL l n b) 0) := by
      have e : pairErr l n a b = if (knownB l n && !(globB a && globB b)) = true then 83 else 0 := by unfold pairErr; rw [if_neg (by simpa using h0)]
      unfold pairE
      rw [e]
      split <;> rfl
    have G1 : Hid (∀ y : Hi w4, Calls Tryd.prog 20 #[A4L a] y.W fun e w' => e = .returned (.bool (globB a)) ∧ Below y.W.heap.size y.W w') := fun y => Global_any a y.W (hsp4.on y.below) ha fa
    have G2 : Hid (∀ y : Hi w4, Calls Tryd.prog 20 #[A4L b] y.W fun e w' => e = .returned (.bool (globB b)) ∧ Below y.W.heap.size y.W w') := fun y => Global_any b y.W (hsp4.on y.below) hb fb
    have K1 : Hid (∀ y : Hi w4, Calls Tryd.prog 22 #[] y.W fun e w' => e = .returned (P6 kP2A 96) ∧ Below y.W.heap.size y.W w') := fun y => Known_any y.W
    have L3 : Hid (∀ y : Hi w4, (Instr.loadAt 25 (.pointer (some ⟨w.heap.size, 0, none⟩))).run Tryd.prog y.W = .ok (P6 l n) y.W) := fun y => loadP6 hl (CellsAt.pfx hl (Hi.blk m0 y)).1
    have L4 : Hid (∀ y : Hi w4, (Instr.loadAt 27 (.pointer (some ⟨w.heap.size + 1, 0, none⟩))).run Tryd.prog y.W = .ok (A4L a) y.W) := fun y => agg_load Tryd.isAgg27 Tryd.sizeOf27 (by rw [b8_length, ha]) (CellsAt.of_blk (Hi.blk m1 y))
    have L5 : Hid (∀ y : Hi w4, (Instr.loadAt 27 (.pointer (some ⟨w.heap.size + 1 + 1, 0, none⟩))).run Tryd.prog y.W = .ok (A4L b) y.W) := fun y => agg_load Tryd.isAgg27 Tryd.sizeOf27 (by rw [b8_length, hb]) (CellsAt.of_blk (Hi.blk m2 y))
    have EQ : Hid _ := fun W => eqlP6_known l n hf hl W
    clear hpe h0 hsp4 hAl
    generalize putL l n a = x at *
    generalize putL l n b = y at *
    generalize globB a = ga at *
    generalize globB b = gb at *
    generalize knownB l n = kn at *
    have hcases : (kn = false ∧ True ∧ True) ∨ (kn = true ∧ ga = false ∧ True) ∨ (kn = true ∧ ga = true ∧ gb = false) ∨ (kn = true ∧ ga = true ∧ gb = true) := by cases kn <;> cases ga <;> cases gb <;> simp
    have HCA : Hid _ := hcases
    clear hcases
    go_wp2_with ((with_reducible show wpList _ _ _ _ _ _); refine armS (.tmp 9) (.tmp 17) 23 rfl rfl rfl rfl HS4.out ?_)
    have hcases := HCA.out
    clear HCA
    rcases hcases with h | h | h | h
    all_goals
      obtain ⟨h1, h2, h3⟩ := h
      subst h1
      try subst h2
      try subst h3
      refine wp_region_hi (by kernel_rfl) (by kernel_rfl) ?_
      repeat (first
        | go_big_quiet_skip
        | (go_big_quiet_want; refine hi_load (.tmp 3) 25 rfl rfl L3.out ?_; simp only [Act.put, List.setIfInBounds_toArray, List.set_cons_zero, List.set_cons_succ]; go_big_quiet_on)
        | (go_big_quiet_want; refine hi_load (.tmp 4) 27 rfl rfl L4.out ?_; simp only [Act.put, List.setIfInBounds_toArray, List.set_cons_zero, List.set_cons_succ]; go_big_quiet_on)
        | (go_big_quiet_want; refine hi_load (.tmp 5) 27 rfl rfl L5.out ?_; simp only [Act.put, List.setIfInBounds_toArray, List.set_cons_zero, List.set_cons_succ]; go_big_quiet_on)
        | (go_big_quiet_want; refine hi_bin8 .eql 25 25 (.tmp 24) (.tmp 25) rfl rfl rfl (fun W => gdP6 _ _ _ _ _ W) EQ.out ?_; simp only [Act.put, List.setIfInBounds_toArray, List.set_cons_zero, List.set_cons_succ]; go_big_quiet_on)
        | (go_big_quiet_want; go_big_quiet_op; first | go_big_quiet_on | go_big_quiet_call (first | (go_at_call 22; exact Hi.calls (K1.out _)) | (go_at_call 20; first | with_reducible exact Hi.calls (G1.out _) | with_reducible exact Hi.calls (G2.out _)))))
      refine wpQuiet_nil ?_
      intro _ hw
      obtain ⟨u1, rfl⟩ := hw
      have p0 := Hi.blk m0 u1
      have p2 := Hi.blk m2 u1
      have p3 := Hi.blk m3 u1
      have p4 := Hi.blk m4 u1
      have p9 := Hi.blk b4 u1
      have hBw5 := hBw4.trans (u1.below.mono (by omega))
      have hz5 : w.heap.size + 5 ≤ u1.W.heap.size := by have := u1.below.size; omega
      have hlt5 : w3.heap.size < u1.W.heap.size := Nat.lt_of_lt_of_le hlt4 u1.below.size
      generalize u1.W = W5 at *
      clear G1 G2 K1 L3 L4 L5 EQ m0 m1 m2 m3 m4 b4 HS4
      first
      | (have hpe : pairE l n a b = pairV zeroA6 zeroA6 83 := HPE.out.trans (if_pos (by simp; done))
         rw [hpe] at HQ
         clear hpe HPE HPB
         obtain ⟨V1, V2, s1, s2, v1, v2, hBE, _, _⟩ := two_stores (w := w) (x := zeroA6) (y := zeroA6) rfl rfl p3 p4 hBw5 (by omega)
         have HS1 : Hid _ := s1
         have HS2 : Hid _ := s2
         have HV1 : Hid _ := v1
         have HV2 : Hid _ := v2
         have HBE : Hid _ := hBE
         clear s1 s2 v1 v2 hBE
         go_wp2_with first
           | ((with_reducible show wpList _ _ _ _ _ _); refine armS (.tmp 6) (.tmp 36) 23 rfl rfl rfl rfl HS1.out ?_)
           | ((with_reducible show wpList _ _ _ _ _ _); refine armS (.tmp 7) (.tmp 37) 23 rfl rfl rfl rfl HS2.out ?_)
         refine bodyPost_ret (res3cc Tryd.results11 rfl rfl HV1.out HV2.out) rfl ?_
         rw [← HQ.out]
         exact ⟨rfl, HBE.out⟩)
      | (have hpe : pairE l n a b = pairV x y 0 := HPE.out.trans (if_neg (by simp; done))
         rw [hpe] at HQ
         clear hpe HPE
         have HLP5 : Hid _ := loadP6 hl (CellsAt.pfx hl p0).1
         have HLB5 : Hid _ := agg_load (t := 27) Tryd.isAgg27 Tryd.sizeOf27 (vs := b8 b) (by rw [b8_length, hb]) (CellsAt.of_blk p2)
         go_wp2_with first
           | ((with_reducible show wpList _ _ _ _ _ _); refine armL (.tmp 3) 25 rfl rfl rfl HLP5.out ?_)
           | ((with_reducible show wpList _ _ _ _ _ _); refine armL (.tmp 5) 27 rfl rfl rfl HLB5.out ?_)
         refine (HPB.out W5).mono ?_
         rintro e w6 ⟨rfl, hB6⟩
         unfold AE6
         obtain ⟨w7, hst7, b7, hB7⟩ := box_new Tryd.sizeOf23 w6 zero16V rfl (u8s y) (by rw [u8s_length, hyl]) (u8s_one _)
         have HS7 : Hid _ := hst7
         have hB57 := hB6.trans (hB7.mono hB6.size)
         have r3 := (hB57.block (w.heap.size + 3) (by omega)).trans p3
         have r4 := (hB57.block (w.heap.size + 4) (by omega)).trans p4
         have r9 := (hB57.block w3.heap.size hlt5).trans p9
         have hBw7 := hBw5.trans (hB57.mono (by omega))
         have hs6 : w.heap.size + 5 ≤ w6.heap.size := by have := hB6.size; omega
         clear hst7 HLP5 HLB5 HPB p0 p2 p3 p4 p9 hB6 hB7 hB57
         go_wp2_with ((with_reducible show wpList _ _ _ _ _ _); refine armS (.tmp 11) (.tmp 42) 23 rfl rfl rfl rfl HS7.out ?_)
         refine wp_region_held (S := (fun W => W.heap[w3.heap.size]? = some (.cells (u8s x).toArray 23) ∧ W.heap[w6.heap.size]? = some (.cells (u8s y).toArray 23))) (by kernel_rfl) ?_
         show wpAnyH _ _ _ _ _ 5 (Array.replicate 5 false) _ _
         refine take_one (i := 0) (d := some 44) (v := (A6 x)) rfl rfl rfl (by kernel_rfl) (by kernel_rfl) (by kernel_rfl) (fun _ _ d _ _ h => by cases d <;> exact h) (fun W hS => ex_loadA (.tmp 9) 23 rfl rfl (load6 hxl (CellsAt.of_blk hS.1))) ⟨r9, b7⟩ ?_
         simp only [Act.put, List.setIfInBounds_toArray, List.set_cons_zero, List.set_cons_succ]
         refine take_one (i := 1) (d := some 45) (v := (A6 y)) rfl rfl rfl (by kernel_rfl) (by kernel_rfl) (by kernel_rfl) (fun _ _ d _ _ h => by cases d <;> exact h) (fun W hS => ex_loadA (.tmp 11) 23 rfl rfl (load6 hyl (CellsAt.of_blk hS.2))) ⟨r9, b7⟩ ?_
         simp only [Act.put, List.setIfInBounds_toArray, List.set_cons_zero, List.set_cons_succ]
         obtain ⟨V1, V2, s1, s2, v1, v2, hBE, o1, o2⟩ := two_stores (w := w) (W := w7.drew) (x := x) (y := y) hxl hyl r3 r4 hBw7.drew (by omega)
         have HS1 : Hid _ := s1
         have HS2 : Hid _ := s2
         have HV1 : Hid _ := v1
         have HV2 : Hid _ := v2
         have HBE : Hid _ := hBE
         have t9 := (o1.other w3.heap.size (by omega)).trans r9
         have t7 := (o1.other w6.heap.size (by omega)).trans b7
         have u9 := (o2.other w3.heap.size (by omega)).trans t9
         have u7 := (o2.other w6.heap.size (by omega)).trans t7
         refine all_one (i := 2) (by kernel_rfl) rfl rfl ?_
         refine wp_storeA (.tmp 6) (.tmp 44) 23 rfl rfl rfl rfl HS1.out ?_
         refine ⟨⟨t9, t7⟩, ?_⟩
         refine all_one (i := 3) (by kernel_rfl) rfl rfl ?_
         refine wp_storeA (.tmp 7) (.tmp 45) 23 rfl rfl rfl rfl HS2.out ?_
         refine ⟨⟨u9, u7⟩, ?_⟩
         refine take_one (i := 4) (d := some 8) (v := .int .i64 0) rfl rfl rfl (by kernel_rfl) (by kernel_rfl) (by kernel_rfl) (fun _ _ d _ _ h => by cases d <;> exact h) (fun W hS => by simp [execOp, go_sem]) ⟨u9, u7⟩ ?_
         refine wpAnyH_done (by kernel_rfl) ?_ _
         simp only [Act.put, List.setIfInBounds_toArray, List.set_cons_zero, List.set_cons_succ]
         go_wp2
         refine bodyPost_ret (res3cc Tryd.results11 rfl rfl HV1.out HV2.out) rfl ?_
         rw [← HQ.out]
         exact ⟨rfl, HBE.out⟩)
  · have hpe : pairE l n a b = pairV zeroA6 zeroA6 ce := by
      have e : pairErr l n a b = chkE l n := by unfold pairErr; rw [if_pos h0]
      unfold pairE
      rw [e, if_neg h0, if_neg h0, HCE.out]
    rw [hpe] at HQ
    have q0 : (ce != 0) = true := by rw [HCE.out]; simpa using h0
    have p3 := m3
    have p4 := m4
    clear hpe HXX HCE h0 HPB b4
    obtain ⟨V1, V2, s1, s2, v1, v2, hBE, _, _⟩ := two_stores (w := w) (x := zeroA6) (y := zeroA6) rfl rfl p3 p4 hBw4 (by omega)
    have HS1 : Hid _ := s1
    have HS2 : Hid _ := s2
    have HV1 : Hid _ := v1
    have HV2 : Hid _ := v2
    have HBE : Hid _ := hBE
    clear s1 s2 v1 v2 hBE
    go_wp2_with first
      | ((with_reducible show wpList _ _ _ _ _ _); refine armS (.tmp 9) (.tmp 17) 23 rfl rfl rfl rfl HS4.out ?_)
      | ((with_reducible show wpList _ _ _ _ _ _); refine armS (.tmp 6) (.tmp 21) 23 rfl rfl rfl rfl HS1.out ?_)
      | ((with_reducible show wpList _ _ _ _ _ _); refine armS (.tmp 7) (.tmp 22) 23 rfl rfl rfl rfl HS2.out ?_)
    refine bodyPost_ret (res3cc Tryd.results11 rfl rfl HV1.out HV2.out) rfl ?_
    rw [← HQ.out]
    exact ⟨rfl, HBE.out⟩

end Go.Proofs.YtfiiopgdgfbkkaaDoor
