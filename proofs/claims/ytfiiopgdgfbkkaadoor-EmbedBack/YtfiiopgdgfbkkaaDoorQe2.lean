/-
  The statement EmbedBack for every argument.
-/
import Derived.Test.YtfiiopgdgfbkkaaDoorQe1
namespace Go.Proofs.YtfiiopgdgfbkkaaDoor
open Go Go.RowKit Go.ChangeShapes Go.WideShapes Go.ChangeAt
set_option linter.unusedVariables false
set_option linter.unusedSimpArgs false

theorem boxes4 (w : World) (c0 c1 c2 c3 : List Value) (t0 t1 t2 t3 : TypeId) :
    ((((w.alloc (.cells c0.toArray t0)).alloc (.cells c1.toArray t1)).alloc (.cells c2.toArray t2)).alloc (.cells c3.toArray t3)).heap[w.heap.size]? = some (.cells c0.toArray t0) ∧
    ((((w.alloc (.cells c0.toArray t0)).alloc (.cells c1.toArray t1)).alloc (.cells c2.toArray t2)).alloc (.cells c3.toArray t3)).heap[w.heap.size + 1]? = some (.cells c1.toArray t1) ∧
    ((((w.alloc (.cells c0.toArray t0)).alloc (.cells c1.toArray t1)).alloc (.cells c2.toArray t2)).alloc (.cells c3.toArray t3)).heap[w.heap.size + 2]? = some (.cells c2.toArray t2) ∧
    ((((w.alloc (.cells c0.toArray t0)).alloc (.cells c1.toArray t1)).alloc (.cells c2.toArray t2)).alloc (.cells c3.toArray t3)).heap[w.heap.size + 3]? = some (.cells c3.toArray t3) ∧
    Below w.heap.size w ((((w.alloc (.cells c0.toArray t0)).alloc (.cells c1.toArray t1)).alloc (.cells c2.toArray t2)).alloc (.cells c3.toArray t3)) ∧
    ((((w.alloc (.cells c0.toArray t0)).alloc (.cells c1.toArray t1)).alloc (.cells c2.toArray t2)).alloc (.cells c3.toArray t3)).heap.size = w.heap.size + 4 := by
  obtain ⟨h0, h1, h2, hB, hz⟩ := boxes3 w c0 c1 c2 t0 t1 t2
  have h3 := blk_new (((w.alloc (.cells c0.toArray t0)).alloc (.cells c1.toArray t1)).alloc (.cells c2.toArray t2)) (.cells c3.toArray t3)
  rw [hz] at h3
  exact ⟨blk_alloc h0 _, blk_alloc h1 _, blk_alloc h2 _, h3, hB.alloc hB.size _, by simp⟩

theorem armBg {P : Program} {w : World} {ops : Array Oper} {rest : List Oper} {o : Oper} {a : Act} {Q : Exit → Act → World → Prop} (b : BinOp) (t u : TypeId) (x y : Operand)
    (hop : o.op = Op.binOp b t x y u) (hw : Region.wanted o (yielded ops a.tmps) = true) {vx vy v : Value} (hx : a.eval x = vx) (hy : a.eval y = vy) (hgd : (eqGuard b t x y vx vy).run P w = .ok () w) (hrun : (binOp b t vx vy).run P w = .ok v w) (hK : wpList P ops Q rest (a.put o.dst v) w) : wpList P ops Q (o :: rest) a w :=
  arm_bin hw b t u x y hop hx hy hgd hrun hK

theorem hi_bin {P : Program} {w : World} {o : Oper} {a : Act} {K : Act → Prop} (b : BinOp) (t u : TypeId) (x y : Operand) (hop : o.op = Op.binOp b t x y u) {vx vy v : Value} (hx : a.eval x = vx) (hy : a.eval y = vy) (hgd : ∀ W, (eqGuard b t x y vx vy).run P W = .ok () W) (hrun : ∀ W, (binOp b t vx vy).run P W = .ok v W) (hK : K (a.put o.dst v)) :
    o.quiet P a (fun w' => ∃ x : Hi w, w' = x.W) K := by
  refine ⟨v, fun W hW => ?_, hK⟩
  unfold Oper.quietAt
  simp [execOp, hop, hx, hy, hgd, hrun, Result.andThen, Oper.quietUpon]

/-- What stands in an address is got back. -/
theorem back_get {l a : List Int} {n : Int} (hl : l.length = 16) (hf : FitB l) (h : chkE l n = 0) (ha : a.length = 4) (fa : FitB a) : getE l n (putL l n a) = AE4 a 0 ∧ strE l n (putL l n a) = AE4 a 0 := by
  have E := emb_any hl hf h ha fa
  have g : getErr l n (putL l n a) = 0 := by
    unfold getErr
    rw [if_neg (by simpa using h), show has6 l n (putL l n a) = true from decide_eq_true E.inn, E.nil8]
    simp
  have s : strErr l n (putL l n a) = 0 := by
    unfold strErr
    rw [if_neg (by simpa using g), E.got, if_pos rfl]
  refine ⟨?_, ?_⟩
  · unfold getE
    rw [g, if_pos rfl, E.got]
  · unfold strE
    rw [s, if_pos rfl, E.got]

theorem strErr_put {l z : List Int} {n : Int} (h : strErr l n z = 0) : chkE l n = 0 ∧ putL l n (getL z (plc n)) = z := by
  unfold strErr at h
  split at h
  · rename_i h1; exact absurd h h1
  · rename_i h1
    split at h
    · rename_i h2
      exact ⟨(getErr_ok (by simpa using h1)).1, h2⟩
    · cases h

set_option maxHeartbeats 8000000 in
set_option maxRecDepth 100000 in
theorem back_walk (l a b z : List Int) (n : Int) (w : World) (ht : Tz w) (hl : l.length = 16) (hf : FitB l) (hn : -9223372036854775808 ≤ n ∧ n ≤ 9223372036854775807) (ha : a.length = 4) (fa : FitB a) (hb : b.length = 4) (fb : FitB b) (hz : z.length = 16) (fz : FitB z) :
    Calls Tryd.prog 7 #[P6 l n, A4L a, A4L b, A6 z] w fun e w' => PutPost (.bool true) w e w' := by
  generalize hQ : (fun e w' => PutPost (.bool true) w e w') = Q
  have HQ : Hid _ := hQ
  clear hQ
  obtain ⟨hb0, hb1, hb2, hb3, hBw, hs⟩ := boxes4 w (cp6 l n) (b8 a) (b8 b) (u8s z) 25 27 27 23
  generalize hW : (((w.alloc (.cells (cp6 l n).toArray 25)).alloc (.cells (b8 a).toArray 27)).alloc (.cells (b8 b).toArray 27)).alloc (.cells (u8s z).toArray 23) = W2 at *
  have HW2 : Hid _ := awake_any W2 (ht.on hBw)
  have HPA : Hid _ := fun W => Put_any l n a W hf hl hn ha fa
  have HPB : Hid _ := fun W => Put_any l n b W hf hl hn hb fb
  have HZ : Hid _ := hs
  clear hs
  go_enter Tryd.func7, Tryd.ntmps7
  go_wp2_with fail
  refine Calls.mono HW2.out ?_
  rintro e w3 ⟨rfl, hB3⟩
  have hs := HZ.out
  have k0 := (hB3.block w.heap.size (by omega)).trans hb0
  have k1 := (hB3.block (w.heap.size + 1) (by omega)).trans hb1
  have k2 := (hB3.block (w.heap.size + 2) (by omega)).trans hb2
  have k3 := (hB3.block (w.heap.size + 3) (by omega)).trans hb3
  have hBw3 := hBw.trans (hB3.mono (by omega))
  have hz3 : w.heap.size + 4 ≤ w3.heap.size := by have := hB3.size; omega
  have HLP : Hid _ := loadP6 hl (CellsAt.pfx hl k0).1
  have HLA : Hid _ := agg_load (t := 27) Tryd.isAgg27 Tryd.sizeOf27 (by rw [b8_length, ha]) (CellsAt.of_blk k1)
  clear hW HW2 hb0 hb1 hb2 hb3 hBw hB3 hs HZ
  go_wp2_with first
    | ((with_reducible show wpList _ _ _ _ _ _); refine armL (.tmp 4) 25 rfl rfl rfl HLP.out ?_)
    | ((with_reducible show wpList _ _ _ _ _ _); refine armL (.tmp 5) 27 rfl rfl rfl HLA.out ?_)
  refine (HPA.out w3).mono ?_
  rintro e w4 ⟨rfl, hB4⟩
  unfold putE AE6
  have hAl : (if chkE l n = 0 then putL l n a else zeroA6).length = 16 := by
    split
    · unfold putL; rw [putK_length, hl]
    · rfl
  obtain ⟨xx, hxx⟩ : ∃ xx, xx = if chkE l n = 0 then putL l n a else zeroA6 := ⟨_, rfl⟩
  obtain ⟨ce, hce⟩ : ∃ ce, ce = chkE l n := ⟨_, rfl⟩
  rw [← hxx] at hAl
  rw [← hxx, ← hce]
  have HXX : Hid _ := hxx
  have HCE : Hid _ := hce
  clear hxx
  obtain ⟨w5, hst5, b5, hB5⟩ := box_new Tryd.sizeOf23 w4 zero16V rfl (u8s xx) (by rw [u8s_length, hAl]) (u8s_one _)
  have HS5 : Hid _ := hst5
  have hB35 := hB4.trans (hB5.mono hB4.size)
  have m0 := (hB35.block w.heap.size (by omega)).trans k0
  have m1 := (hB35.block (w.heap.size + 1) (by omega)).trans k1
  have m2 := (hB35.block (w.heap.size + 2) (by omega)).trans k2
  have m3 := (hB35.block (w.heap.size + 3) (by omega)).trans k3
  have hBw5 := hBw3.trans (hB35.mono (by omega))
  have hz5 : w.heap.size + 4 ≤ w5.heap.size := by have := hB35.size; omega
  have hlt5 : w4.heap.size < w5.heap.size := (Array.getElem?_eq_some_iff.1 b5).1
  have HLP5 : Hid _ := loadP6 hl (CellsAt.pfx hl m0).1
  have HLB5 : Hid _ := agg_load (t := 27) Tryd.isAgg27 Tryd.sizeOf27 (by rw [b8_length, hb]) (CellsAt.of_blk m2)
  clear hst5 k0 k1 k2 k3 hBw3 hB4 hB5 hB35 HLP HLA HPA hce
  go_wp2_with first
    | ((with_reducible show wpList _ _ _ _ _ _); refine armS (.tmp 9) (.tmp 27) 23 rfl rfl rfl rfl HS5.out ?_)
    | ((with_reducible show wpList _ _ _ _ _ _); refine armL (.tmp 4) 25 rfl rfl rfl HLP5.out ?_)
    | ((with_reducible show wpList _ _ _ _ _ _); refine armL (.tmp 6) 27 rfl rfl rfl HLB5.out ?_)
  refine (HPB.out w5).mono ?_
  rintro e w6 ⟨rfl, hB6⟩
  unfold putE AE6
  have hBl : (if chkE l n = 0 then putL l n b else zeroA6).length = 16 := by
    split
    · unfold putL; rw [putK_length, hl]
    · rfl
  obtain ⟨yy, hyy⟩ : ∃ yy, yy = if chkE l n = 0 then putL l n b else zeroA6 := ⟨_, rfl⟩
  rw [← hyy] at hBl
  rw [← hyy, ← HCE.out]
  have HYY : Hid _ := hyy
  clear hyy
  obtain ⟨w7, hst7, b7, hB7⟩ := box_new Tryd.sizeOf23 w6 zero16V rfl (u8s yy) (by rw [u8s_length, hBl]) (u8s_one _)
  have HS7 : Hid _ := hst7
  have hB57 := hB6.trans (hB7.mono hB6.size)
  have n0 := (hB57.block w.heap.size (by omega)).trans m0
  have n1 := (hB57.block (w.heap.size + 1) (by omega)).trans m1
  have n2 := (hB57.block (w.heap.size + 2) (by omega)).trans m2
  have n3 := (hB57.block (w.heap.size + 3) (by omega)).trans m3
  have n5 := (hB57.block w4.heap.size hlt5).trans b5
  have hBw7 := hBw5.trans (hB57.mono (by omega))
  have hz7 : w.heap.size + 4 ≤ w7.heap.size := by have := hB57.size; omega
  have hlt7 : w6.heap.size < w7.heap.size := (Array.getElem?_eq_some_iff.1 b7).1
  have hlt57 : w4.heap.size < w7.heap.size := Nat.lt_of_lt_of_le hlt5 hB57.size
  clear hst7 m0 m1 m2 m3 b5 hBw5 hB6 hB7 hB57 HLP5 HLB5 HPB HS5
  by_cases h0 : chkE l n = 0
  · have e5 : ce = 0 := HCE.out.trans h0
    have e1 : xx = putL l n a := HXX.out.trans (if_pos h0)
    have e2 : yy = putL l n b := HYY.out.trans (if_pos h0)
    clear HXX HYY HCE
    subst e5 e1 e2
    obtain ⟨hgE, hsE⟩ := back_get hl hf h0 ha fa
    have hx16 : (putL l n a).length = 16 := hAl
    have hxf : FitB (putL l n a) := putK_fit hf fa _ _
    have hyf : FitB (putL l n b) := putK_fit hf fb _ _
    have hgt := fun W => Get_any l n (putL l n a) W hf hl hn hx16 hxf
    have hst := fun W => Strict_any l n (putL l n a) W hf hl hn hx16 hxf
    rw [hgE] at hgt
    rw [hsE] at hst
    have hinj := putL_inj hl hf h0 ha fa hb fb
    have hsz := fun W => Strict_any l n z W hf hl hn hz fz
    have hpz := fun W => Put_any l n (getL z (plc n)) W hf hl hn (getL_len z n) (getL_fit fz _)
    have HGT : Hid _ := hgt
    have HSR : Hid _ := hst
    have HSZ : Hid _ := hsz
    have HPZ : Hid _ := hpz
    have HIN : Hid _ := hinj
    have HH0 : Hid _ := h0
    have HLP7 : Hid _ := loadP6 hl (CellsAt.pfx hl n0).1
    have HLX7 : Hid _ := load6 hx16 (CellsAt.of_blk n5)
    clear hgt hst hsz hpz hinj hgE hsE h0 hAl
    generalize putL l n a = x at *
    generalize putL l n b = y at *
    go_wp2_with first
      | ((with_reducible show wpList _ _ _ _ _ _); refine armS (.tmp 11) (.tmp 33) 23 rfl rfl rfl rfl HS7.out ?_)
      | ((with_reducible show wpList _ _ _ _ _ _); refine armL (.tmp 4) 25 rfl rfl rfl HLP7.out ?_)
      | ((with_reducible show wpList _ _ _ _ _ _); refine armL (.tmp 9) 23 rfl rfl rfl HLX7.out ?_)
    refine (HGT.out w7).mono ?_
    rintro e w8 ⟨rfl, hB8⟩
    unfold AE4
    obtain ⟨w9, hst9, b9, hB9⟩ := box_new Tryd.sizeOf27 w8 zero4L rfl (b8 a) (by rw [b8_length, ha]) (b8_one _)
    have HS9 : Hid _ := hst9
    have hB79 := hB8.trans (hB9.mono hB8.size)
    have hlt9 : w8.heap.size < w9.heap.size := (Array.getElem?_eq_some_iff.1 b9).1
    have HLP9 : Hid _ := loadP6 hl (CellsAt.pfx hl ((hB79.block _ (by omega)).trans n0)).1
    have HLX9 : Hid _ := load6 hx16 (CellsAt.of_blk ((hB79.block _ hlt57).trans n5))
    clear hst9 HLP7 HLX7 HGT HS7
    go_wp2_with first
      | ((with_reducible show wpList _ _ _ _ _ _); refine armS (.tmp 13) (.tmp 53) 27 rfl rfl rfl rfl HS9.out ?_)
      | ((with_reducible show wpList _ _ _ _ _ _); refine armL (.tmp 4) 25 rfl rfl rfl HLP9.out ?_)
      | ((with_reducible show wpList _ _ _ _ _ _); refine armL (.tmp 9) 23 rfl rfl rfl HLX9.out ?_)
    refine (HSR.out w9).mono ?_
    rintro e w10 ⟨rfl, hB10⟩
    unfold AE4
    obtain ⟨w11, hst11, b11, hB11⟩ := box_new Tryd.sizeOf27 w10 zero4L rfl (b8 a) (by rw [b8_length, ha]) (b8_one _)
    have HS11 : Hid _ := hst11
    have hB911 := hB10.trans (hB11.mono hB10.size)
    have hB711 := hB79.trans (hB911.mono hB79.size)
    have r0 := (hB711.block w.heap.size (by omega)).trans n0
    have r1 := (hB711.block (w.heap.size + 1) (by omega)).trans n1
    have r2 := (hB711.block (w.heap.size + 2) (by omega)).trans n2
    have r3 := (hB711.block (w.heap.size + 3) (by omega)).trans n3
    have r5 := (hB711.block w4.heap.size hlt57).trans n5
    have r7 := (hB711.block w6.heap.size hlt7).trans b7
    have r9 := (hB911.block w8.heap.size hlt9).trans b9
    have hBw11 := hBw7.trans (hB711.mono (by omega))
    have hz11 : w.heap.size + 4 ≤ w11.heap.size := by have := hB711.size; omega
    clear hst11 HLP9 HLX9 HSR HS9 n0 n1 n2 n3 n5 b7 b9 hBw7 hB8 hB9 hB79 hB10 hB11 hB911 hB711
    have L13 : Hid (∀ u : Hi w11, (Instr.loadAt 27 (.pointer (some ⟨w8.heap.size, 0, none⟩))).run Tryd.prog u.W = .ok (A4L a) u.W) := fun u => agg_load Tryd.isAgg27 Tryd.sizeOf27 (by rw [b8_length, ha]) (CellsAt.of_blk (Hi.blk r9 u))
    have L15 : Hid (∀ u : Hi w11, (Instr.loadAt 27 (.pointer (some ⟨w10.heap.size, 0, none⟩))).run Tryd.prog u.W = .ok (A4L a) u.W) := fun u => agg_load Tryd.isAgg27 Tryd.sizeOf27 (by rw [b8_length, ha]) (CellsAt.of_blk (Hi.blk b11 u))
    have L5 : Hid (∀ u : Hi w11, (Instr.loadAt 27 (.pointer (some ⟨w.heap.size + 1, 0, none⟩))).run Tryd.prog u.W = .ok (A4L a) u.W) := fun u => agg_load Tryd.isAgg27 Tryd.sizeOf27 (by rw [b8_length, ha]) (CellsAt.of_blk (Hi.blk r1 u))
    have L6 : Hid (∀ u : Hi w11, (Instr.loadAt 27 (.pointer (some ⟨w.heap.size + 1 + 1, 0, none⟩))).run Tryd.prog u.W = .ok (A4L b) u.W) := fun u => agg_load Tryd.isAgg27 Tryd.sizeOf27 (by rw [b8_length, hb]) (CellsAt.of_blk (Hi.blk r2 u))
    have L9 : Hid (∀ u : Hi w11, (Instr.loadAt 23 (.pointer (some ⟨w4.heap.size, 0, none⟩))).run Tryd.prog u.W = .ok (A6 x) u.W) := fun u => load6 hx16 (CellsAt.of_blk (Hi.blk r5 u))
    have L11 : Hid (∀ u : Hi w11, (Instr.loadAt 23 (.pointer (some ⟨w6.heap.size, 0, none⟩))).run Tryd.prog u.W = .ok (A6 y) u.W) := fun u => load6 hBl (CellsAt.of_blk (Hi.blk r7 u))
    have hdd : decide (x = y) = decide (a = b) := by rw [Bool.eq_iff_iff, decide_eq_true_eq, decide_eq_true_eq]; exact HIN.out
    have N1 : Hid (∀ W, (binOp .neq 27 (A4L a) (A4L a)).run Tryd.prog W = .ok (.bool false) W) := fun W => by
      have := neqA4 a a fa fa ha ha W
      rw [decide_eq_true rfl] at this
      exact this
    have n2' : ∀ W, (binOp .eql 23 (A6 x) (A6 y)).run Tryd.prog W = .ok (.bool (decide (a = b))) W := fun W => by
      rw [← hdd]
      exact eqlA6 x y hxf hyf hx16 hBl W
    have n3' : ∀ W, (binOp .eql 27 (A4L a) (A4L b)).run Tryd.prog W = .ok (.bool (decide (a = b))) W := fun W => eqlA4 a b fa fb ha hb W
    clear hdd HIN
    generalize decide (a = b) = bb at *
    have N2 : Hid _ := n2'
    have N3 : Hid _ := n3'
    clear n2' n3'
    go_wp2_with ((with_reducible show wpList _ _ _ _ _ _); refine armS (.tmp 15) (.tmp 59) 27 rfl rfl rfl rfl HS11.out ?_)
    cases bb
    all_goals
      refine wp_region_hi (by kernel_rfl) (by kernel_rfl) ?_
      repeat (first
      | go_big_quiet_skip
      | (go_big_quiet_want; refine hi_load (.tmp 13) 27 rfl rfl L13.out ?_; simp only [Act.put, List.setIfInBounds_toArray, List.set_cons_zero, List.set_cons_succ]; go_big_quiet_on)
      | (go_big_quiet_want; refine hi_load (.tmp 15) 27 rfl rfl L15.out ?_; simp only [Act.put, List.setIfInBounds_toArray, List.set_cons_zero, List.set_cons_succ]; go_big_quiet_on)
      | (go_big_quiet_want; refine hi_load (.tmp 5) 27 rfl rfl L5.out ?_; simp only [Act.put, List.setIfInBounds_toArray, List.set_cons_zero, List.set_cons_succ]; go_big_quiet_on)
      | (go_big_quiet_want; refine hi_load (.tmp 6) 27 rfl rfl L6.out ?_; simp only [Act.put, List.setIfInBounds_toArray, List.set_cons_zero, List.set_cons_succ]; go_big_quiet_on)
      | (go_big_quiet_want; refine hi_load (.tmp 9) 23 rfl rfl L9.out ?_; simp only [Act.put, List.setIfInBounds_toArray, List.set_cons_zero, List.set_cons_succ]; go_big_quiet_on)
      | (go_big_quiet_want; refine hi_load (.tmp 11) 23 rfl rfl L11.out ?_; simp only [Act.put, List.setIfInBounds_toArray, List.set_cons_zero, List.set_cons_succ]; go_big_quiet_on)
      | (go_big_quiet_want; refine hi_bin .neq 27 27 (.tmp 68) (.tmp 69) rfl rfl rfl (fun W => gdA4 _ _ _ _ _ W) N1.out ?_; simp only [Act.put, List.setIfInBounds_toArray, List.set_cons_zero, List.set_cons_succ]; go_big_quiet_on)
      | (go_big_quiet_want; refine hi_bin .neq 27 27 (.tmp 73) (.tmp 74) rfl rfl rfl (fun W => gdA4 _ _ _ _ _ W) N1.out ?_; simp only [Act.put, List.setIfInBounds_toArray, List.set_cons_zero, List.set_cons_succ]; go_big_quiet_on)
      | (go_big_quiet_want; refine hi_bin .eql 23 23 (.tmp 78) (.tmp 79) rfl rfl rfl (fun W => gdA6 _ _ _ _ _ W) N2.out ?_; simp only [Act.put, List.setIfInBounds_toArray, List.set_cons_zero, List.set_cons_succ]; go_big_quiet_on)
      | (go_big_quiet_want; refine hi_bin .eql 27 27 (.tmp 81) (.tmp 82) rfl rfl rfl (fun W => gdA4 _ _ _ _ _ W) N3.out ?_; simp only [Act.put, List.setIfInBounds_toArray, List.set_cons_zero, List.set_cons_succ]; go_big_quiet_on)
      | (go_big_quiet_want; go_big_quiet_op; go_big_quiet_on))
      refine wpQuiet_nil ?_
      intro _ hw
      obtain ⟨y1, rfl⟩ := hw
      have hBw12 := hBw11.trans (y1.below.mono (by omega))
      have s0 := Hi.blk r0 y1
      have s3 := Hi.blk r3 y1
      have hz12 : w.heap.size + 4 ≤ y1.W.heap.size := by have := y1.below.size; omega
      generalize y1.W = W12 at *
      have HLP12 : Hid _ := loadP6 hl (CellsAt.pfx hl s0).1
      have HLZ12 : Hid _ := load6 hz (CellsAt.of_blk s3)
      clear L13 L15 L5 L6 L9 L11 N1 N2 N3 HS11 r0 r1 r2 r3 r5 r7 r9 b11
      go_wp2_with first
        | ((with_reducible show wpList _ _ _ _ _ _); refine armL (.tmp 4) 25 rfl rfl rfl HLP12.out ?_)
        | ((with_reducible show wpList _ _ _ _ _ _); refine armL (.tmp 7) 23 rfl rfl rfl HLZ12.out ?_)
      refine (HSZ.out W12).mono ?_
      rintro e w13 ⟨rfl, hB13⟩
      unfold strE AE4
      have hGl : (if strErr l n z = 0 then getL z (plc n) else zeroA4).length = 4 := by
        split
        · exact getL_len z n
        · rfl
      obtain ⟨gg, hgg⟩ : ∃ gg, gg = if strErr l n z = 0 then getL z (plc n) else zeroA4 := ⟨_, rfl⟩
      obtain ⟨se, hse⟩ : ∃ se, se = strErr l n z := ⟨_, rfl⟩
      rw [← hgg] at hGl
      rw [← hgg, ← hse]
      have HGG : Hid _ := hgg
      have HSE : Hid _ := hse
      clear hgg hse
      obtain ⟨w14, hst14, b14, hB14⟩ := box_new Tryd.sizeOf27 w13 zero4L rfl (b8 gg) (by rw [b8_length, hGl]) (b8_one _)
      have HS14 : Hid _ := hst14
      have hB1214 := hB13.trans (hB14.mono hB13.size)
      have u0 := (hB1214.block w.heap.size (by omega)).trans s0
      have u3 := (hB1214.block (w.heap.size + 3) (by omega)).trans s3
      have hBw14 := hBw12.trans (hB1214.mono (by omega))
      have hz14 : w.heap.size + 4 ≤ w14.heap.size := by have := hB1214.size; omega
      have HLG14 : Hid _ := agg_load (t := 27) Tryd.isAgg27 Tryd.sizeOf27 (by rw [b8_length, hGl]) (CellsAt.of_blk b14)
      clear hst14 HLP12 HLZ12 HSZ s0 s3 hBw12 hB13 hB14 hB1214
      by_cases hs0 : strErr l n z = 0
      · obtain ⟨_, hpz⟩ := strErr_put hs0
        have e1 : gg = getL z (plc n) := HGG.out.trans (if_pos hs0)
        have e2 : se = 0 := HSE.out.trans hs0
        clear HGG HSE
        subst e1 e2
        have hpe : putE l n (getL z (plc n)) = AE6 z 0 := by unfold putE; rw [if_pos HH0.out, HH0.out, hpz]
        have HPZ2 : Hid (∀ W, Calls Tryd.prog 9 #[P6 l n, A4L (getL z (plc n))] W fun e w' => PutPost (AE6 z 0) W e w') := fun W => by rw [← hpe]; exact HPZ.out W
        have HLP14 : Hid _ := loadP6 hl (CellsAt.pfx hl u0).1
        clear hpz hpe HPZ hs0
        generalize getL z (plc n) = gz at *
        go_wp2_with first
          | ((with_reducible show wpList _ _ _ _ _ _); refine armS (.tmp 17) (.tmp 90) 27 rfl rfl rfl rfl HS14.out ?_)
          | ((with_reducible show wpList _ _ _ _ _ _); refine armL (.tmp 4) 25 rfl rfl rfl HLP14.out ?_)
          | ((with_reducible show wpList _ _ _ _ _ _); refine armL (.tmp 17) 27 rfl rfl rfl HLG14.out ?_)
        refine (HPZ2.out w14).mono ?_
        rintro e w15 ⟨rfl, hB15⟩
        unfold AE6
        obtain ⟨w16, hst16, b16, hB16⟩ := box_new Tryd.sizeOf23 w15 zero16V rfl (u8s z) (by rw [u8s_length, hz]) (u8s_one _)
        have HS16 : Hid _ := hst16
        have hB1416 := hB15.trans (hB16.mono hB15.size)
        have HLZ16 : Hid _ := load6 hz (CellsAt.of_blk ((hB1416.block (w.heap.size + 3) (by omega)).trans u3))
        have HLT16 : Hid _ := load6 hz (CellsAt.of_blk b16)
        have HBE : Hid (Below w.heap.size w w16) := hBw14.trans (hB1416.mono (by omega))
        have HEQ : Hid (∀ W, (binOp .eql 23 (A6 z) (A6 z)).run Tryd.prog W = .ok (.bool true) W) := fun W => by
          have := eqlA6 z z fz fz hz hz W
          rw [decide_eq_true rfl] at this
          exact this
        clear hst16 HLP14 HLG14 HPZ2 u0 u3 b16 hB15 hB16 hB1416 HS14
        go_wp2_with first
          | ((with_reducible show wpList _ _ _ _ _ _); refine armS (.tmp 19) (.tmp 101) 23 rfl rfl rfl rfl HS16.out ?_)
          | ((with_reducible show wpList _ _ _ _ _ _); refine armLg (.tmp 19) 23 rfl rfl rfl HLT16.out ?_)
          | ((with_reducible show wpList _ _ _ _ _ _); refine armLg (.tmp 7) 23 rfl rfl rfl HLZ16.out ?_)
          | ((with_reducible show wpList _ _ _ _ _ _); refine armBg .eql 23 23 (.tmp 106) (.tmp 107) rfl rfl rfl rfl (gdA6 _ _ _ _ _ _) (HEQ.out _) ?_)
        rw [← HQ.out]
        exact ⟨rfl, HBE.out⟩
      · have e1 : gg = zeroA4 := HGG.out.trans (if_neg hs0)
        have q9 : (se != 0) = true := by rw [HSE.out]; simpa using hs0
        clear HGG HSE hs0
        subst e1
        have HEQ : Hid (∀ W, (binOp .eql 27 (A4L zeroA4) (A4L zeroA4)).run Tryd.prog W = .ok (.bool true) W) := fun W => by
          have := eqlA4 zeroA4 zeroA4 (fit_of (by decide)) (fit_of (by decide)) rfl rfl W
          rw [decide_eq_true rfl] at this
          exact this
        go_wp2_with first
          | ((with_reducible show wpList _ _ _ _ _ _); refine armS (.tmp 17) (.tmp 90) 27 rfl rfl rfl rfl HS14.out ?_)
          | ((with_reducible show wpList _ _ _ _ _ _); refine armL (.tmp 17) 27 rfl rfl rfl HLG14.out ?_)
          | ((with_reducible show wpList _ _ _ _ _ _); refine armB .eql 27 27 (.tmp 94) (.tmp 95) rfl rfl rfl rfl (gdA4 _ _ _ _ _ _) (HEQ.out _) ?_)
        rw [← HQ.out]
        exact ⟨rfl, hBw14⟩
  · have e1 : xx = zeroA6 := HXX.out.trans (if_neg h0)
    have q0 : (ce != 0) = true := by rw [HCE.out]; simpa using h0
    clear HXX HYY HCE h0
    subst e1
    have HLX7 : Hid _ := load6 hAl (CellsAt.of_blk n5)
    have HEQ : Hid (∀ W, (binOp .eql 23 (A6 zeroA6) (A6 zeroA6)).run Tryd.prog W = .ok (.bool true) W) := fun W => by
      have := eqlA6 zeroA6 zeroA6 (fit_of (by decide)) (fit_of (by decide)) rfl rfl W
      rw [decide_eq_true rfl] at this
      exact this
    have HBZ : Hid (∀ W, (Instr.build 23 #[]).run Tryd.prog W = .ok (A6 zeroA6) W) := fun W => run_build W _ _ _ (by kernel_rfl)
    clear n5 b7 n0 n1 n2 n3
    go_wp2_with first
      | ((with_reducible show wpList _ _ _ _ _ _); refine armS (.tmp 11) (.tmp 33) 23 rfl rfl rfl rfl HS7.out ?_)
      | ((with_reducible show wpList _ _ _ _ _ _); refine armLg (.tmp 9) 23 rfl rfl rfl HLX7.out ?_)
      | ((with_reducible show wpList _ _ _ _ _ _); refine armBg .eql 23 23 (.tmp 45) (.tmp 46) rfl rfl rfl rfl (gdA6 _ _ _ _ _ _) (HEQ.out _) ?_)
    rw [← HQ.out]
    exact ⟨rfl, hBw7⟩

set_option maxRecDepth 100000 in
theorem embedBack_open {H : Type} {enc : TypeId × Value → H} {W : World} {base : Nat} (tb : Tz W) (v0 v1 v2 v3 : Value) {d0 d1 d2 d3 : DataW H} {p0 p1 p2 p3 : List MemPlace}
    (o0 : Value.okWide Tryd.prog W .any base 25 v0) (h0 : DataW.Trod enc Tryd.prog W 0 (fun _ => true) true 25 v0 d0 p0)
    (o1 : Value.okWide Tryd.prog W .any base 27 v1) (h1 : DataW.Trod enc Tryd.prog W 0 (fun _ => true) true 27 v1 d1 p1)
    (o2 : Value.okWide Tryd.prog W .any base 27 v2) (h2 : DataW.Trod enc Tryd.prog W 0 (fun _ => true) true 27 v2 d2 p2)
    (o3 : Value.okWide Tryd.prog W .any base 23 v3) (h3 : DataW.Trod enc Tryd.prog W 0 (fun _ => true) true 23 v3 d3 p3) :
    Calls Tryd.prog 7 #[v0, v1, v2, v3] W fun e w' => e = .returned (.bool true) ∧ Below W.heap.size W w' := by
  obtain ⟨l, n, rfl, ll, lf, wn⟩ := open_prefix6 h0
  obtain ⟨a0, a1, a2, a3, rfl, g0, g1, g2, g3⟩ := open_addr4 h1
  obtain ⟨b0, b1, b2, b3, rfl, f0, f1, f2, f3⟩ := open_addr4 h2
  obtain ⟨z, rfl, zl, zf⟩ := open_addr6 h3
  exact back_walk l [a0, a1, a2, a3] [b0, b1, b2, b3] z n W tb ll lf (bounds_i64 wn) rfl (fit4 g0 g1 g2 g3) rfl (fit4 f0 f1 f2 f3) zl zf

end Go.Proofs.YtfiiopgdgfbkkaaDoor
