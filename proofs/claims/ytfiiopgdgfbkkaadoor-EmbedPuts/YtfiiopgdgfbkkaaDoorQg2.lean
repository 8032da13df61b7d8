/-
  Package embed: the variable special; Global; Known of both sides.
-/
import Derived.Test.YtfiiopgdgfbkkaaDoorQg1
namespace Go.Proofs.YtfiiopgdgfbkkaaDoor
open Go Go.RowKit Go.ChangeShapes Go.WideShapes Go.ChangeAt
set_option linter.unusedVariables false
set_option linter.unusedSimpArgs false

theorem chunks5 : ∀ (k : Nat) (cs : List Value), cs.length = 5 * k → cs = ((List.range k).map (fun i => (cs.drop (i * 5)).take 5)).flatten
  | 0, cs, h => by
    have : cs = [] := List.length_eq_zero_iff.1 (by omega)
    subst this
    rfl
  | k + 1, cs, h => by
    have ih := chunks5 k (cs.take (5 * k)) (by rw [List.length_take]; omega)
    rw [List.range_succ, List.map_append, List.flatten_append]
    have e : (List.range k).map (fun i => ((cs.take (5 * k)).drop (i * 5)).take 5) = (List.range k).map (fun i => (cs.drop (i * 5)).take 5) := by
      refine List.map_congr_left fun i hi => ?_
      have hik : i < k := List.mem_range.1 hi
      rw [List.drop_take, List.take_take, Nat.min_eq_left (by omega)]
    rw [← e, ← ih]
    simp only [List.map_cons, List.map_nil, List.flatten_cons, List.flatten_nil, List.append_nil]
    rw [show k * 5 = 5 * k from Nat.mul_comm _ _, List.take_of_length_le (l := cs.drop (5 * k)) (by rw [List.length_drop]; omega), List.take_append_drop]

/-- An IPv4 prefix that reads as its numbers. -/
theorem cells_pre4 {H : Type} {enc : TypeId × Value → H} {W : World} {base : Nat} {sp : Nat → Bool} {held : Bool} {fuel : Nat} {cs : List Value} {x : DataW H × List MemPlace} {a : List Int} {n : Int}
    (h : DataW.trod enc Tryd.prog W base sp held fuel 42 cs = some x) (hx : x.1 = .agg [Lib.tabData .u8 a, .lit (.int .i64 n)]) : cs = cp4 a n := by
  obtain ⟨y0, y1, m, hxe, hl, h0, h1⟩ := Go.ChangeShapes.trod_struct2 Tryd.underlying42 h
  have c5 : Tryd.prog.cellsOf 42 = 5 := by kernel_rfl
  rw [c5] at hl
  have c4 : Tryd.prog.cellsOf 27 = 4 := by kernel_rfl
  have c1 : Tryd.prog.cellsOf 3 = 1 := by kernel_rfl
  have h0' : DataW.trod enc Tryd.prog W base sp held m 27 ((cs.drop 0).take (Tryd.prog.cellsOf 27)) = some y0 := h0
  have h1' : DataW.trod enc Tryd.prog W base sp held m 3 ((cs.drop 4).take (Tryd.prog.cellsOf 3)) = some y1 := h1
  rw [c4] at h0'
  rw [c1] at h1'
  rw [hxe] at hx
  simp only [DataW.agg.injEq, List.cons.injEq, and_true] at hx
  obtain ⟨e0, e1⟩ := hx
  have h0'' : DataW.trod enc Tryd.prog W base sp held m 27 ((cs.drop 0).take 4) = some (Lib.tabData .u8 a, y0.2) := by rw [h0', ← e0]
  have k0 := Lib.cells_of_tab Tryd.underlying27 Tryd.underlying5 (by kernel_rfl) (by kernel_rfl) h0''
  obtain ⟨z, hz, hze, _⟩ := DataW.trod_int Tryd.underlying3 h1'
  rw [hze] at e1
  simp only [DataW.lit.injEq, Lit.int.injEq, true_and] at e1
  have e : cs = cs.take 4 ++ (cs.drop 4).take 1 := by
    rw [List.take_of_length_le (l := cs.drop 4) (by rw [List.length_drop]; omega), List.take_append_drop]
  rw [e, hz, e1]
  rw [List.drop_zero] at k0
  rw [k0]
  rfl

/-- The fourteen prefixes lie in the variable, now and in every world above. -/
def Spc (W : World) : Prop := 0 < W.heap.size ∧ ∀ W', Below W.heap.size W W' → CellsAt W' 0 0 spcV
theorem Spc.on {W W' : World} (h : Spc W) (hb : Below W.heap.size W W') : Spc W' := ⟨Nat.lt_of_lt_of_le h.1 hb.size, fun V hV => h.2 V (hb.trans (hV.mono hb.size))⟩

theorem gsp : Tryd.prog.globalNamed "ferryman/embed.special" = some 0 := by kernel_rfl
theorem gspt : (Tryd.prog.globals[0]?).map (·.type) = some 60 := by kernel_rfl

set_option maxRecDepth 100000 in
theorem spc_of {W : World} (h : laidMet Tryd.prog [("ferryman/embed.special", Rows.laid_ferryman_embed_special)] W) : Spc W := by
  obtain ⟨ps, ⟨g', t', cs, fuel, p, q, hg', ht', hvar, hd, _, _⟩, _⟩ := h
  obtain rfl := Option.some.inj (gsp.symm.trans hg')
  obtain rfl := Option.some.inj (gspt.symm.trans ht')
  obtain ⟨xs, m, _, hx, hl, hxl, hi⟩ := DataW.trod_array Tryd.underlying60 hd
  have c5 : Tryd.prog.cellsOf 42 = 5 := by kernel_rfl
  have c70 : Tryd.prog.cellsOf 60 = 70 := by kernel_rfl
  rw [c70] at hl
  rw [c5] at hi
  have hxs : xs.map (·.1) = spc.map (fun p => (.agg [Lib.tabData .u8 p.1, .lit (.int .i64 p.2)] : DataW Unit)) := by
    have := congrArg Prod.fst hx
    simp only at this
    unfold Rows.laid_ferryman_embed_special at this
    simp only [DataW.agg.injEq] at this
    rw [← this]
    rfl
  have each : ∀ i, i < 14 → (cs.toList.drop (i * 5)).take 5 = cp4 (spc.getD i ([], 0)).1 (spc.getD i ([], 0)).2 := by
    intro i hin
    have h1 := hi i hin
    rw [List.getElem?_eq_getElem (by omega)] at h1
    refine cells_pre4 h1 ?_
    have h2 := congrArg (·[i]?) hxs
    simp only [List.getElem?_map] at h2
    rw [List.getElem?_eq_getElem (by omega), List.getElem?_eq_getElem (show i < spc.length from hin)] at h2
    simp only [Option.map_some, Option.some.injEq] at h2
    rw [h2, List.getD_eq_getElem?_getD, List.getElem?_eq_getElem (show i < spc.length from hin)]
    rfl
  have hcs : cs.toList = spcV := by
    rw [chunks5 14 cs.toList (by simpa using hl)]
    have e : (List.range 14).map (fun i => (cs.toList.drop (i * 5)).take 5) = (List.range 14).map (fun i => cp4 (spc.getD i ([], 0)).1 (spc.getD i ([], 0)).2) := List.map_congr_left fun i hi => each i (List.mem_range.1 hi)
    rw [e]
    rfl
  have hvar2 : W.var? Tryd.prog "ferryman/embed.special" = some spcV.toArray := by
    rw [hvar, ← hcs]
  unfold World.var? at hvar2
  rw [gsp] at hvar2
  simp only [Option.bind_some] at hvar2
  cases hw : W.heap[0]? with
  | none => rw [hw] at hvar2; simp at hvar2
  | some o =>
    have hlt : 0 < W.heap.size := (Array.getElem?_eq_some_iff.1 hw).1
    refine ⟨hlt, fun W' hb j v hj => ?_⟩
    have hw' : W'.heap[0]? = W.heap[0]? := hb.block 0 hlt
    rw [hw] at hvar2 hw'
    cases o with
    | cells c t fz =>
      simp at hvar2
      subst hvar2
      simp only [World.cell?, hw', Nat.zero_add]
      simpa using hj
    | _ => simp at hvar2

set_option maxHeartbeats 1000000 in
set_option maxRecDepth 100000 in
theorem Known_any (w : World) : Calls Tryd.prog 22 #[] w fun e w' => e = .returned (P6 kP2A 96) ∧ Below w.heap.size w w' := by
  have hA16 : kP2A.length = 16 := rfl
  obtain ⟨w2, hst2, b2, hB2⟩ := box_new Tryd.sizeOf25 w zero17V rfl (cp6 kP2A 96) (cp6_length _ _ hA16) (cp6_one _ _)
  have HS2 : Hid _ := hst2
  have HLV : Hid _ := loadVarP6 hA16 (CellsAt.pfx hA16 b2).1
  clear hst2 b2
  go_enter Tryd.func22, Tryd.ntmps22
  go_wp2_with ((with_reducible show wpList _ _ _ _ _ _); refine armS (.tmp 0) (.tmp 2) 25 rfl rfl rfl rfl HS2.out ?_)
  exact bodyPost_ret (res_cell1 Tryd.results22 rfl HLV.out) rfl ⟨rfl, hB2⟩

set_option maxHeartbeats 1000000 in
set_option maxRecDepth 100000 in
theorem RKnown_any (w : World) : Calls Tryd.prog 23 #[] w fun e w' => e = .returned (P6 kP2A 96) ∧ Below w.heap.size w w' := by
  have hA16 : kP2A.length = 16 := rfl
  have hb0 := blk_new w (.cells zero17V.toArray 25)
  have hB0 := (Below.refl w.heap.size w).alloc (Nat.le_refl _) (.cells zero17V.toArray 25)
  have hz : (w.alloc (.cells zero17V.toArray 25)).heap.size = w.heap.size + 1 := by simp
  have HZ : Hid _ := hz
  have HP6 : Hid _ := fun W => Prefix6_good kP2 9 kP2A 96 kP2_good W
  clear hz
  go_enter Tryd.func23, Tryd.ntmps23
  go_wp2_with fail
  generalize hW : w.alloc (.cells zero17V.toArray 25) = W0 at *
  clear hW
  refine (HP6.out W0).mono ?_
  rintro e w1 ⟨rfl, hB1⟩
  have hz := HZ.out
  obtain ⟨w2, hst2, b2, hB2⟩ := box_new Tryd.sizeOf25 w1 zero17V rfl (cp6 kP2A 96) (cp6_length _ _ hA16) (cp6_one _ _)
  have HS2 : Hid _ := hst2
  have hB02 := hB1.trans (hB2.mono hB1.size)
  have hb2 := (hB02.block w.heap.size (by omega)).trans hb0
  have hBw2 := hB0.trans (hB02.mono (by omega))
  have HL : Hid _ := loadP6 hA16 (CellsAt.pfx hA16 b2).1
  obtain ⟨wE, hst, bE, honE⟩ := box_store Tryd.sizeOf25 hb2 rfl (cp6 kP2A 96) (cp6_length _ _ hA16) (cp6_one _ _)
  have HLV : Hid _ := loadVarP6 hA16 (CellsAt.pfx hA16 bE).1
  have HSQ : Hid _ := hst
  have HBE : Hid (Below w.heap.size w wE) := hBw2.trans (honE.below (Nat.le_refl _))
  clear hst2 hst bE honE b2 hB1 hB2 hB02 HP6 hb0 hB0 hz HZ hb2 hBw2
  go_wp2_with first
    | ((with_reducible show wpList _ _ _ _ _ _); refine armS (.tmp 1) (.tmp 6) 25 rfl rfl rfl rfl HS2.out ?_)
    | ((with_reducible show wpList _ _ _ _ _ _); refine armL (.tmp 1) 25 rfl rfl rfl HL.out ?_)
    | ((with_reducible show wpList _ _ _ _ _ _); refine armS (.tmp 0) (.tmp 9) 25 rfl rfl rfl rfl HSQ.out ?_)
  exact bodyPost_ret (res_cell1 Tryd.results23 rfl HLV.out) rfl ⟨rfl, HBE.out⟩

set_option maxHeartbeats 6000000 in
set_option maxRecDepth 100000 in
theorem Global_any (a : List Int) (w : World) (hsp : Spc w) (ha : a.length = 4) (fa : FitB a) : Calls Tryd.prog 20 #[A4L a] w fun e w' => PutPost (.bool (globB a)) w e w' := by
  generalize hQ : (fun e w' => PutPost (.bool (globB a)) w e w') = Q
  have HQ : Hid _ := hQ
  clear hQ
  have hb0 := blk_new w (.cells (b8 a).toArray 27)
  have hBw := (Below.refl w.heap.size w).alloc (Nat.le_refl _) (.cells (b8 a).toArray 27)
  have hz : (w.alloc (.cells (b8 a).toArray 27)).heap.size = w.heap.size + 1 := by simp
  have HL0 : Hid _ := agg_load (t := 60) Tryd.isAgg60 Tryd.sizeOf60 (vs := spcV) rfl (hsp.2 _ hBw)
  have HZ : Hid _ := hz
  clear hz hsp
  generalize hW : w.alloc (.cells (b8 a).toArray 27) = W2 at *
  go_enter Tryd.func20, Tryd.ntmps20
  go_wp2_with ((with_reducible show wpList _ _ _ _ _ _); refine armL (.global 0) 60 rfl rfl rfl HL0.out ?_)
  clear HL0 hW
  go_loopw [8] (fun i wr => ∃ k : Nat, k ≤ 14 ∧ i = .int .i64 k ∧ (spc.take k).all (fun p => !has4L p.1 p.2 a) = true ∧ Below W2.heap.size W2 wr) (fun i _ => 14 - (intOf i).toNat)
  case atStart => exact ⟨0, Nat.zero_le _, rfl, rfl, Below.refl _ _⟩
  case round =>
    obtain ⟨k, hk, rfl, hall, hB⟩ := hrel
    have hz := HZ.out
    have HALL : Hid _ := hall
    clear hall
    by_cases hlt : k < 14
    · have hba := (hB.block w.heap.size (by omega)).trans hb0
      have hsz := hB.size
      have hkk : k = 0 ∨ k = 1 ∨ k = 2 ∨ k = 3 ∨ k = 4 ∨ k = 5 ∨ k = 6 ∨ k = 7 ∨ k = 8 ∨ k = 9 ∨ k = 10 ∨ k = 11 ∨ k = 12 ∨ k = 13 := by omega
      rcases hkk with rfl | rfl | rfl | rfl | rfl | rfl | rfl | rfl | rfl | rfl | rfl | rfl | rfl | rfl
      · have hS := fun W => (spc_has 0 ([0, 0, 0, 0], 8) rfl a ha fa W).1
        have hN := glob_next (a := a) (k := 0) (p := ([0, 0, 0, 0], 8)) rfl HALL.out
        have hO := glob_no (a := a) (k := 0) (p := ([0, 0, 0, 0], 8)) rfl
        have HS : Hid _ := hS
        have HN : Hid _ := hN
        have HO : Hid _ := hO
        clear hS hN hO
        generalize hbb : has4L ([0, 0, 0, 0], (8 : Int)).1 ([0, 0, 0, 0], (8 : Int)).2 a = bb at *
        clear hbb
        obtain ⟨w4, hst4, b4, hB4⟩ := box_new Tryd.sizeOf42 wr zero5V rfl (cp4 [0, 0, 0, 0] 8) rfl (cp4_one _ _)
        have HS4 : Hid _ := hst4
        have L5 : Hid _ := agg_load (t := 42) Tryd.isAgg42 Tryd.sizeOf42 (vs := cp4 [0, 0, 0, 0] 8) rfl (CellsAt.of_blk b4)
        have L1 : Hid _ := agg_load (t := 27) Tryd.isAgg27 Tryd.sizeOf27 (vs := b8 a) (by rw [b8_length, ha]) (CellsAt.of_blk ((hB4.block w.heap.size (by omega)).trans hba))
        have hB2 : Below W2.heap.size W2 w4 := hB.trans (hB4.mono hB.size)
        clear hst4 b4 hB4
        go_wp2_with first
          | ((with_reducible show wpList _ _ _ _ _ _); refine armV (Op.index 60 (.tmp 7) (.tmp 8)) rfl rfl (v := P4L [0, 0, 0, 0] 8) (by kernel_rfl) ?_)
          | ((with_reducible show wpList _ _ _ _ _ _); refine armS (.tmp 4) (.tmp 10) 42 rfl rfl rfl rfl HS4.out ?_)
          | ((with_reducible show wpList _ _ _ _ _ _); refine armL (.tmp 4) 42 rfl rfl rfl L5.out ?_)
          | ((with_reducible show wpList _ _ _ _ _ _); refine armL (.tmp 1) 27 rfl rfl rfl L1.out ?_)
        refine (HS.out w4).mono ?_
        rintro e w5 ⟨rfl, hB5⟩
        have hB6 : Below W2.heap.size W2 w5 := hB2.trans (hB5.mono hB2.size)
        cases bb
        · go_wp2
          exact ⟨⟨1, by decide, by simp, HN.out (by first | rfl | trivial), hB6⟩, by simp [intOf]⟩
        · have hg : globB a = false := HO.out (by first | rfl | trivial)
          rw [hg] at HQ
          have HBE : Hid (Below w.heap.size w w5) := hBw.trans (hB6.mono (by omega))
          go_wp2
          rw [← HQ.out]
          exact ⟨rfl, HBE.out⟩
      · have hS := fun W => (spc_has 1 ([10, 0, 0, 0], 8) rfl a ha fa W).1
        have hN := glob_next (a := a) (k := 1) (p := ([10, 0, 0, 0], 8)) rfl HALL.out
        have hO := glob_no (a := a) (k := 1) (p := ([10, 0, 0, 0], 8)) rfl
        have HS : Hid _ := hS
        have HN : Hid _ := hN
        have HO : Hid _ := hO
        clear hS hN hO
        generalize hbb : has4L ([10, 0, 0, 0], (8 : Int)).1 ([10, 0, 0, 0], (8 : Int)).2 a = bb at *
        clear hbb
        obtain ⟨w4, hst4, b4, hB4⟩ := box_new Tryd.sizeOf42 wr zero5V rfl (cp4 [10, 0, 0, 0] 8) rfl (cp4_one _ _)
        have HS4 : Hid _ := hst4
        have L5 : Hid _ := agg_load (t := 42) Tryd.isAgg42 Tryd.sizeOf42 (vs := cp4 [10, 0, 0, 0] 8) rfl (CellsAt.of_blk b4)
        have L1 : Hid _ := agg_load (t := 27) Tryd.isAgg27 Tryd.sizeOf27 (vs := b8 a) (by rw [b8_length, ha]) (CellsAt.of_blk ((hB4.block w.heap.size (by omega)).trans hba))
        have hB2 : Below W2.heap.size W2 w4 := hB.trans (hB4.mono hB.size)
        clear hst4 b4 hB4
        go_wp2_with first
          | ((with_reducible show wpList _ _ _ _ _ _); refine armV (Op.index 60 (.tmp 7) (.tmp 8)) rfl rfl (v := P4L [10, 0, 0, 0] 8) (by kernel_rfl) ?_)
          | ((with_reducible show wpList _ _ _ _ _ _); refine armS (.tmp 4) (.tmp 10) 42 rfl rfl rfl rfl HS4.out ?_)
          | ((with_reducible show wpList _ _ _ _ _ _); refine armL (.tmp 4) 42 rfl rfl rfl L5.out ?_)
          | ((with_reducible show wpList _ _ _ _ _ _); refine armL (.tmp 1) 27 rfl rfl rfl L1.out ?_)
        refine (HS.out w4).mono ?_
        rintro e w5 ⟨rfl, hB5⟩
        have hB6 : Below W2.heap.size W2 w5 := hB2.trans (hB5.mono hB2.size)
        cases bb
        · go_wp2
          exact ⟨⟨2, by decide, by simp, HN.out (by first | rfl | trivial), hB6⟩, by simp [intOf]⟩
        · have hg : globB a = false := HO.out (by first | rfl | trivial)
          rw [hg] at HQ
          have HBE : Hid (Below w.heap.size w w5) := hBw.trans (hB6.mono (by omega))
          go_wp2
          rw [← HQ.out]
          exact ⟨rfl, HBE.out⟩
      · have hS := fun W => (spc_has 2 ([100, 64, 0, 0], 10) rfl a ha fa W).1
        have hN := glob_next (a := a) (k := 2) (p := ([100, 64, 0, 0], 10)) rfl HALL.out
        have hO := glob_no (a := a) (k := 2) (p := ([100, 64, 0, 0], 10)) rfl
        have HS : Hid _ := hS
        have HN : Hid _ := hN
        have HO : Hid _ := hO
        clear hS hN hO
        generalize hbb : has4L ([100, 64, 0, 0], (10 : Int)).1 ([100, 64, 0, 0], (10 : Int)).2 a = bb at *
        clear hbb
        obtain ⟨w4, hst4, b4, hB4⟩ := box_new Tryd.sizeOf42 wr zero5V rfl (cp4 [100, 64, 0, 0] 10) rfl (cp4_one _ _)
        have HS4 : Hid _ := hst4
        have L5 : Hid _ := agg_load (t := 42) Tryd.isAgg42 Tryd.sizeOf42 (vs := cp4 [100, 64, 0, 0] 10) rfl (CellsAt.of_blk b4)
        have L1 : Hid _ := agg_load (t := 27) Tryd.isAgg27 Tryd.sizeOf27 (vs := b8 a) (by rw [b8_length, ha]) (CellsAt.of_blk ((hB4.block w.heap.size (by omega)).trans hba))
        have hB2 : Below W2.heap.size W2 w4 := hB.trans (hB4.mono hB.size)
        clear hst4 b4 hB4
        go_wp2_with first
          | ((with_reducible show wpList _ _ _ _ _ _); refine armV (Op.index 60 (.tmp 7) (.tmp 8)) rfl rfl (v := P4L [100, 64, 0, 0] 10) (by kernel_rfl) ?_)
          | ((with_reducible show wpList _ _ _ _ _ _); refine armS (.tmp 4) (.tmp 10) 42 rfl rfl rfl rfl HS4.out ?_)
          | ((with_reducible show wpList _ _ _ _ _ _); refine armL (.tmp 4) 42 rfl rfl rfl L5.out ?_)
          | ((with_reducible show wpList _ _ _ _ _ _); refine armL (.tmp 1) 27 rfl rfl rfl L1.out ?_)
        refine (HS.out w4).mono ?_
        rintro e w5 ⟨rfl, hB5⟩
        have hB6 : Below W2.heap.size W2 w5 := hB2.trans (hB5.mono hB2.size)
        cases bb
        · go_wp2
          exact ⟨⟨3, by decide, by simp, HN.out (by first | rfl | trivial), hB6⟩, by simp [intOf]⟩
        · have hg : globB a = false := HO.out (by first | rfl | trivial)
          rw [hg] at HQ
          have HBE : Hid (Below w.heap.size w w5) := hBw.trans (hB6.mono (by omega))
          go_wp2
          rw [← HQ.out]
          exact ⟨rfl, HBE.out⟩
      · have hS := fun W => (spc_has 3 ([127, 0, 0, 0], 8) rfl a ha fa W).1
        have hN := glob_next (a := a) (k := 3) (p := ([127, 0, 0, 0], 8)) rfl HALL.out
        have hO := glob_no (a := a) (k := 3) (p := ([127, 0, 0, 0], 8)) rfl
        have HS : Hid _ := hS
        have HN : Hid _ := hN
        have HO : Hid _ := hO
        clear hS hN hO
        generalize hbb : has4L ([127, 0, 0, 0], (8 : Int)).1 ([127, 0, 0, 0], (8 : Int)).2 a = bb at *
        clear hbb
        obtain ⟨w4, hst4, b4, hB4⟩ := box_new Tryd.sizeOf42 wr zero5V rfl (cp4 [127, 0, 0, 0] 8) rfl (cp4_one _ _)
        have HS4 : Hid _ := hst4
        have L5 : Hid _ := agg_load (t := 42) Tryd.isAgg42 Tryd.sizeOf42 (vs := cp4 [127, 0, 0, 0] 8) rfl (CellsAt.of_blk b4)
        have L1 : Hid _ := agg_load (t := 27) Tryd.isAgg27 Tryd.sizeOf27 (vs := b8 a) (by rw [b8_length, ha]) (CellsAt.of_blk ((hB4.block w.heap.size (by omega)).trans hba))
        have hB2 : Below W2.heap.size W2 w4 := hB.trans (hB4.mono hB.size)
        clear hst4 b4 hB4
        go_wp2_with first
          | ((with_reducible show wpList _ _ _ _ _ _); refine armV (Op.index 60 (.tmp 7) (.tmp 8)) rfl rfl (v := P4L [127, 0, 0, 0] 8) (by kernel_rfl) ?_)
          | ((with_reducible show wpList _ _ _ _ _ _); refine armS (.tmp 4) (.tmp 10) 42 rfl rfl rfl rfl HS4.out ?_)
          | ((with_reducible show wpList _ _ _ _ _ _); refine armL (.tmp 4) 42 rfl rfl rfl L5.out ?_)
          | ((with_reducible show wpList _ _ _ _ _ _); refine armL (.tmp 1) 27 rfl rfl rfl L1.out ?_)
        refine (HS.out w4).mono ?_
        rintro e w5 ⟨rfl, hB5⟩
        have hB6 : Below W2.heap.size W2 w5 := hB2.trans (hB5.mono hB2.size)
        cases bb
        · go_wp2
          exact ⟨⟨4, by decide, by simp, HN.out (by first | rfl | trivial), hB6⟩, by simp [intOf]⟩
        · have hg : globB a = false := HO.out (by first | rfl | trivial)
          rw [hg] at HQ
          have HBE : Hid (Below w.heap.size w w5) := hBw.trans (hB6.mono (by omega))
          go_wp2
          rw [← HQ.out]
          exact ⟨rfl, HBE.out⟩
      · have hS := fun W => (spc_has 4 ([169, 254, 0, 0], 16) rfl a ha fa W).1
        have hN := glob_next (a := a) (k := 4) (p := ([169, 254, 0, 0], 16)) rfl HALL.out
        have hO := glob_no (a := a) (k := 4) (p := ([169, 254, 0, 0], 16)) rfl
        have HS : Hid _ := hS
        have HN : Hid _ := hN
        have HO : Hid _ := hO
        clear hS hN hO
        generalize hbb : has4L ([169, 254, 0, 0], (16 : Int)).1 ([169, 254, 0, 0], (16 : Int)).2 a = bb at *
        clear hbb
        obtain ⟨w4, hst4, b4, hB4⟩ := box_new Tryd.sizeOf42 wr zero5V rfl (cp4 [169, 254, 0, 0] 16) rfl (cp4_one _ _)
        have HS4 : Hid _ := hst4
        have L5 : Hid _ := agg_load (t := 42) Tryd.isAgg42 Tryd.sizeOf42 (vs := cp4 [169, 254, 0, 0] 16) rfl (CellsAt.of_blk b4)
        have L1 : Hid _ := agg_load (t := 27) Tryd.isAgg27 Tryd.sizeOf27 (vs := b8 a) (by rw [b8_length, ha]) (CellsAt.of_blk ((hB4.block w.heap.size (by omega)).trans hba))
        have hB2 : Below W2.heap.size W2 w4 := hB.trans (hB4.mono hB.size)
        clear hst4 b4 hB4
        go_wp2_with first
          | ((with_reducible show wpList _ _ _ _ _ _); refine armV (Op.index 60 (.tmp 7) (.tmp 8)) rfl rfl (v := P4L [169, 254, 0, 0] 16) (by kernel_rfl) ?_)
          | ((with_reducible show wpList _ _ _ _ _ _); refine armS (.tmp 4) (.tmp 10) 42 rfl rfl rfl rfl HS4.out ?_)
          | ((with_reducible show wpList _ _ _ _ _ _); refine armL (.tmp 4) 42 rfl rfl rfl L5.out ?_)
          | ((with_reducible show wpList _ _ _ _ _ _); refine armL (.tmp 1) 27 rfl rfl rfl L1.out ?_)
        refine (HS.out w4).mono ?_
        rintro e w5 ⟨rfl, hB5⟩
        have hB6 : Below W2.heap.size W2 w5 := hB2.trans (hB5.mono hB2.size)
        cases bb
        · go_wp2
          exact ⟨⟨5, by decide, by simp, HN.out (by first | rfl | trivial), hB6⟩, by simp [intOf]⟩
        · have hg : globB a = false := HO.out (by first | rfl | trivial)
          rw [hg] at HQ
          have HBE : Hid (Below w.heap.size w w5) := hBw.trans (hB6.mono (by omega))
          go_wp2
          rw [← HQ.out]
          exact ⟨rfl, HBE.out⟩
      · have hS := fun W => (spc_has 5 ([172, 16, 0, 0], 12) rfl a ha fa W).1
        have hN := glob_next (a := a) (k := 5) (p := ([172, 16, 0, 0], 12)) rfl HALL.out
        have hO := glob_no (a := a) (k := 5) (p := ([172, 16, 0, 0], 12)) rfl
        have HS : Hid _ := hS
        have HN : Hid _ := hN
        have HO : Hid _ := hO
        clear hS hN hO
        generalize hbb : has4L ([172, 16, 0, 0], (12 : Int)).1 ([172, 16, 0, 0], (12 : Int)).2 a = bb at *
        clear hbb
        obtain ⟨w4, hst4, b4, hB4⟩ := box_new Tryd.sizeOf42 wr zero5V rfl (cp4 [172, 16, 0, 0] 12) rfl (cp4_one _ _)
        have HS4 : Hid _ := hst4
        have L5 : Hid _ := agg_load (t := 42) Tryd.isAgg42 Tryd.sizeOf42 (vs := cp4 [172, 16, 0, 0] 12) rfl (CellsAt.of_blk b4)
        have L1 : Hid _ := agg_load (t := 27) Tryd.isAgg27 Tryd.sizeOf27 (vs := b8 a) (by rw [b8_length, ha]) (CellsAt.of_blk ((hB4.block w.heap.size (by omega)).trans hba))
        have hB2 : Below W2.heap.size W2 w4 := hB.trans (hB4.mono hB.size)
        clear hst4 b4 hB4
        go_wp2_with first
          | ((with_reducible show wpList _ _ _ _ _ _); refine armV (Op.index 60 (.tmp 7) (.tmp 8)) rfl rfl (v := P4L [172, 16, 0, 0] 12) (by kernel_rfl) ?_)
          | ((with_reducible show wpList _ _ _ _ _ _); refine armS (.tmp 4) (.tmp 10) 42 rfl rfl rfl rfl HS4.out ?_)
          | ((with_reducible show wpList _ _ _ _ _ _); refine armL (.tmp 4) 42 rfl rfl rfl L5.out ?_)
          | ((with_reducible show wpList _ _ _ _ _ _); refine armL (.tmp 1) 27 rfl rfl rfl L1.out ?_)
        refine (HS.out w4).mono ?_
        rintro e w5 ⟨rfl, hB5⟩
        have hB6 : Below W2.heap.size W2 w5 := hB2.trans (hB5.mono hB2.size)
        cases bb
        · go_wp2
          exact ⟨⟨6, by decide, by simp, HN.out (by first | rfl | trivial), hB6⟩, by simp [intOf]⟩
        · have hg : globB a = false := HO.out (by first | rfl | trivial)
          rw [hg] at HQ
          have HBE : Hid (Below w.heap.size w w5) := hBw.trans (hB6.mono (by omega))
          go_wp2
          rw [← HQ.out]
          exact ⟨rfl, HBE.out⟩
      · have hS := fun W => (spc_has 6 ([192, 0, 0, 0], 24) rfl a ha fa W).1
        have hN := glob_next (a := a) (k := 6) (p := ([192, 0, 0, 0], 24)) rfl HALL.out
        have hO := glob_no (a := a) (k := 6) (p := ([192, 0, 0, 0], 24)) rfl
        have HS : Hid _ := hS
        have HN : Hid _ := hN
        have HO : Hid _ := hO
        clear hS hN hO
        generalize hbb : has4L ([192, 0, 0, 0], (24 : Int)).1 ([192, 0, 0, 0], (24 : Int)).2 a = bb at *
        clear hbb
        obtain ⟨w4, hst4, b4, hB4⟩ := box_new Tryd.sizeOf42 wr zero5V rfl (cp4 [192, 0, 0, 0] 24) rfl (cp4_one _ _)
        have HS4 : Hid _ := hst4
        have L5 : Hid _ := agg_load (t := 42) Tryd.isAgg42 Tryd.sizeOf42 (vs := cp4 [192, 0, 0, 0] 24) rfl (CellsAt.of_blk b4)
        have L1 : Hid _ := agg_load (t := 27) Tryd.isAgg27 Tryd.sizeOf27 (vs := b8 a) (by rw [b8_length, ha]) (CellsAt.of_blk ((hB4.block w.heap.size (by omega)).trans hba))
        have hB2 : Below W2.heap.size W2 w4 := hB.trans (hB4.mono hB.size)
        clear hst4 b4 hB4
        go_wp2_with first
          | ((with_reducible show wpList _ _ _ _ _ _); refine armV (Op.index 60 (.tmp 7) (.tmp 8)) rfl rfl (v := P4L [192, 0, 0, 0] 24) (by kernel_rfl) ?_)
          | ((with_reducible show wpList _ _ _ _ _ _); refine armS (.tmp 4) (.tmp 10) 42 rfl rfl rfl rfl HS4.out ?_)
          | ((with_reducible show wpList _ _ _ _ _ _); refine armL (.tmp 4) 42 rfl rfl rfl L5.out ?_)
          | ((with_reducible show wpList _ _ _ _ _ _); refine armL (.tmp 1) 27 rfl rfl rfl L1.out ?_)
        refine (HS.out w4).mono ?_
        rintro e w5 ⟨rfl, hB5⟩
        have hB6 : Below W2.heap.size W2 w5 := hB2.trans (hB5.mono hB2.size)
        cases bb
        · go_wp2
          exact ⟨⟨7, by decide, by simp, HN.out (by first | rfl | trivial), hB6⟩, by simp [intOf]⟩
        · have hg : globB a = false := HO.out (by first | rfl | trivial)
          rw [hg] at HQ
          have HBE : Hid (Below w.heap.size w w5) := hBw.trans (hB6.mono (by omega))
          go_wp2
          rw [← HQ.out]
          exact ⟨rfl, HBE.out⟩
      · have hS := fun W => (spc_has 7 ([192, 0, 2, 0], 24) rfl a ha fa W).1
        have hN := glob_next (a := a) (k := 7) (p := ([192, 0, 2, 0], 24)) rfl HALL.out
        have hO := glob_no (a := a) (k := 7) (p := ([192, 0, 2, 0], 24)) rfl
        have HS : Hid _ := hS
        have HN : Hid _ := hN
        have HO : Hid _ := hO
        clear hS hN hO
        generalize hbb : has4L ([192, 0, 2, 0], (24 : Int)).1 ([192, 0, 2, 0], (24 : Int)).2 a = bb at *
        clear hbb
        obtain ⟨w4, hst4, b4, hB4⟩ := box_new Tryd.sizeOf42 wr zero5V rfl (cp4 [192, 0, 2, 0] 24) rfl (cp4_one _ _)
        have HS4 : Hid _ := hst4
        have L5 : Hid _ := agg_load (t := 42) Tryd.isAgg42 Tryd.sizeOf42 (vs := cp4 [192, 0, 2, 0] 24) rfl (CellsAt.of_blk b4)
        have L1 : Hid _ := agg_load (t := 27) Tryd.isAgg27 Tryd.sizeOf27 (vs := b8 a) (by rw [b8_length, ha]) (CellsAt.of_blk ((hB4.block w.heap.size (by omega)).trans hba))
        have hB2 : Below W2.heap.size W2 w4 := hB.trans (hB4.mono hB.size)
        clear hst4 b4 hB4
        go_wp2_with first
          | ((with_reducible show wpList _ _ _ _ _ _); refine armV (Op.index 60 (.tmp 7) (.tmp 8)) rfl rfl (v := P4L [192, 0, 2, 0] 24) (by kernel_rfl) ?_)
          | ((with_reducible show wpList _ _ _ _ _ _); refine armS (.tmp 4) (.tmp 10) 42 rfl rfl rfl rfl HS4.out ?_)
          | ((with_reducible show wpList _ _ _ _ _ _); refine armL (.tmp 4) 42 rfl rfl rfl L5.out ?_)
          | ((with_reducible show wpList _ _ _ _ _ _); refine armL (.tmp 1) 27 rfl rfl rfl L1.out ?_)
        refine (HS.out w4).mono ?_
        rintro e w5 ⟨rfl, hB5⟩
        have hB6 : Below W2.heap.size W2 w5 := hB2.trans (hB5.mono hB2.size)
        cases bb
        · go_wp2
          exact ⟨⟨8, by decide, by simp, HN.out (by first | rfl | trivial), hB6⟩, by simp [intOf]⟩
        · have hg : globB a = false := HO.out (by first | rfl | trivial)
          rw [hg] at HQ
          have HBE : Hid (Below w.heap.size w w5) := hBw.trans (hB6.mono (by omega))
          go_wp2
          rw [← HQ.out]
          exact ⟨rfl, HBE.out⟩
      · have hS := fun W => (spc_has 8 ([192, 168, 0, 0], 16) rfl a ha fa W).1
        have hN := glob_next (a := a) (k := 8) (p := ([192, 168, 0, 0], 16)) rfl HALL.out
        have hO := glob_no (a := a) (k := 8) (p := ([192, 168, 0, 0], 16)) rfl
        have HS : Hid _ := hS
        have HN : Hid _ := hN
        have HO : Hid _ := hO
        clear hS hN hO
        generalize hbb : has4L ([192, 168, 0, 0], (16 : Int)).1 ([192, 168, 0, 0], (16 : Int)).2 a = bb at *
        clear hbb
        obtain ⟨w4, hst4, b4, hB4⟩ := box_new Tryd.sizeOf42 wr zero5V rfl (cp4 [192, 168, 0, 0] 16) rfl (cp4_one _ _)
        have HS4 : Hid _ := hst4
        have L5 : Hid _ := agg_load (t := 42) Tryd.isAgg42 Tryd.sizeOf42 (vs := cp4 [192, 168, 0, 0] 16) rfl (CellsAt.of_blk b4)
        have L1 : Hid _ := agg_load (t := 27) Tryd.isAgg27 Tryd.sizeOf27 (vs := b8 a) (by rw [b8_length, ha]) (CellsAt.of_blk ((hB4.block w.heap.size (by omega)).trans hba))
        have hB2 : Below W2.heap.size W2 w4 := hB.trans (hB4.mono hB.size)
        clear hst4 b4 hB4
        go_wp2_with first
          | ((with_reducible show wpList _ _ _ _ _ _); refine armV (Op.index 60 (.tmp 7) (.tmp 8)) rfl rfl (v := P4L [192, 168, 0, 0] 16) (by kernel_rfl) ?_)
          | ((with_reducible show wpList _ _ _ _ _ _); refine armS (.tmp 4) (.tmp 10) 42 rfl rfl rfl rfl HS4.out ?_)
          | ((with_reducible show wpList _ _ _ _ _ _); refine armL (.tmp 4) 42 rfl rfl rfl L5.out ?_)
          | ((with_reducible show wpList _ _ _ _ _ _); refine armL (.tmp 1) 27 rfl rfl rfl L1.out ?_)
        refine (HS.out w4).mono ?_
        rintro e w5 ⟨rfl, hB5⟩
        have hB6 : Below W2.heap.size W2 w5 := hB2.trans (hB5.mono hB2.size)
        cases bb
        · go_wp2
          exact ⟨⟨9, by decide, by simp, HN.out (by first | rfl | trivial), hB6⟩, by simp [intOf]⟩
        · have hg : globB a = false := HO.out (by first | rfl | trivial)
          rw [hg] at HQ
          have HBE : Hid (Below w.heap.size w w5) := hBw.trans (hB6.mono (by omega))
          go_wp2
          rw [← HQ.out]
          exact ⟨rfl, HBE.out⟩
      · have hS := fun W => (spc_has 9 ([198, 18, 0, 0], 15) rfl a ha fa W).1
        have hN := glob_next (a := a) (k := 9) (p := ([198, 18, 0, 0], 15)) rfl HALL.out
        have hO := glob_no (a := a) (k := 9) (p := ([198, 18, 0, 0], 15)) rfl
        have HS : Hid _ := hS
        have HN : Hid _ := hN
        have HO : Hid _ := hO
        clear hS hN hO
        generalize hbb : has4L ([198, 18, 0, 0], (15 : Int)).1 ([198, 18, 0, 0], (15 : Int)).2 a = bb at *
        clear hbb
        obtain ⟨w4, hst4, b4, hB4⟩ := box_new Tryd.sizeOf42 wr zero5V rfl (cp4 [198, 18, 0, 0] 15) rfl (cp4_one _ _)
        have HS4 : Hid _ := hst4
        have L5 : Hid _ := agg_load (t := 42) Tryd.isAgg42 Tryd.sizeOf42 (vs := cp4 [198, 18, 0, 0] 15) rfl (CellsAt.of_blk b4)
        have L1 : Hid _ := agg_load (t := 27) Tryd.isAgg27 Tryd.sizeOf27 (vs := b8 a) (by rw [b8_length, ha]) (CellsAt.of_blk ((hB4.block w.heap.size (by omega)).trans hba))
        have hB2 : Below W2.heap.size W2 w4 := hB.trans (hB4.mono hB.size)
        clear hst4 b4 hB4
        go_wp2_with first
          | ((with_reducible show wpList _ _ _ _ _ _); refine armV (Op.index 60 (.tmp 7) (.tmp 8)) rfl rfl (v := P4L [198, 18, 0, 0] 15) (by kernel_rfl) ?_)
          | ((with_reducible show wpList _ _ _ _ _ _); refine armS (.tmp 4) (.tmp 10) 42 rfl rfl rfl rfl HS4.out ?_)
          | ((with_reducible show wpList _ _ _ _ _ _); refine armL (.tmp 4) 42 rfl rfl rfl L5.out ?_)
          | ((with_reducible show wpList _ _ _ _ _ _); refine armL (.tmp 1) 27 rfl rfl rfl L1.out ?_)
        refine (HS.out w4).mono ?_
        rintro e w5 ⟨rfl, hB5⟩
        have hB6 : Below W2.heap.size W2 w5 := hB2.trans (hB5.mono hB2.size)
        cases bb
        · go_wp2
          exact ⟨⟨10, by decide, by simp, HN.out (by first | rfl | trivial), hB6⟩, by simp [intOf]⟩
        · have hg : globB a = false := HO.out (by first | rfl | trivial)
          rw [hg] at HQ
          have HBE : Hid (Below w.heap.size w w5) := hBw.trans (hB6.mono (by omega))
          go_wp2
          rw [← HQ.out]
          exact ⟨rfl, HBE.out⟩
      · have hS := fun W => (spc_has 10 ([198, 51, 100, 0], 24) rfl a ha fa W).1
        have hN := glob_next (a := a) (k := 10) (p := ([198, 51, 100, 0], 24)) rfl HALL.out
        have hO := glob_no (a := a) (k := 10) (p := ([198, 51, 100, 0], 24)) rfl
        have HS : Hid _ := hS
        have HN : Hid _ := hN
        have HO : Hid _ := hO
        clear hS hN hO
        generalize hbb : has4L ([198, 51, 100, 0], (24 : Int)).1 ([198, 51, 100, 0], (24 : Int)).2 a = bb at *
        clear hbb
        obtain ⟨w4, hst4, b4, hB4⟩ := box_new Tryd.sizeOf42 wr zero5V rfl (cp4 [198, 51, 100, 0] 24) rfl (cp4_one _ _)
        have HS4 : Hid _ := hst4
        have L5 : Hid _ := agg_load (t := 42) Tryd.isAgg42 Tryd.sizeOf42 (vs := cp4 [198, 51, 100, 0] 24) rfl (CellsAt.of_blk b4)
        have L1 : Hid _ := agg_load (t := 27) Tryd.isAgg27 Tryd.sizeOf27 (vs := b8 a) (by rw [b8_length, ha]) (CellsAt.of_blk ((hB4.block w.heap.size (by omega)).trans hba))
        have hB2 : Below W2.heap.size W2 w4 := hB.trans (hB4.mono hB.size)
        clear hst4 b4 hB4
        go_wp2_with first
          | ((with_reducible show wpList _ _ _ _ _ _); refine armV (Op.index 60 (.tmp 7) (.tmp 8)) rfl rfl (v := P4L [198, 51, 100, 0] 24) (by kernel_rfl) ?_)
          | ((with_reducible show wpList _ _ _ _ _ _); refine armS (.tmp 4) (.tmp 10) 42 rfl rfl rfl rfl HS4.out ?_)
          | ((with_reducible show wpList _ _ _ _ _ _); refine armL (.tmp 4) 42 rfl rfl rfl L5.out ?_)
          | ((with_reducible show wpList _ _ _ _ _ _); refine armL (.tmp 1) 27 rfl rfl rfl L1.out ?_)
        refine (HS.out w4).mono ?_
        rintro e w5 ⟨rfl, hB5⟩
        have hB6 : Below W2.heap.size W2 w5 := hB2.trans (hB5.mono hB2.size)
        cases bb
        · go_wp2
          exact ⟨⟨11, by decide, by simp, HN.out (by first | rfl | trivial), hB6⟩, by simp [intOf]⟩
        · have hg : globB a = false := HO.out (by first | rfl | trivial)
          rw [hg] at HQ
          have HBE : Hid (Below w.heap.size w w5) := hBw.trans (hB6.mono (by omega))
          go_wp2
          rw [← HQ.out]
          exact ⟨rfl, HBE.out⟩
      · have hS := fun W => (spc_has 11 ([203, 0, 113, 0], 24) rfl a ha fa W).1
        have hN := glob_next (a := a) (k := 11) (p := ([203, 0, 113, 0], 24)) rfl HALL.out
        have hO := glob_no (a := a) (k := 11) (p := ([203, 0, 113, 0], 24)) rfl
        have HS : Hid _ := hS
        have HN : Hid _ := hN
        have HO : Hid _ := hO
        clear hS hN hO
        generalize hbb : has4L ([203, 0, 113, 0], (24 : Int)).1 ([203, 0, 113, 0], (24 : Int)).2 a = bb at *
        clear hbb
        obtain ⟨w4, hst4, b4, hB4⟩ := box_new Tryd.sizeOf42 wr zero5V rfl (cp4 [203, 0, 113, 0] 24) rfl (cp4_one _ _)
        have HS4 : Hid _ := hst4
        have L5 : Hid _ := agg_load (t := 42) Tryd.isAgg42 Tryd.sizeOf42 (vs := cp4 [203, 0, 113, 0] 24) rfl (CellsAt.of_blk b4)
        have L1 : Hid _ := agg_load (t := 27) Tryd.isAgg27 Tryd.sizeOf27 (vs := b8 a) (by rw [b8_length, ha]) (CellsAt.of_blk ((hB4.block w.heap.size (by omega)).trans hba))
        have hB2 : Below W2.heap.size W2 w4 := hB.trans (hB4.mono hB.size)
        clear hst4 b4 hB4
        go_wp2_with first
          | ((with_reducible show wpList _ _ _ _ _ _); refine armV (Op.index 60 (.tmp 7) (.tmp 8)) rfl rfl (v := P4L [203, 0, 113, 0] 24) (by kernel_rfl) ?_)
          | ((with_reducible show wpList _ _ _ _ _ _); refine armS (.tmp 4) (.tmp 10) 42 rfl rfl rfl rfl HS4.out ?_)
          | ((with_reducible show wpList _ _ _ _ _ _); refine armL (.tmp 4) 42 rfl rfl rfl L5.out ?_)
          | ((with_reducible show wpList _ _ _ _ _ _); refine armL (.tmp 1) 27 rfl rfl rfl L1.out ?_)
        refine (HS.out w4).mono ?_
        rintro e w5 ⟨rfl, hB5⟩
        have hB6 : Below W2.heap.size W2 w5 := hB2.trans (hB5.mono hB2.size)
        cases bb
        · go_wp2
          exact ⟨⟨12, by decide, by simp, HN.out (by first | rfl | trivial), hB6⟩, by simp [intOf]⟩
        · have hg : globB a = false := HO.out (by first | rfl | trivial)
          rw [hg] at HQ
          have HBE : Hid (Below w.heap.size w w5) := hBw.trans (hB6.mono (by omega))
          go_wp2
          rw [← HQ.out]
          exact ⟨rfl, HBE.out⟩
      · have hS := fun W => (spc_has 12 ([224, 0, 0, 0], 4) rfl a ha fa W).1
        have hN := glob_next (a := a) (k := 12) (p := ([224, 0, 0, 0], 4)) rfl HALL.out
        have hO := glob_no (a := a) (k := 12) (p := ([224, 0, 0, 0], 4)) rfl
        have HS : Hid _ := hS
        have HN : Hid _ := hN
        have HO : Hid _ := hO
        clear hS hN hO
        generalize hbb : has4L ([224, 0, 0, 0], (4 : Int)).1 ([224, 0, 0, 0], (4 : Int)).2 a = bb at *
        clear hbb
        obtain ⟨w4, hst4, b4, hB4⟩ := box_new Tryd.sizeOf42 wr zero5V rfl (cp4 [224, 0, 0, 0] 4) rfl (cp4_one _ _)
        have HS4 : Hid _ := hst4
        have L5 : Hid _ := agg_load (t := 42) Tryd.isAgg42 Tryd.sizeOf42 (vs := cp4 [224, 0, 0, 0] 4) rfl (CellsAt.of_blk b4)
        have L1 : Hid _ := agg_load (t := 27) Tryd.isAgg27 Tryd.sizeOf27 (vs := b8 a) (by rw [b8_length, ha]) (CellsAt.of_blk ((hB4.block w.heap.size (by omega)).trans hba))
        have hB2 : Below W2.heap.size W2 w4 := hB.trans (hB4.mono hB.size)
        clear hst4 b4 hB4
        go_wp2_with first
          | ((with_reducible show wpList _ _ _ _ _ _); refine armV (Op.index 60 (.tmp 7) (.tmp 8)) rfl rfl (v := P4L [224, 0, 0, 0] 4) (by kernel_rfl) ?_)
          | ((with_reducible show wpList _ _ _ _ _ _); refine armS (.tmp 4) (.tmp 10) 42 rfl rfl rfl rfl HS4.out ?_)
          | ((with_reducible show wpList _ _ _ _ _ _); refine armL (.tmp 4) 42 rfl rfl rfl L5.out ?_)
          | ((with_reducible show wpList _ _ _ _ _ _); refine armL (.tmp 1) 27 rfl rfl rfl L1.out ?_)
        refine (HS.out w4).mono ?_
        rintro e w5 ⟨rfl, hB5⟩
        have hB6 : Below W2.heap.size W2 w5 := hB2.trans (hB5.mono hB2.size)
        cases bb
        · go_wp2
          exact ⟨⟨13, by decide, by simp, HN.out (by first | rfl | trivial), hB6⟩, by simp [intOf]⟩
        · have hg : globB a = false := HO.out (by first | rfl | trivial)
          rw [hg] at HQ
          have HBE : Hid (Below w.heap.size w w5) := hBw.trans (hB6.mono (by omega))
          go_wp2
          rw [← HQ.out]
          exact ⟨rfl, HBE.out⟩
      · have hS := fun W => (spc_has 13 ([240, 0, 0, 0], 4) rfl a ha fa W).1
        have hN := glob_next (a := a) (k := 13) (p := ([240, 0, 0, 0], 4)) rfl HALL.out
        have hO := glob_no (a := a) (k := 13) (p := ([240, 0, 0, 0], 4)) rfl
        have HS : Hid _ := hS
        have HN : Hid _ := hN
        have HO : Hid _ := hO
        clear hS hN hO
        generalize hbb : has4L ([240, 0, 0, 0], (4 : Int)).1 ([240, 0, 0, 0], (4 : Int)).2 a = bb at *
        clear hbb
        obtain ⟨w4, hst4, b4, hB4⟩ := box_new Tryd.sizeOf42 wr zero5V rfl (cp4 [240, 0, 0, 0] 4) rfl (cp4_one _ _)
        have HS4 : Hid _ := hst4
        have L5 : Hid _ := agg_load (t := 42) Tryd.isAgg42 Tryd.sizeOf42 (vs := cp4 [240, 0, 0, 0] 4) rfl (CellsAt.of_blk b4)
        have L1 : Hid _ := agg_load (t := 27) Tryd.isAgg27 Tryd.sizeOf27 (vs := b8 a) (by rw [b8_length, ha]) (CellsAt.of_blk ((hB4.block w.heap.size (by omega)).trans hba))
        have hB2 : Below W2.heap.size W2 w4 := hB.trans (hB4.mono hB.size)
        clear hst4 b4 hB4
        go_wp2_with first
          | ((with_reducible show wpList _ _ _ _ _ _); refine armV (Op.index 60 (.tmp 7) (.tmp 8)) rfl rfl (v := P4L [240, 0, 0, 0] 4) (by kernel_rfl) ?_)
          | ((with_reducible show wpList _ _ _ _ _ _); refine armS (.tmp 4) (.tmp 10) 42 rfl rfl rfl rfl HS4.out ?_)
          | ((with_reducible show wpList _ _ _ _ _ _); refine armL (.tmp 4) 42 rfl rfl rfl L5.out ?_)
          | ((with_reducible show wpList _ _ _ _ _ _); refine armL (.tmp 1) 27 rfl rfl rfl L1.out ?_)
        refine (HS.out w4).mono ?_
        rintro e w5 ⟨rfl, hB5⟩
        have hB6 : Below W2.heap.size W2 w5 := hB2.trans (hB5.mono hB2.size)
        cases bb
        · go_wp2
          exact ⟨⟨14, by decide, by simp, HN.out (by first | rfl | trivial), hB6⟩, by simp [intOf]⟩
        · have hg : globB a = false := HO.out (by first | rfl | trivial)
          rw [hg] at HQ
          have HBE : Hid (Below w.heap.size w w5) := hBw.trans (hB6.mono (by omega))
          go_wp2
          rw [← HQ.out]
          exact ⟨rfl, HBE.out⟩
    · obtain rfl : k = 14 := by omega
      have hg : globB a = true := HALL.out
      rw [hg] at HQ
      have HBE : Hid (Below w.heap.size w wr) := hBw.trans (hB.mono (by omega))
      go_wp2
      rw [← HQ.out]
      exact ⟨rfl, HBE.out⟩

theorem tables2 {W : World} (h : laidMetH Tryd.prog [("math/bits.deBruijn32tab", Rows.laid_math_bits_deBruijn32tab), ("math/bits.deBruijn64tab", Rows.laid_math_bits_deBruijn64tab), ("internal/strconv.uint64pow10", Rows.laid_internal_strconv_uint64pow10), ("ferryman/embed.special", Rows.laid_ferryman_embed_special)] W) : Tz W ∧ Spc W := by
  have h1 : laidMet Tryd.prog [("math/bits.deBruijn32tab", Rows.laid_math_bits_deBruijn32tab), ("math/bits.deBruijn64tab", Rows.laid_math_bits_deBruijn64tab), ("internal/strconv.uint64pow10", Rows.laid_internal_strconv_uint64pow10), ("ferryman/embed.special", Rows.laid_ferryman_embed_special)] W := h
  exact ⟨tz_of (Lib.tabIs_of_head (zs := tab64) g64 g64t Tryd.underlying112 Tryd.underlying5 (by kernel_rfl) (by kernel_rfl) h1.tail), spc_of h1.tail.tail.tail⟩

theorem hi_bin8 {P : Program} {w : World} {o : Oper} {a : Act} {K : Act → Prop} (b : BinOp) (t u : TypeId) (x y : Operand) (hop : o.op = Op.binOp b t x y u) {vx vy v : Value} (hx : a.eval x = vx) (hy : a.eval y = vy) (hgd : ∀ W, (eqGuard b t x y vx vy).run P W = .ok () W) (hrun : ∀ W, (binOp b t vx vy).run P W = .ok v W) (hK : K (a.put o.dst v)) :
    o.quiet P a (fun w' => ∃ x : Hi w, w' = x.W) K := by
  refine ⟨v, fun W hW => ?_, hK⟩
  unfold Oper.quietAt
  simp [execOp, hop, hx, hy, hgd, hrun, Result.andThen, Oper.quietUpon]

set_option maxHeartbeats 2000000 in
set_option maxRecDepth 100000 in
theorem globals_walk (a : List Int) (w : World) (ht : Tz w ∧ Spc w) (ha : a.length = 4) (fa : FitB a) : Calls Tryd.prog 5 #[A4L a] w fun e w' => PutPost (.bool true) w e w' := by
  generalize hQ : (fun e w' => PutPost (.bool true) w e w') = Q
  have HQ : Hid _ := hQ
  clear hQ
  have hb0 := blk_new w (.cells (b8 a).toArray 27)
  have hBw := (Below.refl w.heap.size w).alloc (Nat.le_refl _) (.cells (b8 a).toArray 27)
  generalize hW : w.alloc (.cells (b8 a).toArray 27) = W2 at *
  have htz := ht.1.on hBw
  have hsp := ht.2.on hBw
  have G1 : Hid (∀ y : Hi W2, Calls Tryd.prog 20 #[A4L a] y.W fun e w' => e = .returned (.bool (globB a)) ∧ Below y.W.heap.size y.W w') := fun y => Global_any a y.W (hsp.on y.below) ha fa
  have G2 : Hid (∀ y : Hi W2, Calls Tryd.prog 21 #[A4L a] y.W fun e w' => e = .returned (.bool (globB a)) ∧ Below y.W.heap.size y.W w') := fun y => RGlobal_any a y.W ha fa
  have K1 : Hid (∀ y : Hi W2, Calls Tryd.prog 22 #[] y.W fun e w' => e = .returned (P6 kP2A 96) ∧ Below y.W.heap.size y.W w') := fun y => Known_any y.W
  have K2 : Hid (∀ y : Hi W2, Calls Tryd.prog 23 #[] y.W fun e w' => e = .returned (P6 kP2A 96) ∧ Below y.W.heap.size y.W w') := fun y => RKnown_any y.W
  have AW : Hid (∀ y : Hi W2, Calls Tryd.prog 15 #[] y.W fun e w' => e = .returned (.bool true) ∧ Below y.W.heap.size y.W w') := fun y => awake_any y.W (htz.on y.below)
  have L1 : Hid (∀ y : Hi W2, (Instr.loadAt 27 (.pointer (some ⟨w.heap.size, 0, none⟩))).run Tryd.prog y.W = .ok (A4L a) y.W) := fun y => agg_load Tryd.isAgg27 Tryd.sizeOf27 (by rw [b8_length, ha]) (CellsAt.of_blk (Hi.blk hb0 y))
  have EQ : Hid (∀ W, (binOp .eql 25 (P6 kP2A 96) (P6 kP2A 96)).run Tryd.prog W = .ok (.bool true) W) := fun W => by
    have h := eqlP6 kP2A kP2A 96 96 (fit_of (by decide)) (fit_of (by decide)) rfl rfl W
    rw [decide_eq_true rfl, beq_self_eq_true] at h
    exact h
  clear ht htz hsp hb0
  generalize globB a = gb at *
  go_enter Tryd.func5, Tryd.ntmps5
  go_wp2_with fail
  cases gb
  all_goals
    refine wp_region_hi (by kernel_rfl) (by kernel_rfl) ?_
    repeat (first
      | go_big_quiet_skip
      | (go_big_quiet_want; refine hi_load (.tmp 1) 27 rfl rfl L1.out ?_; simp only [Act.put, List.setIfInBounds_toArray, List.set_cons_zero, List.set_cons_succ]; go_big_quiet_on)
      | (go_big_quiet_want; refine hi_bin8 .eql 25 25 (.tmp 9) (.tmp 10) rfl rfl rfl (fun W => gdP6 _ _ _ _ _ W) EQ.out ?_; simp only [Act.put, List.setIfInBounds_toArray, List.set_cons_zero, List.set_cons_succ]; go_big_quiet_on)
      | (go_big_quiet_want; go_big_quiet_op; first | go_big_quiet_on | go_big_quiet_call (first | (go_at_call 20; exact Hi.calls (G1.out _)) | (go_at_call 21; exact Hi.calls (G2.out _)) | (go_at_call 22; exact Hi.calls (K1.out _)) | (go_at_call 23; exact Hi.calls (K2.out _)) | (go_at_call 15; exact Hi.calls (AW.out _)))))
    refine wpQuiet_nil ?_
    intro _ hw
    obtain ⟨y1, rfl⟩ := hw
    have HBE : Hid (Below w.heap.size w y1.W) := hBw.trans (y1.below.mono hBw.size)
    go_wp2
    rw [← HQ.out]
    exact ⟨rfl, HBE.out⟩

set_option maxRecDepth 100000 in
theorem embedGlobals_open {H : Type} {enc : TypeId × Value → H} {W : World} {base : Nat} (tb : Tz W ∧ Spc W) (v0 : Value) {d0 : DataW H} {p0 : List MemPlace}
    (o0 : Value.okWide Tryd.prog W .any base 27 v0) (h0 : DataW.Trod enc Tryd.prog W 0 (fun _ => true) true 27 v0 d0 p0) :
    Calls Tryd.prog 5 #[v0] W fun e w' => e = .returned (.bool true) ∧ Below W.heap.size W w' := by
  obtain ⟨a0, a1, a2, a3, rfl, g0, g1, g2, g3⟩ := open_addr4 h0
  exact globals_walk [a0, a1, a2, a3] W tb rfl (fit4 g0 g1 g2 g3)

end Go.Proofs.YtfiiopgdgfbkkaaDoor
