/-
  The document's Strict.
-/
import Derived.Test.YtfiiopgdgfbkkaaDoorQf3
import Derived.Test.YtfiiopgdgfbkkaaDoorQc5
import Derived.Test.YtfiiopgdgfbkkaaDoorQa7
import Derived.Test.YtfiiopgdgfbkkaaDoorQd2
import Derived.Test.YtfiiopgdgfbkkaaDoorQd3
namespace Go.Proofs.YtfiiopgdgfbkkaaDoor
open Go Go.RowKit Go.ChangeShapes Go.WideShapes Go.ChangeAt
set_option linter.unusedVariables false
set_option linter.unusedSimpArgs false

theorem put_bits {l a : List Int} {n : Nat} (hl : l.length = 16) (hf : FitB l) (h : chkE l n = 0) (ha : a.length = 4) (hfa : FitB a) :
    (∀ i, i < 32 → bitN (putL l n a) (plN n i) = bitN a i) ∧ (∀ q, q < 128 → (∀ i, i < 32 → plN n i ≠ q) → bitN (putL l n a) q = bitN l q) := by
  have P := plc_all (chkE_ok h).2.1
  have E := emb_any hl hf h ha hfa
  refine ⟨fun i hi => ?_, fun q hq c => ?_⟩
  · rw [← bitN_getL P i hi, E.got]
  · have hno : ∀ i, i < 4 → (plc n).getD i 0 ≠ q / 8 := fun i hi e => by
      obtain ⟨i', h1, h2⟩ := P.back q hq (by
        rw [← e]
        obtain ⟨p0, p1, p2, p3, hpp, _⟩ := plc_lt (n : Int)
        rw [hpp]
        have hj : i = 0 ∨ i = 1 ∨ i = 2 ∨ i = 3 := by omega
        rcases hj with h | h | h | h <;> rw [h] <;> simp)
      exact c i' h1 h2
    unfold bitN putL
    rw [putK_other hno]

structure Plc2 (n : Nat) : Prop where
  mono : ∀ i, i < 32 → plN n i ≤ plN n 31
  gap : ∀ q, q < 128 → n ≤ q → q ≤ plN n 31 → (∃ i, i < 32 ∧ plN n i = q) ∨ q / 8 = 8
  last : plN n 31 < 128
theorem plc2_all {n : Nat} (h : lenOk n = true) : Plc2 n := by
  rcases lenOk_six h with h | h | h | h | h | h
  · obtain rfl : n = 32 := by omega
    exact ⟨by decide, by decide +kernel, by decide⟩
  · obtain rfl : n = 40 := by omega
    exact ⟨by decide, by decide +kernel, by decide⟩
  · obtain rfl : n = 48 := by omega
    exact ⟨by decide, by decide +kernel, by decide⟩
  · obtain rfl : n = 56 := by omega
    exact ⟨by decide, by decide +kernel, by decide⟩
  · obtain rfl : n = 64 := by omega
    exact ⟨by decide, by decide +kernel, by decide⟩
  · obtain rfl : n = 96 := by omega
    exact ⟨by decide, by decide +kernel, by decide⟩

theorem strict_low {l x : List Int} {n : Nat} (hl : l.length = 16) (hf : FitB l) (hx : x.length = 16) (hfx : FitB x) (h : getErr l n x = 0) : lowB x (plN n 31 + 1) = decide (putL l n (getL x (plc n)) = x) := by
  obtain ⟨h0, h1, h2⟩ := getErr_ok h
  have hlen := (chkE_ok h0).2.1
  have P := plc_all hlen
  have P2 := plc2_all hlen
  have hfg := getL_fit hfx (plc n)
  obtain ⟨hA, hB⟩ := put_bits hl hf h0 (getL_len x n) hfg
  have hbl : blR n x = l := by unfold has6 at h1; simpa using h1
  have hlb : ∀ q, q < 128 → bitN l q = if q < n then bitN x q else 0 := fun q hq => by rw [← hbl]; exact bitN_blR hfx n q (by omega)
  have hx8 : ∀ q, q / 8 = 8 → bitN x q = 0 := fun q hq => by
    unfold bitN
    rw [hq]
    rw [List.getD_eq_getElem?_getD] at h2
    rw [h2]
    simp [bk]
  have hput : (putL l n (getL x (plc n))).length = 16 := by unfold putL; rw [putK_length, hl]
  unfold lowB
  rw [decide_eq_decide, hx]
  constructor
  · intro g
    refine row_ext (by rw [hput, hx]) (putK_fit hf hfg _ _) hfx fun q hq => ?_
    rw [hput] at hq
    by_cases c : ∃ i, i < 32 ∧ plN n i = q
    · obtain ⟨i, hi, rfl⟩ := c
      rw [hA i hi, bitN_getL P i hi]
    · rw [hB q (by omega) (fun i hi e => c ⟨i, hi, e⟩), hlb q (by omega)]
      by_cases d : q < n
      · rw [if_pos d]
      · rw [if_neg d]
        by_cases f : q ≤ plN n 31
        · rcases P2.gap q (by omega) (by omega) f with h | h
          · exact absurd h c
          · exact (hx8 q h).symm
        · exact (g q (by omega) (by omega)).symm
  · intro e q hq hM
    have hno : ∀ i, i < 32 → plN n i ≠ q := fun i hi e => by have := P2.mono i hi; omega
    rw [← e, hB q (by omega) hno, hlb q (by omega), if_neg (by have := P.low 31 (by decide); omega)]

set_option maxHeartbeats 6000000 in
set_option maxRecDepth 100000 in
theorem RStrict_any (l : List Int) (n : Int) (x : List Int) (w : World) (hf : FitB l) (hl : l.length = 16) (hb : -9223372036854775808 ≤ n ∧ n ≤ 9223372036854775807) (hx : x.length = 16) (hfx : FitB x) :
    Calls Tryd.prog 19 #[P6 l n, A6 x] w fun e w' => PutPost (strE l n x) w e w' := by
  generalize hQ : (fun e w' => PutPost (strE l n x) w e w') = Q
  have HQ : Hid _ := hQ
  clear hQ
  have hgt := fun W => RGet_any l n x W hf hl hb hx hfx
  obtain ⟨hb0, hb1, hb2, hBw, hz⟩ := boxes3 w (cp6 l n) (u8s x) zero4L 25 23 27
  generalize hW : ((w.alloc (.cells (cp6 l n).toArray 25)).alloc (.cells (u8s x).toArray 23)).alloc (.cells zero4L.toArray 27) = W2 at *
  have HL : Hid _ := loadP6 hl (CellsAt.pfx hl hb0).1
  have HX0 : Hid _ := load6 hx (CellsAt.of_blk hb1)
  have HG : Hid _ := hgt
  have HZ : Hid _ := hz
  clear hgt hz
  go_enter Tryd.func19, Tryd.ntmps19
  go_wp2_with first
    | ((with_reducible show wpList _ _ _ _ _ _); refine armL (.tmp 2) 25 rfl rfl rfl HL.out ?_)
    | ((with_reducible show wpList _ _ _ _ _ _); refine armL (.tmp 3) 23 rfl rfl rfl HX0.out ?_)
  refine (HG.out W2).mono ?_
  rintro e w3 ⟨rfl, hB3⟩
  have hz := HZ.out
  have k0 := (hB3.block w.heap.size (by omega)).trans hb0
  have k1 := (hB3.block (w.heap.size + 1) (by omega)).trans hb1
  have k2 := (hB3.block (w.heap.size + 2) (by omega)).trans hb2
  have hBw3 := hBw.trans (hB3.mono (by omega))
  have hz3 : w.heap.size + 3 ≤ w3.heap.size := by have := hB3.size; omega
  clear hW HL HX0 HG hb0 hb1 hb2 hBw hB3 hz HZ
  unfold getE AE4
  have hAl : (if getErr l n x = 0 then getL x (plc n) else zeroA4).length = 4 := by
    split
    · exact getL_len x n
    · rfl
  obtain ⟨gg, hgg⟩ : ∃ gg, gg = if getErr l n x = 0 then getL x (plc n) else zeroA4 := ⟨_, rfl⟩
  obtain ⟨ge, hge⟩ : ∃ ge, ge = getErr l n x := ⟨_, rfl⟩
  rw [← hgg] at hAl
  rw [← hgg, ← hge]
  have HGG : Hid _ := hgg
  have HGE : Hid _ := hge
  clear hgg hge
  obtain ⟨w4, hst4, b4, hB4⟩ := box_new Tryd.sizeOf27 w3 zero4L rfl (b8 gg) (by rw [b8_length, hAl]) (b8_one _)
  have HS4 : Hid _ := hst4
  have m0 := (hB4.block w.heap.size (by omega)).trans k0
  have m1 := (hB4.block (w.heap.size + 1) (by omega)).trans k1
  have m2 := (hB4.block (w.heap.size + 2) (by omega)).trans k2
  have hBw4 := hBw3.trans (hB4.mono (by omega))
  have hz4 : w.heap.size + 3 ≤ w4.heap.size := by have := hB4.size; omega
  clear hst4 k0 k1 k2 hBw3 hB4
  by_cases h0 : getErr l n x = 0
  · obtain ⟨g1, g2, g3⟩ := getErr_ok h0
    have hlen := (chkE_ok g1).2.1
    obtain ⟨N, hN⟩ : ∃ N : Nat, n = (N : Int) := ⟨n.toNat, by have := lenOk_six hlen; omega⟩
    subst hN
    have hn96 : N ≤ 96 := by have := lenOk_six hlen; omega
    have hlow := strict_low hl hf hx hfx h0
    have hM := (plc2_all hlen).last
    have e1 : gg = getL x (plc N) := HGG.out.trans (if_pos h0)
    have e2 : ge = 0 := HGE.out.trans h0
    clear HGG HGE
    subst e1 e2
    have hsE : strE l N x = AE4 (if putL l N (getL x (plc N)) = x then getL x (plc N) else zeroA4) (if putL l N (getL x (plc N)) = x then 0 else 21) := by
      have e : strErr l N x = if putL l N (getL x (plc N)) = x then 0 else 21 := by unfold strErr; rw [if_neg (by simpa using h0)]
      unfold strE
      rw [e]
      by_cases h : putL l N (getL x (plc N)) = x
      · rw [if_pos h, if_pos h, if_pos rfl]
      · rw [if_neg h, if_neg h, if_neg (by decide)]
    rw [hsE] at HQ
    have hpc : ∀ W, Calls Tryd.prog 29 #[.int .i64 (N : Nat), .int .i64 31] W fun e w' => e = .returned (.int .i64 (plN N 31 : Nat)) ∧ w' = W := fun W => by
      have h := place_ref (N : Int) 31 W (by omega) (by decide)
      have hpe : (if (N : Int) ≤ 64 ∧ 64 ≤ (N : Int) + 31 then (N : Int) + 31 + 8 else (N : Int) + 31) = ((plN N 31 : Nat) : Int) := by
        unfold plN
        by_cases c : N ≤ 64 ∧ 64 ≤ N + 31
        · rw [if_pos (by omega), if_pos c]; omega
        · rw [if_neg (by omega), if_neg c]; omega
      rw [hpe] at h
      exact h
    have hlw : ∀ W, Calls Tryd.prog 36 #[A6 x, .int .i64 ((plN N 31 : Nat) + 1)] W fun e w' => e = .returned (.bool (decide (putL l N (getL x (plc N)) = x))) ∧ Below W.heap.size W w' := fun W => by
      have h := Low6_calls x (plN N 31 + 1) W hfx hx (by omega)
      rw [hlow] at h
      exact h
    have HPC : Hid _ := fun y : Hi w4 => Hi.calls_same hpc y
    have HLW : Hid _ := fun y : Hi w4 => hlw y.W
    have c16 : ∀ y : Hi w4, y.W.cell? ⟨w.heap.size, 16, none⟩ = some (.int .i64 (N : Int)) := fun y => (CellsAt.pfx hl (Hi.blk m0 y)).2.2
    have HLX : Hid (∀ y : Hi w4, (Instr.loadAt 23 (.pointer (some ⟨w.heap.size + 1, 0, none⟩))).run Tryd.prog y.W = .ok (A6 x) y.W) := fun y => load6 hx (CellsAt.of_blk (Hi.blk m1 y))
    clear hsE hpc hlw hlow h0 g1 g2 g3 hlen
    generalize hdd : decide (putL l N (getL x (plc N)) = x) = dd at *
    have hgl : (getL x (plc N)).length = 4 := hAl
    generalize getL x (plc N) = ga at *
    generalize putL l N ga = y at *
    have HDD : Hid _ := hdd
    clear hdd
    generalize plN N 31 = K at *
    go_wp2_with ((with_reducible show wpList _ _ _ _ _ _); refine armS (.tmp 6) (.tmp 12) 27 rfl rfl rfl rfl HS4.out ?_)
    cases dd
    all_goals
      refine wp_region_hi (by kernel_rfl) (by kernel_rfl) ?_
      repeat (first
        | go_big_quiet_skip
        | (go_big_quiet_want; refine hi_load (.tmp 3) 23 rfl rfl HLX.out ?_; simp only [Act.put, List.setIfInBounds_toArray, List.set_cons_zero, List.set_cons_succ]; go_big_quiet_on)
        | (go_big_quiet_want; go_big_quiet_op; first | go_big_quiet_on | go_big_quiet_call (first | (go_at_call 29; exact Hi.calls (HPC.out _)) | (go_at_call 36; exact Hi.calls (HLW.out _)))))
      refine wpQuiet_nil ?_
      intro _ hw
      obtain ⟨u1, rfl⟩ := hw
      have s2 := Hi.blk m2 u1
      have s4 := Hi.blk b4 u1
      have hBw5 := hBw4.trans (u1.below.mono (by omega))
      generalize u1.W = W5 at *
      clear HPC HLW HLX c16 HS4
    · have hyx : ¬ y = x := of_decide_eq_false HDD.out
      rw [if_neg hyx, if_neg hyx] at HQ
      obtain ⟨wE, hst, bE, honE⟩ := box_store Tryd.sizeOf27 s2 rfl zero4L rfl (by simp [Value.oneCell'])
      have hlv := agg_loadVar (t := 27) Tryd.isAgg27 Tryd.sizeOf27 rfl (CellsAt.of_blk bE)
      have HBE : Hid (Below w.heap.size w wE) := hBw5.trans (honE.below (by omega))
      have HSQ : Hid _ := hst
      have HLV : Hid _ := hlv
      clear hst hlv bE honE hyx
      go_wp2_with ((with_reducible show wpList _ _ _ _ _ _); refine armS (.tmp 4) (.tmp 25) 27 rfl rfl rfl rfl HSQ.out ?_)
      refine bodyPost_ret (res2c Tryd.results19 rfl HLV.out) rfl ?_
      rw [← HQ.out]
      exact ⟨rfl, HBE.out⟩
    · have hyx : y = x := of_decide_eq_true HDD.out
      rw [if_pos hyx, if_pos hyx] at HQ
      have HLA : Hid _ := agg_load (t := 27) Tryd.isAgg27 Tryd.sizeOf27 (by rw [b8_length, hgl]) (CellsAt.of_blk s4)
      obtain ⟨wE, hst, bE, honE⟩ := box_store Tryd.sizeOf27 s2 rfl (b8 ga) (by rw [b8_length, hgl]) (b8_one _)
      have hlv := agg_loadVar (t := 27) Tryd.isAgg27 Tryd.sizeOf27 (by rw [b8_length, hgl]) (CellsAt.of_blk bE)
      have HBE : Hid (Below w.heap.size w wE) := hBw5.trans (honE.below (by omega))
      have HSQ : Hid _ := hst
      have HLV : Hid _ := hlv
      clear hst hlv bE honE hyx
      go_wp2_with first
        | ((with_reducible show wpList _ _ _ _ _ _); refine armL (.tmp 6) 27 rfl rfl rfl HLA.out ?_)
        | ((with_reducible show wpList _ _ _ _ _ _); refine armS (.tmp 4) (.tmp 26) 27 rfl rfl rfl rfl HSQ.out ?_)
      refine bodyPost_ret (res2c Tryd.results19 rfl HLV.out) rfl ?_
      rw [← HQ.out]
      exact ⟨rfl, HBE.out⟩
  · have hsE : strE l n x = AE4 zeroA4 ge := by
      have e : strErr l n x = getErr l n x := by unfold strErr; rw [if_pos h0]
      unfold strE
      rw [e, if_neg h0, HGE.out]
    rw [hsE] at HQ
    have e1 : gg = zeroA4 := HGG.out.trans (if_neg h0)
    have q0 : (ge != 0) = true := by rw [HGE.out]; simpa using h0
    clear HGG HGE h0 hsE
    subst e1
    have HLA : Hid _ := agg_load (t := 27) Tryd.isAgg27 Tryd.sizeOf27 rfl (CellsAt.of_blk b4)
    obtain ⟨wE, hst, bE, honE⟩ := box_store Tryd.sizeOf27 m2 rfl (b8 zeroA4) rfl (b8_one _)
    have hlv := agg_loadVar (t := 27) Tryd.isAgg27 Tryd.sizeOf27 rfl (CellsAt.of_blk bE)
    have HBE : Hid (Below w.heap.size w wE) := hBw4.trans (honE.below (by omega))
    have HSQ : Hid _ := hst
    have HLV : Hid _ := hlv
    clear hst hlv bE honE b4 hAl
    go_wp2_with first
      | ((with_reducible show wpList _ _ _ _ _ _); refine armS (.tmp 6) (.tmp 12) 27 rfl rfl rfl rfl HS4.out ?_)
      | ((with_reducible show wpList _ _ _ _ _ _); refine armL (.tmp 6) 27 rfl rfl rfl HLA.out ?_)
      | ((with_reducible show wpList _ _ _ _ _ _); refine armS (.tmp 4) (.tmp 16) 27 rfl rfl rfl rfl HSQ.out ?_)
    refine bodyPost_ret (res2c Tryd.results19 rfl HLV.out) rfl ?_
    rw [← HQ.out]
    exact ⟨rfl, HBE.out⟩

theorem eqlA4_same (l : List Int) (hl : l.length = 4) (hf : FitB l) (W : World) : (binOp .eql 27 (A4L l) (A4L l)).run Tryd.prog W = .ok (.bool true) W := by
  have h := eqlA4 l l hf hf hl hl W
  rw [decide_eq_true rfl] at h
  exact h
theorem armBg4 {P : Program} {w : World} {ops : Array Oper} {rest : List Oper} {o : Oper} {a : Act} {Q : Exit → Act → World → Prop} (b : BinOp) (t u : TypeId) (x y : Operand)
    (hop : o.op = Op.binOp b t x y u) (hw : Region.wanted o (yielded ops a.tmps) = true) {vx vy v : Value} (hx : a.eval x = vx) (hy : a.eval y = vy) (hgd : (eqGuard b t x y vx vy).run P w = .ok () w) (hrun : (binOp b t vx vy).run P w = .ok v w) (hK : wpList P ops Q rest (a.put o.dst v) w) : wpList P ops Q (o :: rest) a w :=
  arm_bin hw b t u x y hop hx hy hgd hrun hK

set_option maxHeartbeats 4000000 in
set_option maxRecDepth 100000 in
theorem gets_walk (l x : List Int) (n : Int) (w : World) (ht : Tz w) (hl : l.length = 16) (hf : FitB l) (hn : -9223372036854775808 ≤ n ∧ n ≤ 9223372036854775807) (hx : x.length = 16) (fx : FitB x) :
    Calls Tryd.prog 4 #[P6 l n, A6 x] w fun e w' => PutPost (.bool true) w e w' := by
  generalize hQ : (fun e w' => PutPost (.bool true) w e w') = Q
  have HQ : Hid _ := hQ
  clear hQ
  have hb0 := blk_alloc (blk_new w (.cells (cp6 l n).toArray 25)) (.cells (u8s x).toArray 23)
  have hb1 := blk_new (w.alloc (.cells (cp6 l n).toArray 25)) (.cells (u8s x).toArray 23)
  have z1 : (w.alloc (.cells (cp6 l n).toArray 25)).heap.size = w.heap.size + 1 := by simp
  rw [z1] at hb1
  have hBw : Below w.heap.size w ((w.alloc (.cells (cp6 l n).toArray 25)).alloc (.cells (u8s x).toArray 23)) := ((Below.refl _ w).alloc (Nat.le_refl _) _).alloc (by simp) _
  have hz : ((w.alloc (.cells (cp6 l n).toArray 25)).alloc (.cells (u8s x).toArray 23)).heap.size = w.heap.size + 2 := by simp
  generalize hW : (w.alloc (.cells (cp6 l n).toArray 25)).alloc (.cells (u8s x).toArray 23) = W2 at *
  have hGl : (if getErr l n x = 0 then getL x (plc n) else zeroA4).length = 4 := by
    split
    · exact getL_len x n
    · rfl
  have hGf : FitB (if getErr l n x = 0 then getL x (plc n) else zeroA4) := by
    split
    · exact getL_fit fx _
    · exact fit_of (by decide)
  have hSl : (if strErr l n x = 0 then getL x (plc n) else zeroA4).length = 4 := by
    split
    · exact getL_len x n
    · rfl
  have hSf : FitB (if strErr l n x = 0 then getL x (plc n) else zeroA4) := by
    split
    · exact getL_fit fx _
    · exact fit_of (by decide)
  have h1 := fun W => Get_any l n x W hf hl hn hx fx
  have h2 := fun W => RGet_any l n x W hf hl hn hx fx
  have h3 := fun W => Strict_any l n x W hf hl hn hx fx
  have h4 := fun W => RStrict_any l n x W hf hl hn hx fx
  have HT : Hid _ := fun W (hb : Below w.heap.size w W) => awake_any W (ht.on hb)
  unfold getE AE4 at h1 h2
  unfold strE AE4 at h3 h4
  generalize (if getErr l n x = 0 then getL x (plc n) else zeroA4) = g at *
  generalize (if strErr l n x = 0 then getL x (plc n) else zeroA4) = s at *
  generalize getErr l n x = ge at *
  generalize strErr l n x = se at *
  have HLP : Hid (∀ W, Below W2.heap.size W2 W → (Instr.loadAt 25 (.pointer (some ⟨w.heap.size, 0, none⟩))).run Tryd.prog W = .ok (P6 l n) W) := fun W hb => loadP6 hl (CellsAt.pfx hl ((hb.block w.heap.size (by omega)).trans hb0)).1
  have HLX : Hid (∀ W, Below W2.heap.size W2 W → (Instr.loadAt 23 (.pointer (some ⟨w.heap.size + 1, 0, none⟩))).run Tryd.prog W = .ok (A6 x) W) := fun W hb => load6 hx (CellsAt.of_blk ((hb.block (w.heap.size + 1) (by omega)).trans hb1))
  have H1 : Hid _ := h1
  have H2 : Hid _ := h2
  have H3 : Hid _ := h3
  have H4 : Hid _ := h4
  have HBW : Hid _ := hBw
  have hw2 : w.heap.size ≤ W2.heap.size := by omega
  clear h1 h2 h3 h4 z1 hz ht hb0 hb1 hBw
  have P0 : Hid _ := HLP.out W2 (Below.refl _ _)
  have X0 : Hid _ := HLX.out W2 (Below.refl _ _)
  go_enter Tryd.func4, Tryd.ntmps4
  go_wp2_with first
    | ((with_reducible show wpList _ _ _ _ _ _); refine armL (.tmp 2) 25 rfl rfl rfl P0.out ?_)
    | ((with_reducible show wpList _ _ _ _ _ _); refine armL (.tmp 3) 23 rfl rfl rfl X0.out ?_)
  refine (H1.out W2).mono ?_
  rintro e w3 ⟨rfl, hB3⟩
  obtain ⟨w4, hst4, b4, hB4⟩ := box_new Tryd.sizeOf27 w3 zero4L rfl (b8 g) (by rw [b8_length, hGl]) (b8_one _)
  have HS4 : Hid _ := hst4
  have hB24 := hB3.trans (hB4.mono hB3.size)
  have hlt4 : w3.heap.size < w4.heap.size := (Array.getElem?_eq_some_iff.1 b4).1
  have P4_ : Hid _ := HLP.out w4 hB24
  have X4_ : Hid _ := HLX.out w4 hB24
  clear hst4 P0 X0 H1 hW hB3 hB4
  go_wp2_with first
    | ((with_reducible show wpList _ _ _ _ _ _); refine armS (.tmp 5) (.tmp 17) 27 rfl rfl rfl rfl HS4.out ?_)
    | ((with_reducible show wpList _ _ _ _ _ _); refine armL (.tmp 2) 25 rfl rfl rfl P4_.out ?_)
    | ((with_reducible show wpList _ _ _ _ _ _); refine armL (.tmp 3) 23 rfl rfl rfl X4_.out ?_)
  refine (H2.out w4).mono ?_
  rintro e w5 ⟨rfl, hB5⟩
  obtain ⟨w6, hst6, b6, hB6⟩ := box_new Tryd.sizeOf27 w5 zero4L rfl (b8 g) (by rw [b8_length, hGl]) (b8_one _)
  have HS6 : Hid _ := hst6
  have hB46 := hB5.trans (hB6.mono hB5.size)
  have hB26 := hB24.trans (hB46.mono hB24.size)
  have hlt6 : w5.heap.size < w6.heap.size := (Array.getElem?_eq_some_iff.1 b6).1
  have P6_ : Hid _ := HLP.out w6 hB26
  have X6_ : Hid _ := HLX.out w6 hB26
  have b46 := (hB46.block w3.heap.size hlt4).trans b4
  have hlt46 : w3.heap.size < w6.heap.size := Nat.lt_of_lt_of_le hlt4 hB46.size
  clear hst6 P4_ X4_ H2 hB5 hB6 HS4 b4 hB24 hB46
  go_wp2_with first
    | ((with_reducible show wpList _ _ _ _ _ _); refine armS (.tmp 7) (.tmp 23) 27 rfl rfl rfl rfl HS6.out ?_)
    | ((with_reducible show wpList _ _ _ _ _ _); refine armL (.tmp 2) 25 rfl rfl rfl P6_.out ?_)
    | ((with_reducible show wpList _ _ _ _ _ _); refine armL (.tmp 3) 23 rfl rfl rfl X6_.out ?_)
  refine (H3.out w6).mono ?_
  rintro e w7 ⟨rfl, hB7⟩
  obtain ⟨w8, hst8, b8_, hB8⟩ := box_new Tryd.sizeOf27 w7 zero4L rfl (b8 s) (by rw [b8_length, hSl]) (b8_one _)
  have HS8 : Hid _ := hst8
  have hB68 := hB7.trans (hB8.mono hB7.size)
  have hB28 := hB26.trans (hB68.mono hB26.size)
  have hlt8 : w7.heap.size < w8.heap.size := (Array.getElem?_eq_some_iff.1 b8_).1
  have P8_ : Hid _ := HLP.out w8 hB28
  have X8_ : Hid _ := HLX.out w8 hB28
  have b48 := (hB68.block w3.heap.size hlt46).trans b46
  have b68 := (hB68.block w5.heap.size hlt6).trans b6
  have hlt48 : w3.heap.size < w8.heap.size := Nat.lt_of_lt_of_le hlt46 hB68.size
  have hlt68 : w5.heap.size < w8.heap.size := Nat.lt_of_lt_of_le hlt6 hB68.size
  clear hst8 P6_ X6_ H3 hB7 hB8 HS6 b46 b6 hB26 hB68
  go_wp2_with first
    | ((with_reducible show wpList _ _ _ _ _ _); refine armS (.tmp 9) (.tmp 29) 27 rfl rfl rfl rfl HS8.out ?_)
    | ((with_reducible show wpList _ _ _ _ _ _); refine armL (.tmp 2) 25 rfl rfl rfl P8_.out ?_)
    | ((with_reducible show wpList _ _ _ _ _ _); refine armL (.tmp 3) 23 rfl rfl rfl X8_.out ?_)
  refine (H4.out w8).mono ?_
  rintro e w9 ⟨rfl, hB9⟩
  obtain ⟨w10, hst10, b10, hB10⟩ := box_new Tryd.sizeOf27 w9 zero4L rfl (b8 s) (by rw [b8_length, hSl]) (b8_one _)
  have HS10 : Hid _ := hst10
  have hB810 := hB9.trans (hB10.mono hB9.size)
  have hB210 := hB28.trans (hB810.mono hB28.size)
  have hBw10 : Below w.heap.size w w10 := HBW.out.trans (hB210.mono hw2)
  have L5 : Hid _ := agg_load (t := 27) Tryd.isAgg27 Tryd.sizeOf27 (vs := b8 g) (by rw [b8_length, hGl]) (CellsAt.of_blk ((hB810.block w3.heap.size hlt48).trans b48))
  have L7 : Hid _ := agg_load (t := 27) Tryd.isAgg27 Tryd.sizeOf27 (vs := b8 g) (by rw [b8_length, hGl]) (CellsAt.of_blk ((hB810.block w5.heap.size hlt68).trans b68))
  have L9 : Hid _ := agg_load (t := 27) Tryd.isAgg27 Tryd.sizeOf27 (vs := b8 s) (by rw [b8_length, hSl]) (CellsAt.of_blk ((hB810.block w7.heap.size hlt8).trans b8_))
  have L11 : Hid _ := agg_load (t := 27) Tryd.isAgg27 Tryd.sizeOf27 (vs := b8 s) (by rw [b8_length, hSl]) (CellsAt.of_blk b10)
  have E1 : Hid _ := fun W => eqlA4_same g hGl hGf W
  have E2 : Hid _ := fun W => eqlA4_same s hSl hSf W
  have HAW : Hid _ := HT.out w10 hBw10
  have q1 : (ge == ge) = true := by simp
  have q2 : (se == se) = true := by simp
  clear hst10 P8_ X8_ H4 hB9 hB10 HS8 b48 b68 b8_ b10 hB28 hB810 hB210 HT HLP HLX HBW
  go_wp2_with first
    | ((with_reducible show wpList _ _ _ _ _ _); refine armS (.tmp 11) (.tmp 35) 27 rfl rfl rfl rfl HS10.out ?_)
    | ((with_reducible show wpList _ _ _ _ _ _); refine armL (.tmp 5) 27 rfl rfl rfl L5.out ?_)
    | ((with_reducible show wpList _ _ _ _ _ _); refine armL (.tmp 7) 27 rfl rfl rfl L7.out ?_)
    | ((with_reducible show wpList _ _ _ _ _ _); refine armB .eql 27 27 (.tmp 37) (.tmp 38) rfl rfl rfl rfl (gdA4 _ _ _ _ _ _) (E1.out _) ?_)
    | ((with_reducible show wpList _ _ _ _ _ _); refine armLg (.tmp 9) 27 rfl rfl rfl L9.out ?_)
    | ((with_reducible show wpList _ _ _ _ _ _); refine armLg (.tmp 11) 27 rfl rfl rfl L11.out ?_)
    | ((with_reducible show wpList _ _ _ _ _ _); refine armBg4 .eql 27 27 (.tmp 46) (.tmp 47) rfl rfl rfl rfl (gdA4 _ _ _ _ _ _) (E2.out _) ?_)
  refine Calls.mono HAW.out ?_
  rintro e w11 ⟨rfl, hB11⟩
  have HBE : Hid (Below w.heap.size w w11) := hBw10.trans (hB11.mono hBw10.size)
  go_wp2
  rw [← HQ.out]
  exact ⟨rfl, HBE.out⟩

set_option maxRecDepth 100000 in
theorem embedGets_open {H : Type} {enc : TypeId × Value → H} {W : World} {base : Nat} (tb : Tz W) (v0 v1 : Value) {d0 d1 : DataW H} {p0 p1 : List MemPlace}
    (o0 : Value.okWide Tryd.prog W .any base 25 v0) (h0 : DataW.Trod enc Tryd.prog W 0 (fun _ => true) true 25 v0 d0 p0)
    (o1 : Value.okWide Tryd.prog W .any base 23 v1) (h1 : DataW.Trod enc Tryd.prog W 0 (fun _ => true) true 23 v1 d1 p1) :
    Calls Tryd.prog 4 #[v0, v1] W fun e w' => e = .returned (.bool true) ∧ Below W.heap.size W w' := by
  obtain ⟨l, n, rfl, ll, lf, wn⟩ := open_prefix6 h0
  obtain ⟨x, rfl, xl, xf⟩ := open_addr6 h1
  exact gets_walk l x n W tb ll lf (bounds_i64 wn) xl xf

end Go.Proofs.YtfiiopgdgfbkkaaDoor
