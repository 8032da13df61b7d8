/-
  The document's Range; the statement EmbedRanges for every argument.
-/
import Derived.Test.YtfiiopgdgfbkkaaDoorQf1
import Derived.Test.YtfiiopgdgfbkkaaDoorQd2
import Derived.Test.YtfiiopgdgfbkkaaDoorQd3
namespace Go.Proofs.YtfiiopgdgfbkkaaDoor
open Go Go.RowKit Go.ChangeShapes Go.WideShapes Go.ChangeAt
set_option linter.unusedVariables false
set_option linter.unusedSimpArgs false

set_option maxHeartbeats 4000000 in
set_option maxRecDepth 100000 in
theorem RRange_any (l : List Int) (n : Int) (q : List Int) (m : Int) (w : World) (hf : FitB l) (hl : l.length = 16) (hb : -9223372036854775808 ≤ n ∧ n ≤ 9223372036854775807) (hq : q.length = 4) (hfq : FitB q) (hm : -9223372036854775808 ≤ m ∧ m ≤ 9223372036854775807) :
    Calls Tryd.prog 25 #[P6 l n, P4L q m] w fun e w' => PutPost (rngE l n q m) w e w' := by
  generalize hQ : (fun e w' => PutPost (rngE l n q m) w e w') = Q
  have HQ : Hid _ := hQ
  clear hQ
  have hpt := fun W => RPut_any l n q W hf hl hb hq hfq
  obtain ⟨hb0, hb1, hb2, hBw, hz⟩ := boxes3 w (cp6 l n) (cp4 q m) zero17V 25 42 25
  generalize hW : ((w.alloc (.cells (cp6 l n).toArray 25)).alloc (.cells (cp4 q m).toArray 42)).alloc (.cells zero17V.toArray 25) = W2 at *
  have HL : Hid _ := loadP6 hl (CellsAt.pfx hl hb0).1
  have HC : Hid _ := fun W => RCheckE_any l n W hf hl hb
  have HC4 : Hid _ := fun W => RCheck4_L q m W hfq hq hm
  have HZ : Hid _ := hz
  clear hz
  go_enter Tryd.func25, Tryd.ntmps25
  go_wp2_with ((with_reducible show wpList _ _ _ _ _ _); refine armL (.tmp 2) 25 rfl rfl rfl HL.out ?_)
  refine (HC.out W2).mono ?_
  rintro e w3 ⟨rfl, hB3⟩
  have hz := HZ.out
  have k0 := (hB3.block w.heap.size (by omega)).trans hb0
  have k1 := (hB3.block (w.heap.size + 1) (by omega)).trans hb1
  have k2 := (hB3.block (w.heap.size + 2) (by omega)).trans hb2
  have hBw3 := hBw.trans (hB3.mono (by omega))
  have hz3 : w.heap.size + 3 ≤ w3.heap.size := by have := hB3.size; omega
  clear hW HL HC hb0 hb1 hb2 hBw hB3 hz HZ
  by_cases h0 : chkE l n = 0
  · have hn6 := lenOk_six (chkE_ok h0).2.1
    have hpe : putE l n q = AE6 (putL l n q) 0 := by unfold putE; rw [if_pos h0, h0]
    rw [hpe] at hpt
    have HP : Hid _ := hpt
    rw [h0]
    have HLQ : Hid _ := agg_load (t := 42) Tryd.isAgg42 Tryd.sizeOf42 (vs := cp4 q m) (cp4_length q m hq) (CellsAt.of_blk k1)
    clear hpt hpe
    go_wp2_with ((with_reducible show wpList _ _ _ _ _ _); refine armL (.tmp 3) 42 rfl rfl rfl HLQ.out ?_)
    refine (HC4.out w3).mono ?_
    rintro e w5 ⟨rfl, hB5⟩
    have n0 := (hB5.block w.heap.size (by omega)).trans k0
    have n1 := (hB5.block (w.heap.size + 1) (by omega)).trans k1
    have n2 := (hB5.block (w.heap.size + 2) (by omega)).trans k2
    have hBw5 := hBw3.trans (hB5.mono (by omega))
    have hz5 : w.heap.size + 3 ≤ w5.heap.size := by have := hB5.size; omega
    clear HLQ HC4 k0 k1 k2 hBw3 hB5
    cases hk : okP4L q m with
    | false =>
      have hE : rngE l n q m = PE6 zeroA6 0 22 := by
        have e : rngErr l n q m = 22 := by unfold rngErr; rw [if_neg (by simpa using h0), hk]; rfl
        unfold rngE
        rw [e]
        rfl
      rw [hE] at HQ
      clear hE hk
      simp only [Bool.false_eq_true, if_false]
      obtain ⟨wE, hst, bE, honE⟩ := box_store Tryd.sizeOf25 n2 rfl zero17V rfl (cp6_one zeroA6 0)
      have hlv := agg_loadVar (t := 25) Tryd.isAgg25 Tryd.sizeOf25 rfl (CellsAt.of_blk bE)
      have HBE : Hid (Below w.heap.size w wE) := hBw5.trans (honE.below (by omega))
      have HSQ : Hid _ := hst
      have HLV : Hid _ := hlv
      clear hst hlv bE honE
      go_wp2_with ((with_reducible show wpList _ _ _ _ _ _); refine armS (.tmp 4) (.tmp 19) 25 rfl rfl rfl rfl HSQ.out ?_)
      refine bodyPost_ret (res2c Tryd.results25 rfl HLV.out) rfl ?_
      rw [← HQ.out]
      exact ⟨rfl, HBE.out⟩
    | true =>
      have hE : rngE l n q m = PE6 (putL l n q) (rngN n m) 0 := by
        have e : rngErr l n q m = 0 := by unfold rngErr; rw [if_neg (by simpa using h0), hk]; rfl
        unfold rngE
        rw [e]
        rfl
      rw [hE] at HQ
      have hmr : 0 ≤ m ∧ m ≤ 32 := by
        unfold okP4L at hk
        simp only [Bool.and_eq_true, decide_eq_true_eq] at hk
        exact hk.1
      have hpl : (putL l n q).length = 16 := by unfold putL; rw [putK_length, hl]
      have HLP : Hid _ := loadP6 hl (CellsAt.pfx hl n0).1
      have HLQ : Hid _ := agg_load (t := 27) Tryd.isAgg27 Tryd.sizeOf27 (by rw [b8_length, hq]) (cells4 hq n1).1
      have hnr : 0 ≤ n ∧ n ≤ 128 := by omega
      clear hE hk hn6 h0
      generalize putL l n q = y at *
      simp only [if_true]
      go_wp2_with first
        | ((with_reducible show wpList _ _ _ _ _ _); refine armL (.tmp 2) 25 rfl rfl rfl HLP.out ?_)
        | ((with_reducible show wpList _ _ _ _ _ _); refine armL (.tmp 22) 27 rfl rfl rfl HLQ.out ?_)
      refine (HP.out w5).mono ?_
      rintro e w6 ⟨rfl, hB6⟩
      unfold AE6
      obtain ⟨w7, hst7, b7, hB7⟩ := box_new Tryd.sizeOf23 w6 zero16V rfl (u8s y) (by rw [u8s_length, hpl]) (u8s_one _)
      have HS7 : Hid _ := hst7
      have hB57 := hB6.trans (hB7.mono hB6.size)
      have c16 := (CellsAt.pfx hl ((hB57.block w.heap.size (by omega)).trans n0)).2.2
      have c4 := (cells4 hq ((hB57.block (w.heap.size + 1) (by omega)).trans n1)).2
      have s2 := (hB57.block (w.heap.size + 2) (by omega)).trans n2
      have hBw7 := hBw5.trans (hB57.mono (by omega))
      have HLX : Hid _ := load6 hpl (CellsAt.of_blk b7)
      obtain ⟨wE, hst, bE, honE⟩ := box_store Tryd.sizeOf25 s2 rfl (cp6 y (rngN n m)) (cp6_length _ _ hpl) (cp6_one _ _)
      have hlv := loadVarP6 hpl (CellsAt.pfx hpl bE).1
      have HBE : Hid (Below w.heap.size w wE) := hBw7.trans (honE.below (by omega))
      have HSQ : Hid _ := hst
      have HLV : Hid _ := hlv
      have HBU : Hid _ := fun W => build6 y (rngN n m) hpl W
      clear hst hlv bE honE n0 n1 n2 hst7 b7 hB6 hB7 hB57 hBw5 hBw7 HP HLP HLQ s2
      by_cases h64 : n ≤ 64
      · by_cases h65 : 64 < n + m
        · have er : rngN n m = n + m + 8 := if_pos ⟨h64, h65⟩
          rw [er] at HSQ HLV HBU HQ
          clear er
          go_wp2_with first
            | ((with_reducible show wpList _ _ _ _ _ _); refine armS (.tmp 7) (.tmp 25) 23 rfl rfl rfl rfl HS7.out ?_)
            | ((with_reducible show wpList _ _ _ _ _ _); refine armL (.tmp 7) 23 rfl rfl rfl HLX.out ?_)
            | ((with_reducible show wpList _ _ _ _ _ _); refine armBu (vs := [(0, A6 y), (1, .int .i64 (n + m + 8))]) 25 [(0, .tmp 41), (1, .tmp 42)] rfl rfl rfl (HBU.out _) ?_)
            | ((with_reducible show wpList _ _ _ _ _ _); refine armS (.tmp 4) (.tmp 43) 25 rfl rfl rfl rfl HSQ.out ?_)
          refine bodyPost_ret (res2c Tryd.results25 rfl HLV.out) rfl ?_
          rw [← HQ.out]
          exact ⟨rfl, HBE.out⟩
        · have er : rngN n m = n + m := if_neg (fun h => h65 h.2)
          rw [er] at HSQ HLV HBU HQ
          clear er
          go_wp2_with first
            | ((with_reducible show wpList _ _ _ _ _ _); refine armS (.tmp 7) (.tmp 25) 23 rfl rfl rfl rfl HS7.out ?_)
            | ((with_reducible show wpList _ _ _ _ _ _); refine armL (.tmp 7) 23 rfl rfl rfl HLX.out ?_)
            | ((with_reducible show wpList _ _ _ _ _ _); refine armBu (vs := [(0, A6 y), (1, .int .i64 (n + m))]) 25 [(0, .tmp 41), (1, .tmp 42)] rfl rfl rfl (HBU.out _) ?_)
            | ((with_reducible show wpList _ _ _ _ _ _); refine armS (.tmp 4) (.tmp 43) 25 rfl rfl rfl rfl HSQ.out ?_)
          refine bodyPost_ret (res2c Tryd.results25 rfl HLV.out) rfl ?_
          rw [← HQ.out]
          exact ⟨rfl, HBE.out⟩
      · have er : rngN n m = n + m := if_neg (fun h => h64 h.1)
        rw [er] at HSQ HLV HBU HQ
        clear er
        go_wp2_with first
          | ((with_reducible show wpList _ _ _ _ _ _); refine armS (.tmp 7) (.tmp 25) 23 rfl rfl rfl rfl HS7.out ?_)
          | ((with_reducible show wpList _ _ _ _ _ _); refine armL (.tmp 7) 23 rfl rfl rfl HLX.out ?_)
          | ((with_reducible show wpList _ _ _ _ _ _); refine armBu (vs := [(0, A6 y), (1, .int .i64 (n + m))]) 25 [(0, .tmp 41), (1, .tmp 42)] rfl rfl rfl (HBU.out _) ?_)
          | ((with_reducible show wpList _ _ _ _ _ _); refine armS (.tmp 4) (.tmp 43) 25 rfl rfl rfl rfl HSQ.out ?_)
        refine bodyPost_ret (res2c Tryd.results25 rfl HLV.out) rfl ?_
        rw [← HQ.out]
        exact ⟨rfl, HBE.out⟩
  · have hE : rngE l n q m = PE6 zeroA6 0 (chkE l n) := by
      have e : rngErr l n q m = chkE l n := by unfold rngErr; rw [if_pos h0]
      unfold rngE
      rw [e, if_neg h0, if_neg h0]
    rw [hE] at HQ
    have q0 : (chkE l n != 0) = true := by simpa using h0
    clear hE hpt HC4
    generalize chkE l n = ce at *
    obtain ⟨wE, hst, bE, honE⟩ := box_store Tryd.sizeOf25 k2 rfl zero17V rfl (cp6_one zeroA6 0)
    have hlv := agg_loadVar (t := 25) Tryd.isAgg25 Tryd.sizeOf25 rfl (CellsAt.of_blk bE)
    have HBE : Hid (Below w.heap.size w wE) := hBw3.trans (honE.below (by omega))
    have HSQ : Hid _ := hst
    have HLV : Hid _ := hlv
    clear hst hlv bE honE
    go_wp2_with ((with_reducible show wpList _ _ _ _ _ _); refine armS (.tmp 4) (.tmp 14) 25 rfl rfl rfl rfl HSQ.out ?_)
    refine bodyPost_ret (res2c Tryd.results25 rfl HLV.out) rfl ?_
    rw [← HQ.out]
    exact ⟨rfl, HBE.out⟩

theorem eqlP6_same (l : List Int) (n : Int) (hl : l.length = 16) (hf : FitB l) (W : World) : (binOp .eql 25 (P6 l n) (P6 l n)).run Tryd.prog W = .ok (.bool true) W := by
  have h := eqlP6 l l n n hf hf hl hl W
  rw [decide_eq_true rfl, beq_self_eq_true] at h
  exact h

set_option maxHeartbeats 2000000 in
set_option maxRecDepth 100000 in
theorem ranges_walk (l q : List Int) (n m : Int) (w : World) (ht : Tz w) (hl : l.length = 16) (hf : FitB l) (hn : -9223372036854775808 ≤ n ∧ n ≤ 9223372036854775807) (hq : q.length = 4) (fq : FitB q) (hm : -9223372036854775808 ≤ m ∧ m ≤ 9223372036854775807) :
    Calls Tryd.prog 6 #[P6 l n, P4L q m] w fun e w' => PutPost (.bool true) w e w' := by
  generalize hQ : (fun e w' => PutPost (.bool true) w e w') = Q
  have HQ : Hid _ := hQ
  clear hQ
  have hb0 := blk_alloc (blk_new w (.cells (cp6 l n).toArray 25)) (.cells (cp4 q m).toArray 42)
  have hb1 := blk_new (w.alloc (.cells (cp6 l n).toArray 25)) (.cells (cp4 q m).toArray 42)
  have z1 : (w.alloc (.cells (cp6 l n).toArray 25)).heap.size = w.heap.size + 1 := by simp
  rw [z1] at hb1
  have hBw : Below w.heap.size w ((w.alloc (.cells (cp6 l n).toArray 25)).alloc (.cells (cp4 q m).toArray 42)) := ((Below.refl _ w).alloc (Nat.le_refl _) _).alloc (by simp) _
  have hz : ((w.alloc (.cells (cp6 l n).toArray 25)).alloc (.cells (cp4 q m).toArray 42)).heap.size = w.heap.size + 2 := by simp
  generalize hW : (w.alloc (.cells (cp6 l n).toArray 25)).alloc (.cells (cp4 q m).toArray 42) = W2 at *
  have hRl : (if rngErr l n q m = 0 then putL l n q else zeroA6).length = 16 := by
    split
    · unfold putL; rw [putK_length, hl]
    · rfl
  have hRf : FitB (if rngErr l n q m = 0 then putL l n q else zeroA6) := by
    split
    · exact putK_fit hf fq _ _
    · exact fit_of (by decide)
  have h1 := fun W => Range_any l n q m W hf hl hn hq fq hm
  have h2 := fun W => RRange_any l n q m W hf hl hn hq fq hm
  have HT : Hid _ := fun W (hb : Below w.heap.size w W) => awake_any W (ht.on hb)
  unfold rngE PE6 at h1 h2
  generalize (if rngErr l n q m = 0 then putL l n q else zeroA6) = y at *
  generalize (if rngErr l n q m = 0 then rngN n m else 0) = rr at *
  generalize rngErr l n q m = re at *
  have HLP : Hid _ := loadP6 hl (CellsAt.pfx hl hb0).1
  have HLQ : Hid _ := agg_load (t := 42) Tryd.isAgg42 Tryd.sizeOf42 (vs := cp4 q m) (cp4_length q m hq) (CellsAt.of_blk hb1)
  have H1 : Hid _ := h1
  have H2 : Hid _ := h2
  have HZ : Hid _ := hz
  clear h1 h2 z1 hz ht
  go_enter Tryd.func6, Tryd.ntmps6
  go_wp2_with first
    | ((with_reducible show wpList _ _ _ _ _ _); refine armL (.tmp 2) 25 rfl rfl rfl HLP.out ?_)
    | ((with_reducible show wpList _ _ _ _ _ _); refine armL (.tmp 3) 42 rfl rfl rfl HLQ.out ?_)
  refine (H1.out W2).mono ?_
  rintro e w3 ⟨rfl, hB3⟩
  have hz := HZ.out
  obtain ⟨w4, hst4, b4, hB4⟩ := box_new Tryd.sizeOf25 w3 zero17V rfl (cp6 y rr) (cp6_length _ _ hRl) (cp6_one _ _)
  have HS4 : Hid _ := hst4
  have hB24 := hB3.trans (hB4.mono hB3.size)
  have HLP4 : Hid _ := loadP6 hl (CellsAt.pfx hl ((hB24.block w.heap.size (by omega)).trans hb0)).1
  have HLQ4 : Hid _ := agg_load (t := 42) Tryd.isAgg42 Tryd.sizeOf42 (vs := cp4 q m) (cp4_length q m hq) (CellsAt.of_blk ((hB24.block (w.heap.size + 1) (by omega)).trans hb1))
  have hBw4 := hBw.trans (hB24.mono (by omega))
  have hlt4 : w3.heap.size < w4.heap.size := (Array.getElem?_eq_some_iff.1 b4).1
  clear hst4 HLP HLQ H1 hW hb0 hb1 hBw hB3 hB4 hB24 hz HZ
  go_wp2_with first
    | ((with_reducible show wpList _ _ _ _ _ _); refine armS (.tmp 5) (.tmp 13) 25 rfl rfl rfl rfl HS4.out ?_)
    | ((with_reducible show wpList _ _ _ _ _ _); refine armL (.tmp 2) 25 rfl rfl rfl HLP4.out ?_)
    | ((with_reducible show wpList _ _ _ _ _ _); refine armL (.tmp 3) 42 rfl rfl rfl HLQ4.out ?_)
  refine (H2.out w4).mono ?_
  rintro e w5 ⟨rfl, hB5⟩
  obtain ⟨w6, hst6, b6, hB6⟩ := box_new Tryd.sizeOf25 w5 zero17V rfl (cp6 y rr) (cp6_length _ _ hRl) (cp6_one _ _)
  have HS6 : Hid _ := hst6
  have hB46 := hB5.trans (hB6.mono hB5.size)
  have hBw6 := hBw4.trans (hB46.mono hBw4.size)
  have HLA : Hid _ := loadP6 hRl (CellsAt.pfx hRl ((hB46.block w3.heap.size hlt4).trans b4)).1
  have HLB : Hid _ := loadP6 hRl (CellsAt.pfx hRl b6).1
  have HEQ : Hid _ := fun W => eqlP6_same y rr hRl hRf W
  have HAW : Hid _ := HT.out w6 hBw6
  have qe : (re == re) = true := by simp
  clear hst6 HLP4 HLQ4 H2 HS4 b4 b6 hB5 hB6 hB46 hBw4 HT
  go_wp2_with first
    | ((with_reducible show wpList _ _ _ _ _ _); refine armS (.tmp 7) (.tmp 19) 25 rfl rfl rfl rfl HS6.out ?_)
    | ((with_reducible show wpList _ _ _ _ _ _); refine armL (.tmp 5) 25 rfl rfl rfl HLA.out ?_)
    | ((with_reducible show wpList _ _ _ _ _ _); refine armL (.tmp 7) 25 rfl rfl rfl HLB.out ?_)
    | ((with_reducible show wpList _ _ _ _ _ _); refine armB .eql 25 25 (.tmp 21) (.tmp 22) rfl rfl rfl rfl (gdP6 _ _ _ _ _ _) (HEQ.out _) ?_)
  refine Calls.mono HAW.out ?_
  rintro e w7 ⟨rfl, hB7⟩
  have HBE : Hid (Below w.heap.size w w7) := hBw6.trans (hB7.mono hBw6.size)
  go_wp2
  rw [← HQ.out]
  exact ⟨rfl, HBE.out⟩

set_option maxRecDepth 100000 in
theorem embedRanges_open {H : Type} {enc : TypeId × Value → H} {W : World} {base : Nat} (tb : Tz W) (v0 v1 : Value) {d0 d1 : DataW H} {p0 p1 : List MemPlace}
    (o0 : Value.okWide Tryd.prog W .any base 25 v0) (h0 : DataW.Trod enc Tryd.prog W 0 (fun _ => true) true 25 v0 d0 p0)
    (o1 : Value.okWide Tryd.prog W .any base 42 v1) (h1 : DataW.Trod enc Tryd.prog W 0 (fun _ => true) true 42 v1 d1 p1) :
    Calls Tryd.prog 6 #[v0, v1] W fun e w' => e = .returned (.bool true) ∧ Below W.heap.size W w' := by
  obtain ⟨l, n, rfl, ll, lf, wn⟩ := open_prefix6 h0
  obtain ⟨q0, q1, q2, q3, m, rfl, f0, f1, f2, f3, wm⟩ := open_prefix4 h1
  exact ranges_walk l [q0, q1, q2, q3] n m W tb ll lf (bounds_i64 wn) rfl (fit4 f0 f1 f2 f3) (bounds_i64 wm)

end Go.Proofs.YtfiiopgdgfbkkaaDoor
