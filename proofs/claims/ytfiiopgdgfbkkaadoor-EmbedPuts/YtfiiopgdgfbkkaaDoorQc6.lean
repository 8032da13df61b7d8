/-
  Package embed: Range.
-/
import Derived.Test.YtfiiopgdgfbkkaaDoorQc4
namespace Go.Proofs.YtfiiopgdgfbkkaaDoor
set_option linter.unusedVariables false
set_option linter.unusedSimpArgs false
open Go Go.RowKit

theorem Check4_L (l : List Int) (n : Int) (w : World) (hf : FitB l) (hl : l.length = 4) (hb : -9223372036854775808 ≤ n ∧ n ≤ 9223372036854775807) :
    Calls Tryd.prog 39 #[P4L l n] w fun e w' => e = .returned (.int .i64 (if okP4L l n then 0 else 22)) ∧ Below w.heap.size w w' := by
  obtain ⟨a0, a1, a2, a3, rfl⟩ := list4 hl
  have h := Check4_calls a0 a1 a2 a3 n w (hf a0 (by simp)) (hf a1 (by simp)) (hf a2 (by simp)) (hf a3 (by simp)) hb
  have e : okP4 a0 a1 a2 a3 n = okP4L [a0, a1, a2, a3] n := by unfold okP4 okP4L; rw [blR4]
  rw [e] at h
  exact h

/-- A prefix and an error. -/
def PE6 (l : List Int) (n e : Int) : Value := .tuple #[P6 l n, .int .i64 e]

def rngN (n m : Int) : Int := if n ≤ 64 ∧ 64 < n + m then n + m + 8 else n + m
def rngErr (l : List Int) (n : Int) (q : List Int) (m : Int) : Int := if chkE l n ≠ 0 then chkE l n else if okP4L q m then 0 else 22
def rngE (l : List Int) (n : Int) (q : List Int) (m : Int) : Value := PE6 (if rngErr l n q m = 0 then putL l n q else zeroA6) (if rngErr l n q m = 0 then rngN n m else 0) (rngErr l n q m)

theorem cells4 {w : World} {b : Nat} {l : List Int} {n : Int} {t : TypeId} (hl : l.length = 4) (h : w.heap[b]? = some (.cells (cp4 l n).toArray t)) : CellsAt w b 0 (b8 l) ∧ w.cell? ⟨b, 4, none⟩ = some (.int .i64 n) := by
  have hc := CellsAt.of_blk h
  refine ⟨CellsAt.fst (ys := [.int .i64 n]) hc, blk_cell h ?_⟩
  rw [cp4, List.getElem?_append_right (by rw [b8_length, hl]; exact Nat.le_refl _), b8_length, hl]
  rfl

theorem armBu {P : Program} {w : World} {ops : Array Oper} {rest : List Oper} {o : Oper} {a : Act} {Q : Exit → Act → World → Prop} (t : TypeId) (ps : List (Nat × Operand)) (hop : o.op = Op.build t ps.toArray) (hg : o.guard = none) {vs : List (Nat × Value)} (hv : ps.map (fun p => (p.1, a.eval p.2)) = vs) {v : Value} (hrun : (Instr.build t vs.toArray).run P w = .ok v w) (hK : wpList P ops Q rest (a.put o.dst v) w) : wpList P ops Q (o :: rest) a w :=
  arm_build (by simp [Region.wanted, hg]) t ps hop hv hrun hK

set_option maxHeartbeats 2000000 in
set_option maxRecDepth 100000 in
theorem Range_any (l : List Int) (n : Int) (q : List Int) (m : Int) (w : World) (hf : FitB l) (hl : l.length = 16) (hb : -9223372036854775808 ≤ n ∧ n ≤ 9223372036854775807) (hq : q.length = 4) (hfq : FitB q) (hm : -9223372036854775808 ≤ m ∧ m ≤ 9223372036854775807) :
    Calls Tryd.prog 24 #[P6 l n, P4L q m] w fun e w' => PutPost (rngE l n q m) w e w' := by
  generalize hQ : (fun e w' => PutPost (rngE l n q m) w e w') = Q
  have HQ : Hid _ := hQ
  clear hQ
  have hpt := fun W => Put_any l n q W hf hl hb hq hfq
  have hck := fun W => Check4_L q m W hfq hq hm
  obtain ⟨hb0, hb1, hb2, hBw, hz⟩ := boxes3 w (cp6 l n) (cp4 q m) zero17V 25 42 25
  generalize hW : ((w.alloc (.cells (cp6 l n).toArray 25)).alloc (.cells (cp4 q m).toArray 42)).alloc (.cells zero17V.toArray 25) = W2 at *
  have HL : Hid _ := loadP6 hl (CellsAt.pfx hl hb0).1
  have HLQ : Hid _ := agg_load (t := 27) Tryd.isAgg27 Tryd.sizeOf27 (by rw [b8_length, hq]) (cells4 hq hb1).1
  have HP : Hid _ := hpt
  have HC4 : Hid _ := hck
  have HZ : Hid _ := hz
  clear hpt hck hz
  go_enter Tryd.func24, Tryd.ntmps24
  go_wp2_with first
    | ((with_reducible show wpList _ _ _ _ _ _); refine armL (.tmp 2) 25 rfl rfl rfl HL.out ?_)
    | ((with_reducible show wpList _ _ _ _ _ _); refine armL (.tmp 12) 27 rfl rfl rfl HLQ.out ?_)
  refine (HP.out W2).mono ?_
  rintro e w3 ⟨rfl, hB3⟩
  have hz := HZ.out
  have k0 := (hB3.block w.heap.size (by omega)).trans hb0
  have k1 := (hB3.block (w.heap.size + 1) (by omega)).trans hb1
  have k2 := (hB3.block (w.heap.size + 2) (by omega)).trans hb2
  have hBw3 := hBw.trans (hB3.mono (by omega))
  have hz3 : w.heap.size + 3 ≤ w3.heap.size := by have := hB3.size; omega
  clear hW HL HLQ HP hb0 hb1 hb2 hBw hB3 hz HZ
  unfold putE AE6
  have hAl : (if chkE l n = 0 then putL l n q else zeroA6).length = 16 := by
    split
    · unfold putL; rw [putK_length, hl]
    · rfl
  obtain ⟨w4, hst4, b4, hB4⟩ := box_new Tryd.sizeOf23 w3 zero16V rfl (u8s (if chkE l n = 0 then putL l n q else zeroA6)) (by rw [u8s_length, hAl]) (u8s_one _)
  have HS4 : Hid _ := hst4
  have m0 := (hB4.block w.heap.size (by omega)).trans k0
  have m1 := (hB4.block (w.heap.size + 1) (by omega)).trans k1
  have m2 := (hB4.block (w.heap.size + 2) (by omega)).trans k2
  have hBw4 := hBw3.trans (hB4.mono (by omega))
  have hz4 : w.heap.size + 3 ≤ w4.heap.size := by have := hB4.size; omega
  have hlt4 : w3.heap.size < w4.heap.size := (Array.getElem?_eq_some_iff.1 b4).1
  clear hst4 k0 k1 k2 hBw3 hB4
  by_cases h0 : chkE l n = 0
  · have hn6 := lenOk_six (chkE_ok h0).2.1
    rw [h0] at HS4 b4 ⊢
    simp only [if_true] at HS4 b4 ⊢
    have hpl : (putL l n q).length = 16 := by unfold putL; rw [putK_length, hl]
    have HLQ : Hid _ := agg_load (t := 42) Tryd.isAgg42 Tryd.sizeOf42 (vs := cp4 q m) (cp4_length q m hq) (CellsAt.of_blk m1)
    go_wp2_with first
      | ((with_reducible show wpList _ _ _ _ _ _); refine armS (.tmp 6) (.tmp 15) 23 rfl rfl rfl rfl HS4.out ?_)
      | ((with_reducible show wpList _ _ _ _ _ _); refine armL (.tmp 3) 42 rfl rfl rfl HLQ.out ?_)
    refine (HC4.out w4).mono ?_
    rintro e w5 ⟨rfl, hB5⟩
    have n0 := (hB5.block w.heap.size (by omega)).trans m0
    have n1 := (hB5.block (w.heap.size + 1) (by omega)).trans m1
    have n2 := (hB5.block (w.heap.size + 2) (by omega)).trans m2
    have n4 := (hB5.block w3.heap.size hlt4).trans b4
    have hBw5 := hBw4.trans (hB5.mono (by omega))
    clear HS4 HLQ HC4 m0 m1 m2 b4 hBw4 hB5
    cases hk : okP4L q m with
    | false =>
      have hE : rngE l n q m = PE6 zeroA6 0 22 := by
        have e : rngErr l n q m = 22 := by unfold rngErr; rw [if_neg (by simpa using h0), hk]; rfl
        unfold rngE
        rw [e]
        rfl
      rw [hE] at HQ
      obtain ⟨wE, hst, bE, honE⟩ := box_store Tryd.sizeOf25 n2 rfl zero17V rfl (cp6_one zeroA6 0)
      have hlv := agg_loadVar (t := 25) Tryd.isAgg25 Tryd.sizeOf25 rfl (CellsAt.of_blk bE)
      have HBE : Hid (Below w.heap.size w wE) := hBw5.trans (honE.below (by omega))
      have HSQ : Hid _ := hst
      have HLV : Hid _ := hlv
      clear hst hlv bE honE hE hk
      simp only [Bool.false_eq_true, if_false]
      go_wp2_with ((with_reducible show wpList _ _ _ _ _ _); refine armS (.tmp 4) (.tmp 25) 25 rfl rfl rfl rfl HSQ.out ?_)
      refine bodyPost_ret (res2c Tryd.results24 rfl HLV.out) rfl ?_
      rw [← HQ.out]
      exact ⟨rfl, HBE.out⟩
    | true =>
      have hE : rngE l n q m = PE6 (putL l n q) (rngN n m) 0 := by
        have e : rngErr l n q m = 0 := by unfold rngErr; rw [if_neg (by simpa using h0), hk]; rfl
        unfold rngE
        rw [e]
        rfl
      rw [hE] at HQ
      have hmr : 0 ≤ m ∧ m ≤ 32 := by
        unfold okP4L at hk
        simp only [Bool.and_eq_true, decide_eq_true_eq] at hk
        exact hk.1
      have c16 := (CellsAt.pfx hl n0).2.2
      have c4 := (cells4 hq n1).2
      have HLX : Hid _ := load6 hpl (CellsAt.of_blk n4)
      obtain ⟨wE, hst, bE, honE⟩ := box_store Tryd.sizeOf25 n2 rfl (cp6 (putL l n q) (rngN n m)) (cp6_length _ _ hpl) (cp6_one _ _)
      have hlv := loadVarP6 hpl (CellsAt.pfx hpl bE).1
      have HBE : Hid (Below w.heap.size w wE) := hBw5.trans (honE.below (by omega))
      have HSQ : Hid _ := hst
      have HLV : Hid _ := hlv
      have HBU : Hid _ := fun W => build6 (putL l n q) (rngN n m) hpl W
      have hnr : 0 ≤ n ∧ n ≤ 128 := by omega
      clear hst hlv bE honE hE hk n0 n1 n2 n4 hn6 h0
      generalize putL l n q = y at *
      simp only [if_true]
      by_cases h64 : n ≤ 64
      · by_cases h65 : 64 < n + m
        · have er : rngN n m = n + m + 8 := if_pos ⟨h64, h65⟩
          rw [er] at HSQ HLV HBU HQ
          clear er
          go_wp2_with first
            | ((with_reducible show wpList _ _ _ _ _ _); refine armL (.tmp 6) 23 rfl rfl rfl HLX.out ?_)
            | ((with_reducible show wpList _ _ _ _ _ _); refine armBu (vs := [(0, A6 y), (1, .int .i64 (n + m + 8))]) 25 [(0, .tmp 41), (1, .tmp 42)] rfl rfl rfl (HBU.out _) ?_)
            | ((with_reducible show wpList _ _ _ _ _ _); refine armS (.tmp 4) (.tmp 43) 25 rfl rfl rfl rfl HSQ.out ?_)
          refine bodyPost_ret (res2c Tryd.results24 rfl HLV.out) rfl ?_
          rw [← HQ.out]
          exact ⟨rfl, HBE.out⟩
        · have er : rngN n m = n + m := if_neg (fun h => h65 h.2)
          rw [er] at HSQ HLV HBU HQ
          clear er
          go_wp2_with first
            | ((with_reducible show wpList _ _ _ _ _ _); refine armL (.tmp 6) 23 rfl rfl rfl HLX.out ?_)
            | ((with_reducible show wpList _ _ _ _ _ _); refine armBu (vs := [(0, A6 y), (1, .int .i64 (n + m))]) 25 [(0, .tmp 41), (1, .tmp 42)] rfl rfl rfl (HBU.out _) ?_)
            | ((with_reducible show wpList _ _ _ _ _ _); refine armS (.tmp 4) (.tmp 43) 25 rfl rfl rfl rfl HSQ.out ?_)
          refine bodyPost_ret (res2c Tryd.results24 rfl HLV.out) rfl ?_
          rw [← HQ.out]
          exact ⟨rfl, HBE.out⟩
      · have er : rngN n m = n + m := if_neg (fun h => h64 h.1)
        rw [er] at HSQ HLV HBU HQ
        clear er
        go_wp2_with first
          | ((with_reducible show wpList _ _ _ _ _ _); refine armL (.tmp 6) 23 rfl rfl rfl HLX.out ?_)
          | ((with_reducible show wpList _ _ _ _ _ _); refine armBu (vs := [(0, A6 y), (1, .int .i64 (n + m))]) 25 [(0, .tmp 41), (1, .tmp 42)] rfl rfl rfl (HBU.out _) ?_)
          | ((with_reducible show wpList _ _ _ _ _ _); refine armS (.tmp 4) (.tmp 43) 25 rfl rfl rfl rfl HSQ.out ?_)
        refine bodyPost_ret (res2c Tryd.results24 rfl HLV.out) rfl ?_
        rw [← HQ.out]
        exact ⟨rfl, HBE.out⟩
  · have hE : rngE l n q m = PE6 zeroA6 0 (chkE l n) := by
      have e : rngErr l n q m = chkE l n := by unfold rngErr; rw [if_pos h0]
      unfold rngE
      rw [e, if_neg h0, if_neg h0]
    rw [hE] at HQ
    have q0 : (chkE l n != 0) = true := by simpa using h0
    obtain ⟨wE, hst, bE, honE⟩ := box_store Tryd.sizeOf25 m2 rfl zero17V rfl (cp6_one zeroA6 0)
    have hlv := agg_loadVar (t := 25) Tryd.isAgg25 Tryd.sizeOf25 rfl (CellsAt.of_blk bE)
    have HBE : Hid (Below w.heap.size w wE) := hBw4.trans (honE.below (by omega))
    have HSQ : Hid _ := hst
    have HLV : Hid _ := hlv
    clear hst hlv bE honE hE b4 hAl HC4
    generalize (if chkE l n = 0 then putL l n q else zeroA6) = gl at *
    generalize chkE l n = ce at *
    go_wp2_with first
      | ((with_reducible show wpList _ _ _ _ _ _); refine armS (.tmp 6) (.tmp 15) 23 rfl rfl rfl rfl HS4.out ?_)
      | ((with_reducible show wpList _ _ _ _ _ _); refine armS (.tmp 4) (.tmp 19) 25 rfl rfl rfl rfl HSQ.out ?_)
    refine bodyPost_ret (res2c Tryd.results24 rfl HLV.out) rfl ?_
    rw [← HQ.out]
    exact ⟨rfl, HBE.out⟩

end Go.Proofs.YtfiiopgdgfbkkaaDoor
