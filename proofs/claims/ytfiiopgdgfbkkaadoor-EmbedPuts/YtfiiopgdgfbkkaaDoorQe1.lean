/-
  The statement EmbedWithin for every argument.
-/
import Derived.Test.YtfiiopgdgfbkkaaDoorQe0
import Derived.Test.YtfiiopgdgfbkkaaDoorQd2
import Derived.Test.YtfiiopgdgfbkkaaDoorQd3
namespace Go.Proofs.YtfiiopgdgfbkkaaDoor
open Go Go.RowKit Go.ChangeShapes Go.WideShapes Go.ChangeAt
set_option linter.unusedVariables false
set_option linter.unusedSimpArgs false

def has4L (q : List Int) (m : Int) (a : List Int) : Bool := decide (blR m a = q)
theorem RHas4_L (q : List Int) (m : Int) (a : List Int) (w : World) (hq : q.length = 4) (fq : FitB q) (ha : a.length = 4) (fa : FitB a) (hm : -9223372036854775808 ≤ m ∧ m ≤ 9223372036854775807) :
    Calls Tryd.prog 27 #[P4L q m, A4L a] w fun e w' => e = .returned (.tuple #[.bool (okP4L q m && has4L q m a), .int .i64 (if okP4L q m then 0 else 22)]) ∧ Below w.heap.size w w' := by
  obtain ⟨q0, q1, q2, q3, rfl⟩ := list4 hq
  obtain ⟨b0, b1, b2, b3, rfl⟩ := list4 ha
  have h := RHas4_calls q0 q1 q2 q3 m b0 b1 b2 b3 w (fq q0 (by simp)) (fq q1 (by simp)) (fq q2 (by simp)) (fq q3 (by simp)) hm (fa b0 (by simp)) (fa b1 (by simp)) (fa b2 (by simp)) (fa b3 (by simp))
  have e : okP4 q0 q1 q2 q3 m = okP4L [q0, q1, q2, q3] m := by unfold okP4 okP4L; rw [blR4]
  have e2 : hasB q0 q1 q2 q3 m b0 b1 b2 b3 = has4L [q0, q1, q2, q3] m [b0, b1, b2, b3] := by unfold hasB has4L; rw [blR4]
  rw [e, e2] at h
  exact h

theorem putL_inj {l a b : List Int} {n : Int} (hl : l.length = 16) (hf : FitB l) (h : chkE l n = 0) (ha : a.length = 4) (fa : FitB a) (hb : b.length = 4) (fb : FitB b) : putL l n a = putL l n b ↔ a = b := by
  refine ⟨fun e => ?_, fun e => by rw [e]⟩
  have h1 := (emb_any hl hf h ha fa).got
  have h2 := (emb_any hl hf h hb fb).got
  rw [e] at h1
  exact h1.symm.trans h2

theorem okP4L_form {q : List Int} {m : Int} (h : okP4L q m = true) : (0 ≤ m ∧ m ≤ 32) ∧ q = blR m q := by
  unfold okP4L at h
  simpa only [Bool.and_eq_true, decide_eq_true_eq] using h

theorem rng_ok {l q : List Int} {n m : Int} (hl : l.length = 16) (hf : FitB l) (h : chkE l n = 0) (hq : q.length = 4) (fq : FitB q) (ho : okP4L q m = true) : okP6 (putL l n q) (rngN n m) = true ∧ 0 ≤ rngN n m ∧ rngN n m ≤ 136 := by
  obtain ⟨hm, e⟩ := okP4L_form ho
  have hn := lenOk_six (chkE_ok h).2.1
  have hc := (emb_any hl hf h hq fq).cut m hm.1 hm.2
  rw [← e] at hc
  have hr : 0 ≤ rngN n m ∧ rngN n m ≤ 128 := by unfold rngN; split <;> omega
  refine ⟨?_, by omega⟩
  unfold okP6
  rw [decide_eq_true hr, decide_eq_true hc.symm]
  rfl

theorem there_want {l q a : List Int} {n m : Int} (hl : l.length = 16) (hf : FitB l) (h : chkE l n = 0) (hq : q.length = 4) (fq : FitB q) (ha : a.length = 4) (fa : FitB a) (ho : okP4L q m = true) : has6 (putL l n q) (rngN n m) (putL l n a) = has4L q m a := by
  obtain ⟨hm, e⟩ := okP4L_form ho
  have hc := (emb_any hl hf h ha fa).cut m hm.1 hm.2
  unfold has6 has4L
  rw [hc]
  have hb4 : (blR m a).length = 4 := by rw [blR_length, ha]
  rw [Bool.eq_iff_iff, decide_eq_true_eq, decide_eq_true_eq]
  exact putL_inj hl hf h hb4 (blR_fit fa) hq fq

set_option maxHeartbeats 4000000 in
set_option maxRecDepth 100000 in
theorem within_walk (l q a : List Int) (n m : Int) (w : World) (ht : Tz w) (hl : l.length = 16) (hf : FitB l) (hn : -9223372036854775808 ≤ n ∧ n ≤ 9223372036854775807) (hq : q.length = 4) (fq : FitB q) (hm : -9223372036854775808 ≤ m ∧ m ≤ 9223372036854775807) (ha : a.length = 4) (fa : FitB a) :
    Calls Tryd.prog 8 #[P6 l n, P4L q m, A4L a] w fun e w' => PutPost (.bool true) w e w' := by
  generalize hQ : (fun e w' => PutPost (.bool true) w e w') = Q
  have HQ : Hid _ := hQ
  clear hQ
  obtain ⟨hb0, hb1, hb2, hBw, hz⟩ := boxes3 w (cp6 l n) (cp4 q m) (b8 a) 25 42 27
  generalize hW : ((w.alloc (.cells (cp6 l n).toArray 25)).alloc (.cells (cp4 q m).toArray 42)).alloc (.cells (b8 a).toArray 27) = W2 at *
  have HW2 : Hid _ := awake_any W2 (ht.on hBw)
  have HPU : Hid _ := fun W => Put_any l n a W hf hl hn ha fa
  have HRG : Hid _ := fun W => Range_any l n q m W hf hl hn hq fq hm
  have HZ : Hid _ := hz
  clear hz
  go_enter Tryd.func8, Tryd.ntmps8
  go_wp2_with fail
  refine Calls.mono HW2.out ?_
  rintro e w3 ⟨rfl, hB3⟩
  have hz := HZ.out
  have k0 := (hB3.block w.heap.size (by omega)).trans hb0
  have k1 := (hB3.block (w.heap.size + 1) (by omega)).trans hb1
  have k2 := (hB3.block (w.heap.size + 2) (by omega)).trans hb2
  have hBw3 := hBw.trans (hB3.mono (by omega))
  have hz3 : w.heap.size + 3 ≤ w3.heap.size := by have := hB3.size; omega
  have HLP : Hid _ := loadP6 hl (CellsAt.pfx hl k0).1
  have HLA : Hid _ := agg_load (t := 27) Tryd.isAgg27 Tryd.sizeOf27 (by rw [b8_length, ha]) (CellsAt.of_blk k2)
  clear hW HW2 hb0 hb1 hb2 hBw hB3 hz HZ
  go_wp2_with first
    | ((with_reducible show wpList _ _ _ _ _ _); refine armL (.tmp 3) 25 rfl rfl rfl HLP.out ?_)
    | ((with_reducible show wpList _ _ _ _ _ _); refine armL (.tmp 5) 27 rfl rfl rfl HLA.out ?_)
  refine (HPU.out w3).mono ?_
  rintro e w4 ⟨rfl, hB4⟩
  unfold putE AE6
  have hAl : (if chkE l n = 0 then putL l n a else zeroA6).length = 16 := by
    split
    · unfold putL; rw [putK_length, hl]
    · rfl
  obtain ⟨xx, hxx⟩ : ∃ xx, xx = if chkE l n = 0 then putL l n a else zeroA6 := ⟨_, rfl⟩
  obtain ⟨ce, hce⟩ : ∃ ce, ce = chkE l n := ⟨_, rfl⟩
  rw [← hxx] at hAl
  rw [← hxx, ← hce]
  have HXX : Hid _ := hxx
  have HCE : Hid _ := hce
  clear hxx hce
  obtain ⟨w5, hst5, b5, hB5⟩ := box_new Tryd.sizeOf23 w4 zero16V rfl (u8s xx) (by rw [u8s_length, hAl]) (u8s_one _)
  have HS5 : Hid _ := hst5
  have hB35 := hB4.trans (hB5.mono hB4.size)
  have m0 := (hB35.block w.heap.size (by omega)).trans k0
  have m1 := (hB35.block (w.heap.size + 1) (by omega)).trans k1
  have m2 := (hB35.block (w.heap.size + 2) (by omega)).trans k2
  have hBw5 := hBw3.trans (hB35.mono (by omega))
  have hz5 : w.heap.size + 3 ≤ w5.heap.size := by have := hB35.size; omega
  have hlt5 : w4.heap.size < w5.heap.size := (Array.getElem?_eq_some_iff.1 b5).1
  have HLP5 : Hid _ := loadP6 hl (CellsAt.pfx hl m0).1
  have HLQ5 : Hid _ := agg_load (t := 42) Tryd.isAgg42 Tryd.sizeOf42 (vs := cp4 q m) (cp4_length q m hq) (CellsAt.of_blk m1)
  clear hst5 k0 k1 k2 hBw3 hB4 hB5 hB35 HLP HLA HPU
  go_wp2_with first
    | ((with_reducible show wpList _ _ _ _ _ _); refine armS (.tmp 7) (.tmp 23) 23 rfl rfl rfl rfl HS5.out ?_)
    | ((with_reducible show wpList _ _ _ _ _ _); refine armL (.tmp 3) 25 rfl rfl rfl HLP5.out ?_)
    | ((with_reducible show wpList _ _ _ _ _ _); refine armL (.tmp 4) 42 rfl rfl rfl HLQ5.out ?_)
  refine (HRG.out w5).mono ?_
  rintro e w6 ⟨rfl, hB6⟩
  unfold rngE PE6
  have hRl : (if rngErr l n q m = 0 then putL l n q else zeroA6).length = 16 := by
    split
    · unfold putL; rw [putK_length, hl]
    · rfl
  obtain ⟨yy, hyy⟩ : ∃ yy, yy = if rngErr l n q m = 0 then putL l n q else zeroA6 := ⟨_, rfl⟩
  obtain ⟨rr, hrr⟩ : ∃ rr, rr = if rngErr l n q m = 0 then rngN n m else 0 := ⟨_, rfl⟩
  obtain ⟨re, hre⟩ : ∃ re, re = rngErr l n q m := ⟨_, rfl⟩
  rw [← hyy] at hRl
  rw [← hyy, ← hrr, ← hre]
  have HYY : Hid _ := hyy
  have HRR : Hid _ := hrr
  have HRE : Hid _ := hre
  clear hyy hrr hre
  obtain ⟨w7, hst7, b7, hB7⟩ := box_new Tryd.sizeOf25 w6 zero17V rfl (cp6 yy rr) (cp6_length _ _ hRl) (cp6_one _ _)
  have HS7 : Hid _ := hst7
  have hB57 := hB6.trans (hB7.mono hB6.size)
  have n0 := (hB57.block w.heap.size (by omega)).trans m0
  have n1 := (hB57.block (w.heap.size + 1) (by omega)).trans m1
  have n2 := (hB57.block (w.heap.size + 2) (by omega)).trans m2
  have n5 := (hB57.block w4.heap.size hlt5).trans b5
  have hBw7 := hBw5.trans (hB57.mono (by omega))
  have hz7 : w.heap.size + 3 ≤ w7.heap.size := by have := hB57.size; omega
  have hlt7 : w6.heap.size < w7.heap.size := (Array.getElem?_eq_some_iff.1 b7).1
  have hlt57 : w4.heap.size < w7.heap.size := Nat.lt_of_lt_of_le hlt5 hB57.size
  clear hst7 m0 m1 m2 b5 hBw5 hB6 hB7 hB57 HLP5 HLQ5 HRG HS5
  by_cases h0 : chkE l n = 0
  · cases hok : okP4L q m with
    | true =>
      have hre : rngErr l n q m = 0 := by unfold rngErr; rw [if_neg (by simpa using h0), hok]; rfl
      have e1 : yy = putL l n q := HYY.out.trans (if_pos hre)
      have e2 : rr = rngN n m := HRR.out.trans (if_pos hre)
      have e3 : re = 0 := HRE.out.trans hre
      have e4 : xx = putL l n a := HXX.out.trans (if_pos h0)
      have e5 : ce = 0 := HCE.out.trans h0
      clear HYY HRR HRE HXX HCE
      subst e1 e2 e3 e4 e5
      have hE := emb_any hl hf h0 ha fa
      have hp1 := (chkE_ok h0).1
      have hx16 : (putL l n a).length = 16 := by unfold putL; rw [putK_length, hl]
      have hxf : FitB (putL l n a) := putK_fit hf fa _ _
      have hy16 : (putL l n q).length = 16 := by unfold putL; rw [putK_length, hl]
      have hyf : FitB (putL l n q) := putK_fit hf fq _ _
      obtain ⟨hro, hr1, hr2⟩ := rng_ok hl hf h0 hq fq hok
      have hh1 := fun W => RHas6_calls l n (putL l n a) W hf hl hxf hx16 hn
      rw [hp1, show has6 l n (putL l n a) = true from decide_eq_true hE.inn] at hh1
      have hh2 := fun W => RHas6_calls (putL l n q) (rngN n m) (putL l n a) W hyf hy16 hxf hx16 (by omega)
      rw [hro, there_want hl hf h0 hq fq ha fa hok] at hh2
      have hh3 := fun W => RHas4_L q m a W hq fq ha fa hm
      rw [hok] at hh3
      simp only [if_true, Bool.true_and] at hh1 hh2 hh3
      have HH1 : Hid _ := hh1
      have HH2 : Hid _ := hh2
      have HH3 : Hid _ := hh3
      have HLP7 : Hid _ := loadP6 hl (CellsAt.pfx hl n0).1
      have HLX7 : Hid _ := load6 hx16 (CellsAt.of_blk n5)
      clear hh1 hh2 hh3 hE hro hp1 hre hxf hyf h0 hok hAl hRl
      generalize putL l n a = x at *
      generalize putL l n q = y at *
      generalize rngN n m = rn at *
      generalize has4L q m a = bb at *
      go_wp2_with first
        | ((with_reducible show wpList _ _ _ _ _ _); refine armS (.tmp 9) (.tmp 29) 25 rfl rfl rfl rfl HS7.out ?_)
        | ((with_reducible show wpList _ _ _ _ _ _); refine armL (.tmp 3) 25 rfl rfl rfl HLP7.out ?_)
        | ((with_reducible show wpList _ _ _ _ _ _); refine armL (.tmp 7) 23 rfl rfl rfl HLX7.out ?_)
      refine (HH1.out w7).mono ?_
      rintro e w8 ⟨rfl, hB8⟩
      have HLP8 : Hid _ := loadP6 hy16 (CellsAt.pfx hy16 ((hB8.block _ hlt7).trans b7)).1
      have HLX8 : Hid _ := load6 hx16 (CellsAt.of_blk ((hB8.block _ hlt57).trans n5))
      clear HLP7 HLX7 HH1 HS7
      go_wp2_with first
        | ((with_reducible show wpList _ _ _ _ _ _); refine armL (.tmp 9) 25 rfl rfl rfl HLP8.out ?_)
        | ((with_reducible show wpList _ _ _ _ _ _); refine armL (.tmp 7) 23 rfl rfl rfl HLX8.out ?_)
      refine (HH2.out w8).mono ?_
      rintro e w9 ⟨rfl, hB9⟩
      have hB79 := hB8.trans (hB9.mono hB8.size)
      have HLQ9 : Hid _ := agg_load (t := 42) Tryd.isAgg42 Tryd.sizeOf42 (vs := cp4 q m) (cp4_length q m hq) (CellsAt.of_blk ((hB79.block _ (by omega)).trans n1))
      have HLA9 : Hid _ := agg_load (t := 27) Tryd.isAgg27 Tryd.sizeOf27 (by rw [b8_length, ha]) (CellsAt.of_blk ((hB79.block _ (by omega)).trans n2))
      clear HLP8 HLX8 HH2
      go_wp2_with first
        | ((with_reducible show wpList _ _ _ _ _ _); refine armL (.tmp 4) 42 rfl rfl rfl HLQ9.out ?_)
        | ((with_reducible show wpList _ _ _ _ _ _); refine armL (.tmp 5) 27 rfl rfl rfl HLA9.out ?_)
      refine (HH3.out w9).mono ?_
      rintro e w10 ⟨rfl, hB10⟩
      have hB710 := hB79.trans (hB10.mono hB79.size)
      have HBE : Hid (Below w.heap.size w w10) := hBw7.trans (hB710.mono (by omega))
      clear HLQ9 HLA9 HH3 n0 n1 n2 n5 b7 hB8 hB9 hB10 hB79 hB710
      cases bb
      · go_wp2
        rw [← HQ.out]
        exact ⟨rfl, HBE.out⟩
      · go_wp2
        rw [← HQ.out]
        exact ⟨rfl, HBE.out⟩
    | false =>
      have hre : rngErr l n q m = 22 := by unfold rngErr; rw [if_neg (by simpa using h0), hok]; rfl
      have e3 : re = 22 := HRE.out.trans hre
      have e5 : ce = 0 := HCE.out.trans h0
      clear HYY HRR HRE HXX HCE n5 hre h0
      subst e3 e5
      go_wp2_with ((with_reducible show wpList _ _ _ _ _ _); refine armS (.tmp 9) (.tmp 29) 25 rfl rfl rfl rfl HS7.out ?_)
      rw [← HQ.out]
      exact ⟨rfl, hBw7⟩
  · have hre : rngErr l n q m = chkE l n := by unfold rngErr; rw [if_pos h0]
    have e3 : re = ce := HRE.out.trans (hre.trans HCE.out.symm)
    have q0 : (ce != 0) = true := by rw [HCE.out]; simpa using h0
    clear HYY HRR HRE HXX HCE n5 hre h0 b7
    subst e3
    go_wp2_with ((with_reducible show wpList _ _ _ _ _ _); refine armS (.tmp 9) (.tmp 29) 25 rfl rfl rfl rfl HS7.out ?_)
    rw [← HQ.out]
    exact ⟨rfl, hBw7⟩

set_option maxRecDepth 100000 in
theorem embedWithin_open {H : Type} {enc : TypeId × Value → H} {W : World} {base : Nat} (tb : Tz W) (v0 v1 v2 : Value) {d0 d1 d2 : DataW H} {p0 p1 p2 : List MemPlace}
    (o0 : Value.okWide Tryd.prog W .any base 25 v0) (h0 : DataW.Trod enc Tryd.prog W 0 (fun _ => true) true 25 v0 d0 p0)
    (o1 : Value.okWide Tryd.prog W .any base 42 v1) (h1 : DataW.Trod enc Tryd.prog W 0 (fun _ => true) true 42 v1 d1 p1)
    (o2 : Value.okWide Tryd.prog W .any base 27 v2) (h2 : DataW.Trod enc Tryd.prog W 0 (fun _ => true) true 27 v2 d2 p2) :
    Calls Tryd.prog 8 #[v0, v1, v2] W fun e w' => e = .returned (.bool true) ∧ Below W.heap.size W w' := by
  obtain ⟨l, n, rfl, ll, lf, wn⟩ := open_prefix6 h0
  obtain ⟨q0, q1, q2, q3, m, rfl, f0, f1, f2, f3, wm⟩ := open_prefix4 h1
  obtain ⟨a0, a1, a2, a3, rfl, g0, g1, g2, g3⟩ := open_addr4 h2
  exact within_walk l [q0, q1, q2, q3] [a0, a1, a2, a3] n m W tb ll lf (bounds_i64 wn) rfl (fit4 f0 f1 f2 f3) (bounds_i64 wm) rfl (fit4 g0 g1 g2 g3)

end Go.Proofs.YtfiiopgdgfbkkaaDoor
