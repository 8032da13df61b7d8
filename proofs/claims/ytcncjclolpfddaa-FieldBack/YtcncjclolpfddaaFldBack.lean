/-
  The walk of the statement FieldBack: what is put is what is got, all other bits stay, and letters are read as the bits that they are of.
-/
import Derived.Test.YtcncjclolpfddaaFldBpure
namespace Go.Proofs.Ytcncjclolpfddaa
set_option linter.unusedVariables false
set_option linter.unusedSimpArgs false
open Go Go.RowKit
attribute [local go_sem] Oper.semAt_some

theorem BytesAt.lenOf {n₀ : Nat} {w : World} {r : Value} {zs : List Int} (h : BytesAt n₀ w r zs) : ∃ a cap, r = .slice a zs.length cap := by
  obtain ⟨_, _, a, cap, e, _⟩ := h
  exact ⟨a, cap, e⟩

theorem put_bad {zs : List Int} {at' n : Int} {v : Nat} (h : putOk zs at' n v = false) : putL zs at' n v = [] ∧ (putE zs at' n v = 30 ∨ putE zs at' n v = 1) := by
  refine ⟨by simp [putL, h], ?_⟩
  unfold putOk at h
  unfold putE
  cases h1 : okG zs.length at' n
  · simp
  · rw [h1] at h
    simp at h
    simp [h]

theorem wideB_no {v n : Nat} (h : wideB v n = false) : v < 2 ^ n := by
  unfold wideB at h
  simpa using h
theorem wideB_of {v n : Nat} (h : v < 2 ^ n) : wideB v n = false := by
  unfold wideB
  simpa using h

set_option maxHeartbeats 8000000 in
set_option maxRecDepth 100000 in
theorem fieldBack_walk (a0 : Option Addr) (len0 cap0 : Nat) (z0 : List Int) (a1 : Int) (a2 : Int) (a3 : Int) (a4 : Int) (w : World) (w0 : IsRowB w a0 len0 cap0 z0) (w1 : (Lit.int .i64 a1).wf = true) (w2 : (Lit.int .i64 a2).wf = true) (w3 : (Lit.int .u64 a3).wf = true) (w4 : (Lit.int .i64 a4).wf = true) :
    Calls Try.prog 7 #[.slice a0 len0 cap0, .int .i64 a1, .int .i64 a2, .int .u64 a3, .int .i64 a4] w fun e w' => e = .returned (.bool true) ∧ Below w.heap.size w w' := by
  obtain ⟨p1, p2, p3⟩ := w0.bounds
  have hb := w0.bytes (min len0 200) (by omega) (by omega)
  have hl : (z0.take (min len0 200)).length ≤ 200 := by simp; omega
  have hll : (z0.take (min len0 200)).length = min len0 200 := by
    obtain ⟨_, _, _, _, e, _⟩ := hb
    injection e with _ e2 _
    exact e2.symm
  have b1 := bounds_i64 w1
  have b2 := bounds_i64 w2
  have b3 := bounds_u64 w3
  have b4 := bounds_i64 w4
  obtain ⟨v, rfl⟩ := Int.eq_ofNat_of_zero_le b3.1
  have hv : v < 18446744073709551616 := by omega
  clear w0 w1 w2 w3 w4
  generalize z0.take (min len0 200) = zs at *
  have hcut := fun w => cut_calls a0 len0 cap0 w p1 p2 p3
  rw [← hll] at hcut hb
  have HX : Hid _ := hcut
  clear hcut hll p1 p2 p3
  have hf := hb.fit
  cases hok : putOk zs a1 a2 v
  · have hP := fun W (hW : Below w.heap.size w W) => put_calls _ zs a1 a2 v W (hb.later hW) b1 b2 hv
    obtain ⟨e1, e2⟩ := put_bad hok
    rw [e1] at hP
    have hE : (putE zs a1 a2 v != 0) = true := by rcases e2 with e | e <;> rw [e] <;> decide
    generalize putE zs a1 a2 v = pe at *
    have HP : Hid _ := hP
    clear hP hb
    go_enter Try.func7, Try.ntmps7
    go_wp2_with fail
    refine Calls.mono (HX.out _) ?_
    rintro e w' ⟨rfl, rfl⟩
    go_wp2_with fail
    refine Calls.mono (HP.out _ (Below.refl _ _)) ?_
    rintro e w1 ⟨r1, rfl, hr1, hB1⟩
    obtain ⟨ar, cr, rfl⟩ := hr1.lenOf
    go_wp2_with fail
    refine (alive_calls _).mono ?_
    rintro e w5 ⟨rfl, hB5⟩
    go_wp2
    go_ret
    exact ⟨rfl, hB1.trans (hB5.mono hB1.size)⟩
  · have hok1 : okG zs.length a1 a2 = true := by simp [putOk] at hok; exact hok.1
    have hw : wideB v a2.toNat = false := by simp [putOk] at hok; exact hok.2
    have hg4 := okG_yes hok1
    obtain ⟨p, rfl⟩ := Int.eq_ofNat_of_zero_le hg4.2.1
    obtain ⟨m, rfl⟩ := Int.eq_ofNat_of_zero_le hg4.2.2.1
    rw [Int.toNat_natCast] at hw
    have hvm := wideB_no hw
    have hpm : p + m ≤ 8 * zs.length := by omega
    obtain ⟨ps, hps⟩ : ∃ ps, ps = writeL zs p m v m := ⟨_, rfl⟩
    have hpl : ps.length = zs.length := by rw [hps]; simp
    have e1 : putL zs p m v = ps := by rw [hps]; simp [putL, hok]
    have e2 : putE zs p m v = 0 := by simp [putE, hok1, hw]
    have e3 : getV ps p m = v := by
      simp only [getV, hpl, hok1, if_true, Int.toNat_natCast]
      rw [hps, back_get hf p m v hpm hvm]
    have e4 : getE ps p m = 0 := by simp only [getE, hpl, hok1, if_true]
    have e5 : getV zs p m = accN zs p m := by simp only [getV, hok1, if_true, Int.toNat_natCast]
    have e6 : getE zs p m = 0 := by simp only [getE, hok1, if_true]
    have hacc := accN_lt zs p m
    have hok2 : putOk ps p m (accN zs p m) = true := by
      have := wideB_of hacc
      simp [putOk, hpl, hok1, this]
    have e7 : putL ps p m (accN zs p m) = zs := by
      simp only [putL, hok2, if_true, Int.toNat_natCast]
      rw [hps, back_put hf p m v hpm]
    have e8 : putE ps p m (accN zs p m) = 0 := by
      have := wideB_of hacc
      simp [putE, hpl, hok1, this]
    have hfp : FitB ps := by rw [hps]; exact writeL_fit hf _ _ _ _
    have hoth : ∀ o, ¬ (p ≤ o ∧ o < p + m) → bitN ps o = bitN zs o := fun o ho => by rw [hps]; exact back_other hf p m v o hpm ho
    have haccb : accN zs p m < 18446744073709551616 := by
      have : 2 ^ m ≤ 2 ^ 64 := Nat.pow_le_pow_right (by decide) (by omega)
      omega
    have hP := fun W (hW : Below w.heap.size w W) => put_calls _ zs p m v W (hb.later hW) b1 b2 hv
    rw [e1, e2] at hP
    have hG2 := fun W (hW : Below w.heap.size w W) => get_calls _ zs p m W (hb.later hW) b1 b2
    rw [e5, e6] at hG2
    have hG1 := fun r W (hr : BytesAt W.heap.size W r ps) => get_calls r ps p m W hr b1 b2
    rw [e3, e4] at hG1
    have hP2 := fun r W (hr : BytesAt W.heap.size W r ps) => put_calls r ps p m (accN zs p m) W hr b1 b2 haccb
    rw [e7, e8] at hP2
    have hB1 := fun r W (hr : BytesAt W.heap.size W r ps) o ho => Bit_calls r ps o _ W hr ho
    have hB2 := fun W (hW : Below w.heap.size w W) o ho => Bit_calls _ zs o _ W (hb.later hW) ho
    have hT := fun W (hW : Below w.heap.size w W) => text_calls _ zs 0 ((8 * zs.length : Nat) : Int) W (hb.later hW) (by omega) (by decide) (by omega)
    have t1 : textV zs 0 ((8 * zs.length : Nat) : Int) = strOfNums (textOf zs 0 (8 * zs.length)) := by
      have : thereB zs.length 0 ((8 * zs.length : Nat) : Int) = true := by simp [thereB]; omega
      simp only [textV, this, if_true, Int.toNat_natCast]
      rfl
    have t2 : textE zs 0 ((8 * zs.length : Nat) : Int) = 0 := by
      have : thereB zs.length 0 ((8 * zs.length : Nat) : Int) = true := by simp [thereB]; omega
      simp only [textE, this, if_true]
    rw [t1, t2] at hT
    have hR := fun W => read_calls (strOfNums (textOf zs 0 (8 * zs.length))) (by rw [text_size]; omega) W
    have hRT := fun bs n i er => @read_text zs hf hl bs n i er
    have hzt := fun W (hW : Below w.heap.size w W) => (hb.later hW).text
    generalize strOfNums (textOf zs 0 (8 * zs.length)) = st at *
    generalize accN zs p m = y at *
    have e9 : ((8 * zs.length : Nat) : Int) = 8 * (zs.length : Int) := by omega
    rw [e9] at hT
    have HP : Hid _ := hP
    have HG2 : Hid _ := hG2
    have HG1 : Hid _ := hG1
    have HP2 : Hid _ := hP2
    have HB1 : Hid _ := hB1
    have HB2 : Hid _ := hB2
    have HT : Hid _ := hT
    have HR : Hid _ := hR
    have HRT : Hid _ := hRT
    have HZ : Hid _ := hzt
    have HOT : Hid _ := hoth
    clear hP hG2 hG1 hP2 hB1 hB2 hT hR hRT hzt hoth e1 e2 e3 e4 e5 e6 e7 e8 t1 t2 hps hok hok1 hok2 hw hb e9 hacc hvm
    go_enter Try.func7, Try.ntmps7
    go_wp2_with fail
    refine Calls.mono (HX.out _) ?_
    rintro e w' ⟨rfl, rfl⟩
    go_wp2_with fail
    refine Calls.mono (HP.out _ (Below.refl _ _)) ?_
    rintro e w1 ⟨r1, rfl, hr1, hB1⟩
    go_wp2_with fail
    refine Calls.mono (HG1.out _ _ hr1) ?_
    rintro e w2 ⟨rfl, rfl⟩
    go_wp2_with fail
    refine Calls.mono (HG2.out _ hB1) ?_
    rintro e w3 ⟨rfl, rfl⟩
    go_wp2_with fail
    refine Calls.mono (HP2.out _ _ hr1) ?_
    rintro e w4 ⟨r4, rfl, hr4, hB4⟩
    have hB14 := hB1.trans (hB4.mono hB1.size)
    have hr1' := hr1.later hB4
    obtain ⟨ar, cr, rfl⟩ := hr1.lenOf
    have x4 := hr4.text
    have x5 := HZ.out _ hB14
    have HPL : Hid _ := hpl
    rw [hpl] at hr1'
    rw [hpl]
    clear hpl
    have e9 : ((8 * zs.length : Nat) : Int) = 8 * (zs.length : Int) := by omega
    have E9 : Hid _ := e9
    clear e9
    generalize hsz : strOfNums zs = sz at x4 x5
    have HSZ : Hid _ := hsz
    clear hsz hr1 hr4 HP HG1 HG2 HP2 hg4 hfp
    by_cases q1 : 0 ≤ a4
    · by_cases q2 : a4 < 8 * (zs.length : Int)
      · by_cases q3 : a4 < (p : Int)
        · skip
          obtain ⟨o, rfl⟩ := Int.eq_ofNat_of_zero_le q1
          have hpo := HOT.out o (by omega)
          have c1 := HB1.out _ _ hr1' o (by rw [HPL.out]; omega)
          have c2 := HB2.out _ hB14 o (by omega)
          rw [hpo] at c1
          generalize bitN zs o = bb at *
          have C1 : Hid _ := c1
          have C2 : Hid _ := c2
          clear c1 c2 hpo hr1'
          go_wp2_with fail
          refine Calls.mono C1.out ?_
          rintro e wx ⟨rfl, rfl⟩
          go_wp2_with fail
          refine Calls.mono C2.out ?_
          rintro e wx ⟨rfl, rfl⟩
          go_wp2_with fail
          refine Calls.mono (HT.out _ hB14) ?_
          rintro e w5 ⟨rfl, hB5⟩
          have hB15 := hB14.trans (hB5.mono hB14.size)
          clear hB5
          go_wp2_with fail
          refine Calls.mono (HR.out _) ?_
          rintro e w6 ⟨r6, bs, n6, i6, e6, rfl, hr6, hB6, his⟩
          obtain ⟨hbs, hn6, rfl, rfl⟩ := HRT.out _ _ _ _ his
          rw [hbs] at hr6
          have hB16 := hB15.trans (hB6.mono hB15.size)
          have x6 := hr6.text
          have x7 := HZ.out _ hB16
          rw [HSZ.out] at x6 x7
          rw [E9.out] at hn6
          subst hn6
          clear hr6 hB6 his hbs x4 x5
          go_wp2_with fail
          refine (alive_calls _).mono ?_
          rintro e w7 ⟨rfl, hB7⟩
          go_wp2
          go_ret
          exact ⟨rfl, hB16.trans (hB7.mono hB16.size)⟩
        · by_cases q4 : (m : Int) ≤ a4 - (p : Int)
          · skip
            obtain ⟨o, rfl⟩ := Int.eq_ofNat_of_zero_le q1
            have hpo := HOT.out o (by omega)
            have c1 := HB1.out _ _ hr1' o (by rw [HPL.out]; omega)
            have c2 := HB2.out _ hB14 o (by omega)
            rw [hpo] at c1
            generalize bitN zs o = bb at *
            have C1 : Hid _ := c1
            have C2 : Hid _ := c2
            clear c1 c2 hpo hr1'
            go_wp2_with fail
            refine Calls.mono C1.out ?_
            rintro e wx ⟨rfl, rfl⟩
            go_wp2_with fail
            refine Calls.mono C2.out ?_
            rintro e wx ⟨rfl, rfl⟩
            go_wp2_with fail
            refine Calls.mono (HT.out _ hB14) ?_
            rintro e w5 ⟨rfl, hB5⟩
            have hB15 := hB14.trans (hB5.mono hB14.size)
            clear hB5
            go_wp2_with fail
            refine Calls.mono (HR.out _) ?_
            rintro e w6 ⟨r6, bs, n6, i6, e6, rfl, hr6, hB6, his⟩
            obtain ⟨hbs, hn6, rfl, rfl⟩ := HRT.out _ _ _ _ his
            rw [hbs] at hr6
            have hB16 := hB15.trans (hB6.mono hB15.size)
            have x6 := hr6.text
            have x7 := HZ.out _ hB16
            rw [HSZ.out] at x6 x7
            rw [E9.out] at hn6
            subst hn6
            clear hr6 hB6 his hbs x4 x5
            go_wp2_with fail
            refine (alive_calls _).mono ?_
            rintro e w7 ⟨rfl, hB7⟩
            go_wp2
            go_ret
            exact ⟨rfl, hB16.trans (hB7.mono hB16.size)⟩
          · clear hr1'
            go_wp2_with fail
            refine Calls.mono (HT.out _ hB14) ?_
            rintro e w5 ⟨rfl, hB5⟩
            have hB15 := hB14.trans (hB5.mono hB14.size)
            clear hB5
            go_wp2_with fail
            refine Calls.mono (HR.out _) ?_
            rintro e w6 ⟨r6, bs, n6, i6, e6, rfl, hr6, hB6, his⟩
            obtain ⟨hbs, hn6, rfl, rfl⟩ := HRT.out _ _ _ _ his
            rw [hbs] at hr6
            have hB16 := hB15.trans (hB6.mono hB15.size)
            have x6 := hr6.text
            have x7 := HZ.out _ hB16
            rw [HSZ.out] at x6 x7
            rw [E9.out] at hn6
            subst hn6
            clear hr6 hB6 his hbs x4 x5
            go_wp2_with fail
            refine (alive_calls _).mono ?_
            rintro e w7 ⟨rfl, hB7⟩
            go_wp2
            go_ret
            exact ⟨rfl, hB16.trans (hB7.mono hB16.size)⟩
      · clear hr1'
        go_wp2_with fail
        refine Calls.mono (HT.out _ hB14) ?_
        rintro e w5 ⟨rfl, hB5⟩
        have hB15 := hB14.trans (hB5.mono hB14.size)
        clear hB5
        go_wp2_with fail
        refine Calls.mono (HR.out _) ?_
        rintro e w6 ⟨r6, bs, n6, i6, e6, rfl, hr6, hB6, his⟩
        obtain ⟨hbs, hn6, rfl, rfl⟩ := HRT.out _ _ _ _ his
        rw [hbs] at hr6
        have hB16 := hB15.trans (hB6.mono hB15.size)
        have x6 := hr6.text
        have x7 := HZ.out _ hB16
        rw [HSZ.out] at x6 x7
        rw [E9.out] at hn6
        subst hn6
        clear hr6 hB6 his hbs x4 x5
        go_wp2_with fail
        refine (alive_calls _).mono ?_
        rintro e w7 ⟨rfl, hB7⟩
        go_wp2
        go_ret
        exact ⟨rfl, hB16.trans (hB7.mono hB16.size)⟩
    · clear hr1'
      go_wp2_with fail
      refine Calls.mono (HT.out _ hB14) ?_
      rintro e w5 ⟨rfl, hB5⟩
      have hB15 := hB14.trans (hB5.mono hB14.size)
      clear hB5
      go_wp2_with fail
      refine Calls.mono (HR.out _) ?_
      rintro e w6 ⟨r6, bs, n6, i6, e6, rfl, hr6, hB6, his⟩
      obtain ⟨hbs, hn6, rfl, rfl⟩ := HRT.out _ _ _ _ his
      rw [hbs] at hr6
      have hB16 := hB15.trans (hB6.mono hB15.size)
      have x6 := hr6.text
      have x7 := HZ.out _ hB16
      rw [HSZ.out] at x6 x7
      rw [E9.out] at hn6
      subst hn6
      clear hr6 hB6 his hbs x4 x5
      go_wp2_with fail
      refine (alive_calls _).mono ?_
      rintro e w7 ⟨rfl, hB7⟩
      go_wp2
      go_ret
      exact ⟨rfl, hB16.trans (hB7.mono hB16.size)⟩

end Go.Proofs.Ytcncjclolpfddaa
