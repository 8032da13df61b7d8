/-
  The document's Fits; its Same of two rows.
-/
import Derived.Test.YtcllcinekohklaaXg1
import Derived.Test.YtcllcinekohklaaXf2
namespace Go.Proofs.Ytcllcinekohklaa
open Go Go.RowKit
set_option linter.unusedVariables false
set_option linter.unusedSimpArgs false

section
variable {c : List Value} {cls lab hop : Int} {vh : Value} {fr : Bool} {id off : Int} {more : Bool} {proto : Int} {vb : Value}
set_option maxHeartbeats 1000000 in
set_option maxRecDepth 100000 in
theorem R14heads_calls (w : World) (h : L6 c cls lab hop vh fr id off more proto vb) (hs : Opts) (hh : OptsAt w.heap.size w vh hs) (hb : ∀ k, k ≤ hs.length → oTot hs k ≤ 100000) :
    Calls Try.prog 26 #[.agg c.toArray] w fun e w' => e = .returned (.int .i64 (48 + (oTot hs hs.length : Int))) ∧ Below w.heap.size w w' := by
  have hb0 := blk_new w (.cells c.toArray 28)
  have hB0 := (Below.refl w.heap.size w).alloc (Nat.le_refl _) (.cells c.toArray 28)
  have H35 : Hid _ := blk_cell hb0 h.c35
  have H36 : Hid _ := blk_cell hb0 h.c36
  have hlt0 : w.heap.size < (w.alloc (.cells c.toArray 28)).heap.size := by simp
  obtain ⟨hfit, hlen, a, cap, rfl, hz⟩ := hh
  clear hb0 h
  generalize hW : w.alloc (.cells c.toArray 28) = W0 at *
  go_enter Try.func26, Try.ntmps26
  go_wp2
  go_loopw [3, 4] (fun x i wr => ∃ k : Nat, k ≤ hs.length ∧ i = .int .i64 k ∧ x = .int .i64 (48 + (oTot hs k : Int)) ∧ Below W0.heap.size W0 wr) (fun _ i _ => hs.length - (intOf i).toNat)
  case atStart => exact ⟨0, Nat.zero_le _, rfl, by simp [oTot], Below.refl _ _⟩
  case round =>
    obtain ⟨k, hk, rfl, rfl, hB⟩ := hrel
    have k35 := (hB.cell (p := ⟨w.heap.size, 35, none⟩) hlt0).trans H35.out
    by_cases hlt : k < hs.length
    · have hz' := hz
      rcases hz' with hz' | ⟨b, off, rfl, hbn, hc⟩
      · omega
      obtain ⟨c0, s, c1, hs'⟩ := hc k hlt
      obtain ⟨_, hdl, sa, sc, rfl, _⟩ := hs'
      have hBw := hB0.trans (hB.mono hB0.size)
      have x1 := (hBw.cell (p := ⟨b, off + k * 2 + 1, none⟩) hbn).trans c1
      have hT1 : (((oTot hs (k + 1) : Nat) : Int)) = (oTot hs k : Int) + (2 + ((oD hs k).length : Int)) := by simp only [oTot]; omega
      have hbk := hb (k + 1) hlt
      have HT : Hid _ := hT1
      have HA : Hid _ := hB
      have v1 : IntKind.i64.wrap (48 + (oTot hs k : Int) + 2) = 48 + (oTot hs k : Int) + 2 := wrapi64 _ (by omega)
      have v2 : IntKind.i64.wrap (48 + (oTot hs k : Int) + 2 + ((oD hs k).length : Int)) = 48 + (oTot hs k : Int) + 2 + ((oD hs k).length : Int) := wrapi64 _ (by omega)
      generalize hT1e : oTot hs (k + 1) = T1 at *
      have HT1E : Hid _ := hT1e
      clear hT1e hc hz c0 c1 hB hBw hT1 hbk
      generalize oTot hs k = T at *
      generalize (oD hs k).length = D at *
      go_wp2
      exact ⟨⟨k + 1, by omega, by simp, by rw [HT1E.out, HT.out]; simp; omega, HA.out⟩, by simp [intOf]; omega⟩
    · obtain rfl : k = hs.length := by omega
      have k36 := (hB.cell (p := ⟨w.heap.size, 36, none⟩) hlt0).trans H36.out
      have hbk := hb hs.length (Nat.le_refl _)
      have HB : Hid (Below w.heap.size w wr) := hB0.trans (hB.mono hB0.size)
      clear hz hB
      generalize hTe : oTot hs hs.length = T at *
      have HTE : Hid _ := hTe
      clear hTe
      have v2 : IntKind.i64.wrap (48 + (T : Int) + 8) = 48 + (T : Int) + 8 := wrapi64 _ (by omega)
      go_wp2
      go_ret
      exact ⟨by rw [HTE.out]; simp, HB.out⟩
end

theorem isMTU_calls (mtu : Int) (w : World) : Calls Try.prog 33 #[.int .i64 mtu] w fun e w' => e = .returned (.bool (decide (1280 ≤ mtu) && decide (mtu ≤ 65535))) ∧ w' = w := by
  by_cases h1 : 1280 ≤ mtu
  · have q1 : decide (1280 ≤ mtu) = true := by simpa using h1
    rw [q1]
    generalize hq : decide (mtu ≤ 65535) = q at *
    clear h1
    go_enter Try.func33, Try.ntmps33
    go_wp2
    all_goals
      go_ret
      exact ⟨by simp_all, rfl⟩
  · have q1 : decide (1280 ≤ mtu) = false := by simpa using h1
    rw [q1]
    clear h1
    go_enter Try.func33, Try.ntmps33
    go_wp2
    all_goals
      go_ret
      exact ⟨by simp_all, rfl⟩
section
variable {S : Nat → Prop} {w : World} {f : F6} {vh vb : Value} {hs : Opts} {body : List Int}
theorem ahead_true (hs : Opts) : (48 + (oTot hs hs.length : Int)) = (ahead6 hs true : Int) := by unfold ahead6; simp; omega
theorem R14heads_any (g : G6) (h : D6 S w f vh vb hs body) (h0 : ckE f hs g body.length = 0) : Calls Try.prog 26 #[VV f g vh vb] w fun e w' => e = .returned (.int .i64 (ahead6 hs true : Int)) ∧ Below w.heap.size w w' := by
  have := R14heads_calls w (vC_l6 (f := f) (g := g) h.hd.one h.bd.one) hs h.hd.opts (headsB_tot (ck_zero h0).1.2.1)
  rw [ahead_true] at this
  exact this
set_option maxHeartbeats 4000000 in
set_option maxRecDepth 100000 in
theorem RFits_any (g : G6) (mtu : Int) (hmt : -9223372036854775808 ≤ mtu ∧ mtu ≤ 9223372036854775807) (h : D6 S w f vh vb hs body) : Calls Try.prog 13 #[VV f g vh vb, .int .i64 mtu] w fun e w' => e = .returned (.tuple #[.bool (fitA f hs g body.length mtu), .int .i64 (fitE f hs g body.length mtu)]) ∧ Below w.heap.size w w' := by
  obtain ⟨w0, hw0⟩ : ∃ w0, w0 = w.alloc (BV f g vh vb) := ⟨_, rfl⟩
  have hb0 : w0.heap[w.heap.size]? = some (BV f g vh vb) := by rw [hw0]; exact blk_new w (BV f g vh vb)
  have hB0 : Below w.heap.size w w0 := by rw [hw0]; exact (Below.refl w.heap.size w).alloc (Nat.le_refl _) (BV f g vh vb)
  have hd0 := h.on hB0
  have HL0 : Hid _ := vb_load hb0
  have HV0 : Hid (w0.heap[w.heap.size]? = some (BV f g vh vb)) := hb0
  have HB0 : Hid (Below w.heap.size w w0) := hB0
  have HD0 : Hid (D6 S w0 f vh vb hs body) := hd0
  have HC : Hid _ := RCk_any g hd0
  have hW := hw0.symm
  clear hb0 hB0 hw0 hd0
  by_cases h0 : ckE f hs g body.length = 0
  · rw [h0] at HC
    by_cases hm : 1280 ≤ mtu ∧ mtu ≤ 65535
    · have hE : fitE f hs g body.length mtu = 0 := by unfold fitE; rw [if_neg (by simp [h0]), if_pos hm]
      have hA : fitA f hs g body.length mtu = decide ((ahead6 hs g.fr + body.length : Nat) ≤ mtu) := by unfold fitA; rw [if_pos hE]; rfl
      rw [hE, hA]
      have hle := ahead6_le true (ck_zero h0).1.2.1
      have hbl := (ck_zero h0).2
      have hft : ahead6 hs true = ahead6 hs false + 8 := by unfold ahead6; simp
      have hgl : ahead6 hs g.fr + body.length ≤ 65575 := by omega
      have hgr : ∃ n : Nat, ahead6 hs g.fr + body.length = n ∧ (if g.fr then ahead6 hs true + body.length = n else ahead6 hs true + body.length = n + 8) := by
        cases g.fr
        · exact ⟨_, rfl, by simp; omega⟩
        · exact ⟨_, rfl, by simp⟩
      obtain ⟨n, hn, hgn⟩ := hgr
      rw [hn]
      obtain ⟨a3, c3, hvb⟩ : ∃ a c, vb = .slice a body.length c := by obtain ⟨_, _, a, cap, e, _⟩ := h.bd.row; exact ⟨_, _, e⟩
      have q1 : (decide (1280 ≤ mtu) && decide (mtu ≤ 65535)) = true := by simp [hm]
      have HMT : Hid _ := isMTU_calls mtu
      rw [q1] at HMT
      have HH0 : Hid (ckE f hs g body.length = 0) := h0
      obtain ⟨A, hAe⟩ : ∃ A, ahead6 hs true = A := ⟨_, rfl⟩
      rw [hAe] at hgn hle
      obtain ⟨nb, hnb⟩ : ∃ nb, body.length = nb := ⟨_, rfl⟩
      rw [hnb] at hgn hgl hvb
      have HAE : Hid (ahead6 hs true = A) := hAe
      subst hvb
      have HNB : Hid _ := hnb
      have hnl : n ≤ 65575 := by omega
      have hnbl : nb ≤ 65575 := by omega
      have HHS : Hid _ := hn
      clear h h0 hE hA hbl hft hn hAe hnb q1 hgl
      go_enter Try.func13, Try.ntmps13
      go_wp2_with first
        | ((with_reducible show wpList _ _ _ ({ dst := _, op := Op.load 28 (Operand.tmp 2), type := _, pos := _, after := _, guard := _ } :: _) _ _); refine armL (.tmp 2) 28 rfl rfl rfl HL0.out ?_)
      refine Calls.mono HC.out ?_
      rintro e w2 ⟨rfl, hb2⟩
      have HV2 : Hid _ := blk_on HV0.out hb2
      have HB2 : Hid (Below w.heap.size w w2) := HB0.out.trans (hb2.mono HB0.out.size)
      have HD2 : Hid (D6 S w2 f vh (.slice a3 nb c3) hs body) := HD0.out.on hb2
      clear hb2 HC HL0 HV0 HD0 HB0 hW
      go_wp2_with fail
      refine Calls.mono (HMT.out _) ?_
      rintro e w3 ⟨rfl, hw3⟩
      obtain rfl := hw3.symm
      clear hw3
      have HLX : Hid (∀ x : Hi w2, (Instr.loadAt 28 (.pointer (some ⟨w.heap.size, 0, none⟩))).run Try.prog x.W = .ok (VV f g vh (.slice a3 nb c3)) x.W) := fun x => vb_load (blk_on HV2.out x.below)
      have k41 : ∀ x : Hi w2, x.W.cell? ⟨w.heap.size, 41, none⟩ = some (.slice a3 nb c3) := fun x => vb41 (blk_on HV2.out x.below)
      have HHX : Hid (∀ x : Hi w2, Calls Try.prog 26 #[VV f g vh (.slice a3 nb c3)] x.W fun e w' => e = .returned (.int .i64 (A : Int)) ∧ Below x.W.heap.size x.W w') := fun x => by
        have := R14heads_any g (HD2.out.on x.below) HH0.out
        rw [HAE.out] at this
        exact this
      go_wp2_with fail
      refine wp_region_hi (by kernel_rfl) (by kernel_rfl) ?_
      repeat (first | go_big_quiet_skip | (go_big_quiet_want; refine hi_load (.tmp 2) 28 rfl rfl HLX.out ?_; simp only [Act.put, List.setIfInBounds_toArray, List.set_cons_zero, List.set_cons_succ]; go_big_quiet_on) | (go_big_quiet_want; go_big_quiet_op; first | go_big_quiet_on | go_big_quiet_call (first | (go_at_call 26; with_reducible exact Hi.calls (HHX.out _)))))
      refine wpQuiet_nil ?_
      intro _ hw
      obtain ⟨y, rfl⟩ := hw
      have k36 := vb36 (blk_on HV2.out y.below)
      have HBE : Hid (Below w.heap.size w y.W) := HB2.out.trans (y.below.mono HB2.out.size)
      clear HLX k41 HHX HV2 HB2 HD2 HMT
      obtain ⟨fr, hfr⟩ : ∃ fr, g.fr = fr := ⟨_, rfl⟩
      rw [hfr] at hgn k36
      have HFR : Hid _ := hfr
      clear hfr
      generalize y.W = wy at *
      cases fr
      · have hgn' : A + nb = n + 8 := by simpa using hgn
        have e1 : (A : Int) + (nb : Int) - 8 = (n : Int) := by omega
        have HG : Hid _ := hgn'
        have w1 : IntKind.i64.wrap ((A : Int) + (nb : Int)) = (A : Int) + (nb : Int) := wrapi64 _ (by omega)
        have w2 : IntKind.i64.wrap ((A : Int) + (nb : Int) - 8) = (n : Int) := by rw [e1]; exact wrapi64 _ (by omega)
        clear hgn hgn' e1
        go_wp2
        go_ret2
        exact ⟨rfl, HBE.out⟩
      · have hgn' : A + nb = n := by simpa using hgn
        have e1 : (A : Int) + (nb : Int) = (n : Int) := by omega
        have HG : Hid _ := hgn'
        clear hgn hgn'
        go_wp2
        go_ret2
        exact ⟨rfl, HBE.out⟩
    · have hE : fitE f hs g body.length mtu = 131 := by unfold fitE; rw [if_neg (by simp [h0]), if_neg hm]
      have hA : fitA f hs g body.length mtu = false := by unfold fitA; rw [if_neg (by rw [hE]; decide)]
      rw [hE, hA]
      have q1 : (decide (1280 ≤ mtu) && decide (mtu ≤ 65535)) = false := by
        by_cases c1 : 1280 ≤ mtu
        · by_cases c2 : mtu ≤ 65535
          · exact absurd ⟨c1, c2⟩ hm
          · simp [c2]
        · simp [c1]
      have HMT : Hid _ := isMTU_calls mtu
      rw [q1] at HMT
      clear h h0 hE hA q1 hm
      go_enter Try.func13, Try.ntmps13
      go_wp2_with first
        | ((with_reducible show wpList _ _ _ ({ dst := _, op := Op.load 28 (Operand.tmp 2), type := _, pos := _, after := _, guard := _ } :: _) _ _); refine armL (.tmp 2) 28 rfl rfl rfl HL0.out ?_)
      refine Calls.mono HC.out ?_
      rintro e w2 ⟨rfl, hb2⟩
      have HB2 : Hid (Below w.heap.size w w2) := HB0.out.trans (hb2.mono HB0.out.size)
      clear hb2 HC HL0 HV0 HD0 HB0 hW
      go_wp2_with fail
      refine Calls.mono (HMT.out _) ?_
      rintro e w3 ⟨rfl, hw3⟩
      obtain rfl := hw3.symm
      clear hw3
      go_wp2
      go_ret2
      exact ⟨rfl, HB2.out⟩
  · have hE : fitE f hs g body.length mtu = ckE f hs g body.length := by unfold fitE; rw [if_pos h0]
    have hA : fitA f hs g body.length mtu = false := by unfold fitA; rw [if_neg (by rw [hE]; exact h0)]
    rw [hE, hA]
    have q0 : (ckE f hs g body.length != 0) = true := by simpa using h0
    clear h hE hA h0
    generalize ckE f hs g body.length = CE at *
    go_enter Try.func13, Try.ntmps13
    go_wp2_with first
      | ((with_reducible show wpList _ _ _ ({ dst := _, op := Op.load 28 (Operand.tmp 2), type := _, pos := _, after := _, guard := _ } :: _) _ _); refine armL (.tmp 2) 28 rfl rfl rfl HL0.out ?_)
    refine Calls.mono HC.out ?_
    rintro e w2 ⟨rfl, hb2⟩
    have HB2 : Hid (Below w.heap.size w w2) := HB0.out.trans (hb2.mono HB0.out.size)
    clear hb2 HC HL0 HV0 HD0 HB0 hW
    go_wp2
    go_ret2
    exact ⟨rfl, HB2.out⟩
end
set_option maxHeartbeats 1000000 in
set_option maxRecDepth 100000 in
theorem rows_same {f : F6} {hs : Opts} (hf : AdOk f) {base1 base2 : Nat} {S1 S2 : Nat → Prop} {w : World} {v1 v2 : Value} {L : List FG} (h1 : RowV f hs base1 S1 w v1 L) (h2 : RowV f hs base2 S2 w v2 L) (hl : L.length ≤ 100000) :
    Calls Try.prog 14 #[v1, v2] w fun e w' => e = .returned (.bool true) ∧ Below w.heap.size w w' := by
  obtain ⟨x1, c1, e1⟩ := h1.slc
  obtain ⟨x2, c2, e2⟩ := h2.slc
  have HAT : Hid (∀ k, k < L.length → ∃ b1 b2 so sb so' sb' g, x1 = some ⟨b1, 0, none⟩ ∧ x2 = some ⟨b2, 0, none⟩ ∧ ∀ W, Below w.heap.size w W →
      (Instr.loadAt 28 (.pointer (some ⟨b1, k * 42, none⟩))).run Try.prog W = .ok (VV f g so sb) W ∧ (Instr.loadAt 28 (.pointer (some ⟨b2, k * 42, none⟩))).run Try.prog W = .ok (VV f g so' sb') W ∧
      Calls Try.prog 20 #[VV f g so sb, VV f g so' sb'] W fun e w' => e = .returned (.bool true) ∧ Below W.heap.size W w') := fun k hk => by
    obtain ⟨x, hg⟩ : ∃ x, L[k]? = some x := ⟨L[k], by simp⟩
    obtain ⟨b1, d1, so, sb, f1, lt1, _, ca1, hd1⟩ := h1.at hg
    obtain ⟨b2, d2, so', sb', f2, lt2, _, ca2, hd2⟩ := h2.at hg
    rw [e1] at f1
    rw [e2] at f2
    injection f1 with f1 _ _
    injection f2 with f2 _ _
    exact ⟨b1, b2, so, sb, so', sb', x.g, f1, f2, fun W hW => ⟨agg_load Try.isAgg28 Try.sizeOf28 vC_len (CellsAt.up ca1 lt1 ⟨W, hW⟩), agg_load Try.isAgg28 Try.sizeOf28 vC_len (CellsAt.up ca2 lt2 ⟨W, hW⟩), RSame_eq hf (hd1.on hW) (hd2.on hW)⟩⟩
  subst e1 e2
  clear h1 h2
  generalize L.length = N at *
  go_enter Try.func14, Try.ntmps14
  go_wp2_with fail
  go_loopw [5] (fun i wr => ∃ k : Nat, k ≤ N ∧ i = .int .i64 k ∧ Below w.heap.size w wr) (fun i _ => N - (intOf i).toNat)
  case atStart => exact ⟨0, Nat.zero_le _, rfl, Below.refl _ _⟩
  case round =>
    obtain ⟨k, hk, rfl, hB⟩ := hrel
    by_cases hlt : k < N
    · obtain ⟨b1, b2, so, sb, so', sb', g, rfl, rfl, hW⟩ := HAT.out k hlt
      have hup : ∀ x : Hi wr, Below w.heap.size w x.W := fun x => hB.trans (x.below.mono hB.size)
      have HL1 : Hid (∀ x : Hi wr, (Instr.loadAt 28 (.pointer (some ⟨b1, k * 42, none⟩))).run Try.prog x.W = .ok (VV f g so sb) x.W) := fun x => (hW _ (hup x)).1
      have HL2 : Hid (∀ x : Hi wr, (Instr.loadAt 28 (.pointer (some ⟨b2, k * 42, none⟩))).run Try.prog x.W = .ok (VV f g so' sb') x.W) := fun x => (hW _ (hup x)).2.1
      have HSM : Hid (∀ x : Hi wr, Calls Try.prog 20 #[VV f g so sb, VV f g so' sb'] x.W fun e w' => e = .returned (.bool true) ∧ Below x.W.heap.size x.W w') := fun x => (hW _ (hup x)).2.2
      have HUP : Hid _ := hup
      have hNi : (k : Int) < (N : Int) := by omega
      clear hW hup HAT
      go_wp2_with fail
      refine wp_region_hi (by kernel_rfl) (by kernel_rfl) ?_
      repeat (first | go_big_quiet_skip | (go_big_quiet_want; refine hi_load (.tmp 19) 28 rfl rfl HL1.out ?_; simp only [Act.put, List.setIfInBounds_toArray, List.set_cons_zero, List.set_cons_succ]; go_big_quiet_on) | (go_big_quiet_want; refine hi_load (.tmp 23) 28 rfl rfl HL2.out ?_; simp only [Act.put, List.setIfInBounds_toArray, List.set_cons_zero, List.set_cons_succ]; go_big_quiet_on) | (go_big_quiet_want; go_big_quiet_op; first | go_big_quiet_on | go_big_quiet_call (first | (go_at_call 20; with_reducible exact Hi.calls (HSM.out _)))))
      refine wpQuiet_nil ?_
      intro _ hw
      obtain ⟨y, rfl⟩ := hw
      have HBY : Hid _ := HUP.out y
      go_wp2_with fail
      exact ⟨⟨k + 1, by omega, by simp, HBY.out⟩, by simp [intOf]; omega⟩
    · have hNi : ¬ k < N := hlt
      clear HAT
      go_wp2
      go_ret
      exact ⟨rfl, hB⟩

end Go.Proofs.Ytcllcinekohklaa
