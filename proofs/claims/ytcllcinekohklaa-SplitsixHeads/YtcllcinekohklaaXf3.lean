/-
  The statement SplitsixHeads.
-/
import Derived.Test.YtcllcinekohklaaXf2
namespace Go.Proofs.Ytcllcinekohklaa
open Go Go.RowKit
set_option linter.unusedVariables false
set_option linter.unusedSimpArgs false

open Go.ChangeShapes Go.WideShapes Go.ChangeAt
theorem AdOk.r {f : F6} (h : AdOk f) (E : Int) : AdOk (rF E f) := by
  unfold rF
  by_cases e : E = 0
  · rw [if_pos e]; exact h
  · rw [if_neg e]
    exact ⟨List.replicate 32 0, by unfold zF; simp [u8L], fun z hz => by rw [(List.mem_replicate.1 hz).2]; omega⟩
theorem heads_back {f : F6} {hs : Opts} {g : G6} {nb : Nat} {id : Int} (h : atE f hs g nb id = 0) : brE f hs (hdG g id) nb = 0 ∧ brG (hdG g id) = g := by
  obtain ⟨h1, h2, h3⟩ := atE_zero h
  have h4 := (ck_zero h1).1.2.2
  unfold endB at h4
  rw [h2] at h4
  simp at h4
  obtain ⟨⟨⟨⟨i0, i1⟩, i2⟩, _⟩, _⟩ := h4
  have hg : brG (hdG g id) = g := by
    unfold brG hdG
    rw [h2]
    cases g
    simp at *
    exact ⟨by first | exact h2 | exact h2.symm, by first | exact i0 | exact i0.symm⟩
  refine ⟨?_, hg⟩
  unfold brE
  rw [if_neg (by simp [h3]), if_neg (by rw [hdG_more, hdG_off, i1, i2]; simp), hg, if_neg (by simp [h1])]

section
variable (f : F6) (g : G6) (vh vb : Value) (hs : Opts) (body : List Int) (id : Int) (w : World)
set_option maxHeartbeats 4000000 in
set_option maxRecDepth 100000 in
theorem splitsixHeads_walk (hf : AdOk f) (h : D6 (fun b => b < w.heap.size) w f vh vb hs body) :
    Calls Try.prog 4 #[VV f g vh vb, .int .u32 id] w fun e w' => e = .returned (.bool true) ∧ Below w.heap.size w w' := by
  obtain ⟨w0, hw0⟩ : ∃ w0, w0 = w.alloc (BV f g vh vb) := ⟨_, rfl⟩
  have hb0 : w0.heap[w.heap.size]? = some (BV f g vh vb) := by rw [hw0]; exact blk_new w (BV f g vh vb)
  have hB0 : Below w.heap.size w w0 := by rw [hw0]; exact (Below.refl w.heap.size w).alloc (Nat.le_refl _) (BV f g vh vb)
  have hd0 := h.on hB0
  have HB0 : Hid (w0.heap[w.heap.size]? = some (BV f g vh vb)) := hb0
  have HBB : Hid (Below w.heap.size w w0) := hB0
  have HD0 : Hid (D6 (fun b => b < w.heap.size) w0 f vh vb hs body) := hd0
  have HAD : Hid (AdOk f) := hf
  have HL0 : Hid _ := vb_load hb0
  have HC1 : Hid (Calls Try.prog 16 #[VV f g vh vb, .int .u32 id] w0 (AnsV w0 (atE f hs g body.length id) f (hdG g id) hs body)) := Atomic_any g id hd0
  have HAT : Hid (∀ X, Below w0.heap.size w0 X → Calls Try.prog 17 #[VV f g vh vb, .int .u32 id] X (AnsV X (atE f hs g body.length id) f (hdG g id) hs body)) := fun X hX => RAtomic_any g id (HD0.out.on hX)
  have HBA : Hid (∀ X, Below w0.heap.size w0 X → Calls Try.prog 18 #[VV f g vh vb] X (AnsV X (brE f hs g body.length) f (brG g) hs body)) := fun X hX => Bare_any g (HD0.out.on hX)
  have HRB : Hid (∀ X, Below w0.heap.size w0 X → Calls Try.prog 19 #[VV f g vh vb] X (AnsV X (brE f hs g body.length) f (brG g) hs body)) := fun X hX => RBare_any g (HD0.out.on hX)
  have HBK : Hid (atE f hs g body.length id = 0 → ∀ (S : Nat → Prop) X vh' vb', D6 S X f vh' vb' hs body → Calls Try.prog 18 #[VV f (hdG g id) vh' vb'] X (AnsV X 0 f g hs body)) := fun hE S X vh' vb' hd => by
    have := Bare_any (hdG g id) hd
    rw [(heads_back hE).1, (heads_back hE).2] at this
    exact this
  have hW := hw0.symm
  clear hb0 hB0 h hw0 hf hd0
  generalize atE f hs g body.length id = E at *
  generalize brE f hs g body.length = E2 at *
  generalize hdG g id = GA at *
  generalize brG g = GB at *
  go_enter Try.func4, Try.ntmps4
  go_wp2_with first
    | ((with_reducible show wpList _ _ _ ({ dst := _, op := Op.load 28 (Operand.tmp 2), type := _, pos := _, after := _, guard := _ } :: _) _ _); refine armL (.tmp 2) 28 rfl rfl rfl HL0.out ?_)
  refine Calls.mono HC1.out ?_
  rintro e w1 ⟨vh1, vb1, rfl, hd1, hb1⟩
  obtain ⟨x1, hst1, hbx1, hBx1, _⟩ := vb_new w1 (rF E f) (rG E GA) (vh := vh1) (vb := vb1) hd1.hd.one hd1.bd.one
  unfold zeroV at hst1
  have HST1 : Hid _ := hst1
  have hUp1 : Below w0.heap.size w0 x1 := hb1.trans (hBx1.mono hb1.size)
  have HU1 : Hid (Below w0.heap.size w0 x1) := hUp1
  have HX1 : Hid (x1.heap[w1.heap.size]? = some (BV (rF E f) (rG E GA) vh1 vb1)) := hbx1
  have HDD1 : Hid (D6 (fun _ => True) x1 (rF E f) vh1 vb1 (rH E hs) (rB E body)) := hd1.on hBx1
  have HLN1 : Hid _ := vb_load (blk_on HB0.out HU1.out)
  clear hst1 hbx1 hBx1 hUp1 hd1 hb1
  go_wp2_with first
    | ((with_reducible show wpList _ _ _ ({ dst := _, op := Op.store 28 (Operand.tmp 5) (Operand.tmp 19), type := _, pos := _, after := _, guard := _ } :: _) _ _); refine armS (.tmp 5) (Operand.tmp 19) 28 rfl rfl rfl rfl HST1.out ?_; simp only [Act.put])
    | ((with_reducible show wpList _ _ _ ({ dst := _, op := Op.load 28 (Operand.tmp 2), type := _, pos := _, after := _, guard := _ } :: _) _ _); refine armL (.tmp 2) 28 rfl rfl rfl HLN1.out ?_)
  refine Calls.mono (HAT.out _ HU1.out) ?_
  rintro e w2 ⟨vh2, vb2, rfl, hd2, hb2⟩
  obtain ⟨x2, hst2, hbx2, hBx2, _⟩ := vb_new w2 (rF E f) (rG E GA) (vh := vh2) (vb := vb2) hd2.hd.one hd2.bd.one
  unfold zeroV at hst2
  have HST2 : Hid _ := hst2
  have hUp2 : Below x1.heap.size x1 x2 := hb2.trans (hBx2.mono hb2.size)
  have HU2 : Hid (Below w0.heap.size w0 x2) := HU1.out.trans (hUp2.mono HU1.out.size)
  have HX2 : Hid (x2.heap[w2.heap.size]? = some (BV (rF E f) (rG E GA) vh2 vb2)) := hbx2
  have HDD2 : Hid (D6 (fun _ => True) x2 (rF E f) vh2 vb2 (rH E hs) (rB E body)) := hd2.on hBx2
  have HX1 : Hid _ := blk_on HX1.out hUp2
  have HDD1 : Hid (D6 (fun _ => True) x2 (rF E f) vh1 vb1 (rH E hs) (rB E body)) := HDD1.out.on hUp2
  have HLN2 : Hid _ := vb_load (blk_on HB0.out HU2.out)
  clear hst2 hbx2 hBx2 hUp2 hd2 hb2
  go_wp2_with first
    | ((with_reducible show wpList _ _ _ ({ dst := _, op := Op.store 28 (Operand.tmp 7) (Operand.tmp 25), type := _, pos := _, after := _, guard := _ } :: _) _ _); refine armS (.tmp 7) (Operand.tmp 25) 28 rfl rfl rfl rfl HST2.out ?_; simp only [Act.put])
    | ((with_reducible show wpList _ _ _ ({ dst := _, op := Op.load 28 (Operand.tmp 2), type := _, pos := _, after := _, guard := _ } :: _) _ _); refine armL (.tmp 2) 28 rfl rfl rfl HLN2.out ?_)
  refine Calls.mono (HBA.out _ HU2.out) ?_
  rintro e w3 ⟨vh3, vb3, rfl, hd3, hb3⟩
  obtain ⟨x3, hst3, hbx3, hBx3, _⟩ := vb_new w3 (rF E2 f) (rG E2 GB) (vh := vh3) (vb := vb3) hd3.hd.one hd3.bd.one
  unfold zeroV at hst3
  have HST3 : Hid _ := hst3
  have hUp3 : Below x2.heap.size x2 x3 := hb3.trans (hBx3.mono hb3.size)
  have HU3 : Hid (Below w0.heap.size w0 x3) := HU2.out.trans (hUp3.mono HU2.out.size)
  have HX3 : Hid (x3.heap[w3.heap.size]? = some (BV (rF E2 f) (rG E2 GB) vh3 vb3)) := hbx3
  have HDD3 : Hid (D6 (fun _ => True) x3 (rF E2 f) vh3 vb3 (rH E2 hs) (rB E2 body)) := hd3.on hBx3
  have HX1 : Hid _ := blk_on HX1.out hUp3
  have HDD1 : Hid (D6 (fun _ => True) x3 (rF E f) vh1 vb1 (rH E hs) (rB E body)) := HDD1.out.on hUp3
  have HX2 : Hid _ := blk_on HX2.out hUp3
  have HDD2 : Hid (D6 (fun _ => True) x3 (rF E f) vh2 vb2 (rH E hs) (rB E body)) := HDD2.out.on hUp3
  have HLN3 : Hid _ := vb_load (blk_on HB0.out HU3.out)
  clear hst3 hbx3 hBx3 hUp3 hd3 hb3
  go_wp2_with first
    | ((with_reducible show wpList _ _ _ ({ dst := _, op := Op.store 28 (Operand.tmp 9) (Operand.tmp 30), type := _, pos := _, after := _, guard := _ } :: _) _ _); refine armS (.tmp 9) (Operand.tmp 30) 28 rfl rfl rfl rfl HST3.out ?_; simp only [Act.put])
    | ((with_reducible show wpList _ _ _ ({ dst := _, op := Op.load 28 (Operand.tmp 2), type := _, pos := _, after := _, guard := _ } :: _) _ _); refine armL (.tmp 2) 28 rfl rfl rfl HLN3.out ?_)
  refine Calls.mono (HRB.out _ HU3.out) ?_
  rintro e w4 ⟨vh4, vb4, rfl, hd4, hb4⟩
  obtain ⟨x4, hst4, hbx4, hBx4, _⟩ := vb_new w4 (rF E2 f) (rG E2 GB) (vh := vh4) (vb := vb4) hd4.hd.one hd4.bd.one
  unfold zeroV at hst4
  have HST4 : Hid _ := hst4
  have hUp4 : Below x3.heap.size x3 x4 := hb4.trans (hBx4.mono hb4.size)
  have HU4 : Hid (Below w0.heap.size w0 x4) := HU3.out.trans (hUp4.mono HU3.out.size)
  have HX4 : Hid (x4.heap[w4.heap.size]? = some (BV (rF E2 f) (rG E2 GB) vh4 vb4)) := hbx4
  have HDD4 : Hid (D6 (fun _ => True) x4 (rF E2 f) vh4 vb4 (rH E2 hs) (rB E2 body)) := hd4.on hBx4
  have HX1 : Hid _ := blk_on HX1.out hUp4
  have HDD1 : Hid (D6 (fun _ => True) x4 (rF E f) vh1 vb1 (rH E hs) (rB E body)) := HDD1.out.on hUp4
  have HX2 : Hid _ := blk_on HX2.out hUp4
  have HDD2 : Hid (D6 (fun _ => True) x4 (rF E f) vh2 vb2 (rH E hs) (rB E body)) := HDD2.out.on hUp4
  have HX3 : Hid _ := blk_on HX3.out hUp4
  have HDD3 : Hid (D6 (fun _ => True) x4 (rF E2 f) vh3 vb3 (rH E2 hs) (rB E2 body)) := HDD3.out.on hUp4
  have HLN4 : Hid _ := vb_load (blk_on HB0.out HU4.out)
  clear hst4 hbx4 hBx4 hUp4 hd4 hb4
  have HLA : Hid _ := vb_load HX1.out
  have HLB : Hid _ := vb_load HX2.out
  have HSM : Hid _ := RSame_eq (g := rG E GA) (HAD.out.r E) HDD1.out HDD2.out
  go_wp2_with first
    | ((with_reducible show wpList _ _ _ ({ dst := _, op := Op.store 28 (Operand.tmp 11) (Operand.tmp 35), type := _, pos := _, after := _, guard := _ } :: _) _ _); refine armS (.tmp 11) (Operand.tmp 35) 28 rfl rfl rfl rfl HST4.out ?_; simp only [Act.put])
    | ((with_reducible show wpList _ _ _ ({ dst := _, op := Op.load 28 (Operand.tmp 5), type := _, pos := _, after := _, guard := _ } :: _) _ _); refine armL (.tmp 5) 28 rfl rfl rfl HLA.out ?_)
    | ((with_reducible show wpList _ _ _ ({ dst := _, op := Op.load 28 (Operand.tmp 7), type := _, pos := _, after := _, guard := _ } :: _) _ _); refine armL (.tmp 7) 28 rfl rfl rfl HLB.out ?_)
  refine Calls.mono HSM.out ?_
  rintro e w5 ⟨rfl, hb5⟩
  have HLC : Hid _ := vb_load (blk_on HX3.out hb5)
  have HLD : Hid _ := vb_load (blk_on HX4.out hb5)
  have HSN : Hid _ := RSame_eq (g := rG E2 GB) (HAD.out.r E2) (HDD3.out.on hb5) (HDD4.out.on hb5)
  have HU5 : Hid (Below w0.heap.size w0 w5) := HU4.out.trans (hb5.mono HU4.out.size)
  have HX5 : Hid (w5.heap[w1.heap.size]? = some (BV (rF E f) (rG E GA) vh1 vb1)) := blk_on HX1.out hb5
  have HD5 : Hid (D6 (fun _ => True) w5 (rF E f) vh1 vb1 (rH E hs) (rB E body)) := HDD1.out.on hb5
  clear hb5 HSM HLA HLB HX1 HX2 HX3 HX4 HDD1 HDD2 HDD3 HDD4 HST1 HST2 HST3 HST4 HLN1 HLN2 HLN3 HLN4
  go_wp2_with first
    | ((with_reducible show wpList _ _ _ ({ dst := _, op := Op.load 28 (Operand.tmp 9), type := _, pos := _, after := _, guard := _ } :: _) _ _); refine arm_load rfl (.tmp 9) 28 rfl rfl HLC.out ?_)
    | ((with_reducible show wpList _ _ _ ({ dst := _, op := Op.load 28 (Operand.tmp 11), type := _, pos := _, after := _, guard := _ } :: _) _ _); refine arm_load rfl (.tmp 11) 28 rfl rfl HLD.out ?_)
  refine Calls.mono HSN.out ?_
  rintro e w6 ⟨rfl, hb6⟩
  have HU6 : Hid (Below w0.heap.size w0 w6) := HU5.out.trans (hb6.mono HU5.out.size)
  have HX6 : Hid (w6.heap[w1.heap.size]? = some (BV (rF E f) (rG E GA) vh1 vb1)) := blk_on HX5.out hb6
  have HD6 : Hid (D6 (fun _ => True) w6 (rF E f) vh1 vb1 (rH E hs) (rB E body)) := HD5.out.on hb6
  clear hb6 HSN HLC HLD HX5 HD5
  go_wp2_with fail
  refine Calls.mono (awake_calls _) ?_
  rintro e w7 ⟨rfl, hb7⟩
  have HU7 : Hid (Below w0.heap.size w0 w7) := HU6.out.trans (hb7.mono HU6.out.size)
  have HBE : Hid (Below w.heap.size w w7) := HBB.out.trans (HU7.out.mono HBB.out.size)
  have HX7 : Hid (w7.heap[w1.heap.size]? = some (BV (rF E f) (rG E GA) vh1 vb1)) := blk_on HX6.out hb7
  have HD7 : Hid (D6 (fun _ => True) w7 (rF E f) vh1 vb1 (rH E hs) (rB E body)) := HD6.out.on hb7
  clear hb7 HX6 HD6
  by_cases hE : E = 0
  · subst hE
    have e1 : rF 0 f = f := by unfold rF; rw [if_pos rfl]
    have e2 : rG 0 GA = GA := by unfold rG; rw [if_pos rfl]
    have e3 : rH 0 hs = hs := by unfold rH; rw [if_pos rfl]
    have e4 : rB 0 body = body := by unfold rB; rw [if_pos rfl]
    rw [e1, e2] at HX7
    rw [e1, e3, e4] at HD7
    clear e1 e2 e3 e4
    have HL7 : Hid _ := vb_load HX7.out
    have HBR : Hid (Calls Try.prog 18 #[VV f GA vh1 vb1] w7 (AnsV w7 0 f g hs body)) := HBK.out rfl _ _ _ _ HD7.out
    go_wp2_with first
      | ((with_reducible show wpList _ _ _ ({ dst := _, op := Op.load 28 (Operand.tmp 5), type := _, pos := _, after := _, guard := _ } :: _) _ _); refine armL (.tmp 5) 28 rfl rfl rfl HL7.out ?_)
    refine Calls.mono HBR.out ?_
    rintro e w8 ⟨vh8, vb8, rfl, hd8, hb8⟩
    have e1 : rF 0 f = f := by unfold rF; rw [if_pos rfl]
    have e2 : rG 0 g = g := by unfold rG; rw [if_pos rfl]
    have e3 : rH 0 hs = hs := by unfold rH; rw [if_pos rfl]
    have e4 : rB 0 body = body := by unfold rB; rw [if_pos rfl]
    rw [e1, e3, e4] at hd8
    rw [e1, e2]
    clear e1 e2 e3 e4
    obtain ⟨w9, hst9, hbx9, hB9, _⟩ := vb_new w8 f g (vh := vh8) (vb := vb8) hd8.hd.one hd8.bd.one
    unfold zeroV at hst9
    have hU : Below w7.heap.size w7 w9 := hb8.trans (hB9.mono hb8.size)
    have HU9 : Hid (Below w0.heap.size w0 w9) := HU7.out.trans (hU.mono HU7.out.size)
    have HST9 : Hid _ := hst9
    have HL9 : Hid _ := vb_load hbx9
    have HLV9 : Hid _ := vb_load (blk_on HB0.out HU9.out)
    have HSM : Hid _ := RSame_eq (g := g) HAD.out (hd8.on hB9) (HD0.out.on HU9.out)
    clear hst9 hbx9 hB9 hU hd8 hb8 HBR HL7
    go_wp2_with first
      | ((with_reducible show wpList _ _ _ ({ dst := _, op := Op.store 28 (Operand.tmp 13) (Operand.tmp 66), type := _, pos := _, after := _, guard := _ } :: _) _ _); refine armS (.tmp 13) (Operand.tmp 66) 28 rfl rfl rfl rfl HST9.out ?_; simp only [Act.put])
      | ((with_reducible show wpList _ _ _ ({ dst := _, op := Op.load 28 (Operand.tmp 13), type := _, pos := _, after := _, guard := _ } :: _) _ _); refine arm_load rfl (.tmp 13) 28 rfl rfl HL9.out ?_)
      | ((with_reducible show wpList _ _ _ ({ dst := _, op := Op.load 28 (Operand.tmp 2), type := _, pos := _, after := _, guard := _ } :: _) _ _); refine arm_load rfl (.tmp 2) 28 rfl rfl HLV9.out ?_)
    refine Calls.mono HSM.out ?_
    rintro e w10 ⟨rfl, hb10⟩
    have HBE2 : Hid (Below w.heap.size w w10) := (HBB.out.trans (HU9.out.mono HBB.out.size)).trans (hb10.mono (Nat.le_trans HBB.out.size HU9.out.size))
    clear hb10 HSM HST9 HL9 HLV9
    go_wp2
    go_ret
    exact ⟨rfl, HBE2.out⟩
  · have q : (E != 0) = true := by simpa using hE
    clear hE HBK
    go_wp2
    go_ret
    exact ⟨rfl, HBE.out⟩
end
theorem splitsixHeads_open {H : Type} {enc : TypeId × Value → H} {W : World} {base : Nat} (v0 v1 : Value) {d0 d1 : DataW H} {p0 p1 : List MemPlace}
    (o0 : Value.okWide Try.prog W .any base 28 v0) (h0 : DataW.Trod enc Try.prog W 0 (fun _ => true) true 28 v0 d0 p0) (z0 : ∀ k ∈ d0.weights Try.prog 28, k ≤ reachBytes)
    (o1 : Value.okWide Try.prog W .any base 22 v1) (h1 : DataW.Trod enc Try.prog W 0 (fun _ => true) true 22 v1 d1 p1) (z1 : ∀ k ∈ d1.weights Try.prog 22, k ≤ reachBytes) :
    Calls Try.prog 4 #[v0, v1] W fun e w' => e = .returned (.bool true) ∧ Below W.heap.size W w' := by
  obtain ⟨f, g, vh, vb, hs, body, rfl, hd, _, _, ha, _⟩ := open_v6 h0 z0
  obtain ⟨i, rfl, _, _, wi⟩ := open_int Try.underlying22 o1 h1
  exact splitsixHeads_walk f g vh vb hs body i W ha hd

end Go.Proofs.Ytcllcinekohklaa
