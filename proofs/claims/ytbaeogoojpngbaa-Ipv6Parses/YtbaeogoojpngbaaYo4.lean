/-
  The statement Ipv6Back.
-/
import Derived.Test.YtbaeogoojpngbaaYo3
import Derived.Test.YtbaeogoojpngbaaYl
namespace Go.Proofs.Ytbaeogoojpngbaa
open Go Go.RowKit
set_option linter.unusedVariables false
set_option linter.unusedSimpArgs false

section
variable {w : World} {f f' : F6} {g g' : G6} {vh vb vh' vb' : Value} {hs hs' : Opts} {body body' : List Int} {A : List Int}
set_option maxHeartbeats 4000000 in
set_option maxRecDepth 100000 in
theorem ipv6Back_walk (h : D6 (fun b => b < w.heap.size) w f vh vb hs body) (h' : D6 (fun b => b < w.heap.size) w f' vh' vb' hs' body') (he : f.ad = u8L A) (hf : Fit A) (hf' : AdOk f') (hcl : 0 ≤ f.cls ∧ f.cls < 256) (hhp : 0 ≤ f.hop ∧ f.hop < 256) (hpr : 0 ≤ f.proto ∧ f.proto < 256) (hid : 0 ≤ g.id ∧ g.id ≤ 4294967295) :
    Calls Try.prog 5 #[VV f g vh vb, VV f' g' vh' vb'] w fun e w' => e = .returned (.bool true) ∧ Below w.heap.size w w' := by
  obtain ⟨W0, hW0⟩ : ∃ W0, W0 = (w.alloc (BV f g vh vb)).alloc (BV f' g' vh' vb') := ⟨_, rfl⟩
  have hb1 : W0.heap[w.heap.size]? = some (BV f g vh vb) := by rw [hW0]; exact blk_alloc (blk_new w _) _
  have hb2 : W0.heap[w.heap.size + 1]? = some (BV f' g' vh' vb') := by
    have := blk_new (w.alloc (BV f g vh vb)) (BV f' g' vh' vb')
    rw [show (w.alloc (BV f g vh vb)).heap.size = w.heap.size + 1 by simp] at this
    rw [hW0]; exact this
  have hB0 : Below w.heap.size w W0 := by rw [hW0]; exact ((Below.refl w.heap.size w).alloc (Nat.le_refl _) _).alloc (by simp) _
  have hu : ∀ x : Hi W0, Below w.heap.size w x.W := fun x => hB0.trans (x.below.mono hB0.size)
  have hld : ∀ x : Hi W0, (Instr.loadAt 28 (.pointer (some ⟨w.heap.size, 0, none⟩))).run Try.prog x.W = .ok (VV f g vh vb) x.W := fun x => vb_load (Hi.blk hb1 x)
  have hld' : ∀ x : Hi W0, (Instr.loadAt 28 (.pointer (some ⟨w.heap.size + 1, 0, none⟩))).run Try.prog x.W = .ok (VV f' g' vh' vb') x.W := fun x => vb_load (Hi.blk hb2 x)
  have hAO : AdOk f := ⟨A, he, hf⟩
  have hs1 := fun (x : Hi W0) => Same_any (g := g) (g' := g') hAO hf' (h.on (hu x)) (h'.on (hu x))
  have hs2 := fun (x : Hi W0) => RSame_any (g := g) (g' := g') hAO hf' (h.on (hu x)) (h'.on (hu x))
  have hs3 := fun (x : Hi W0) => Same_any (g := g) (g' := g) hAO hAO (h.on (hu x)) (h.on (hu x))
  rw [same6_self] at hs3
  have hd0 : ∀ x : Hi W0, D6 (fun b => b < x.W.heap.size) x.W f vh vb hs body := fun x => (h.on (hu x)).mono (fun b hb _ => hb)
  have hA : A.length = 32 := by have := f.len; rw [he] at this; simpa [u8L] using this
  have HWN : Hid (ckE f hs g body.length ≠ 0 → ∀ x : Hi W0, Calls Try.prog 8 #[VV f g vh vb] x.W fun e w' => e = .returned (.tuple #[.slice none 0 0, .int .i64 (ckE f hs g body.length)]) ∧ Below x.W.heap.size x.W w') := fun hk x => Write_no (g := g) (hd0 x) hk
  have HWY : Hid (ckE f hs g body.length = 0 → ∀ x : Hi W0, Calls Try.prog 8 #[VV f g vh vb] x.W fun e w' => ∃ v', e = .returned (.tuple #[v', .int .i64 0]) ∧ OB x.W.heap.size x.W w' v' (wrL f A hs g body)) := fun hk x => Write_yes (g := g) (hd0 x) hk he hf hcl hhp hpr hid
  obtain ⟨zz, hzz⟩ : ∃ zz, wrL f A hs g body = zz := ⟨_, rfl⟩
  have HFIT : Hid (ckE f hs g body.length = 0 → Fit zz ∧ zz.length ≤ 140737488351232) := fun hk => by
    have := wrL_fit h hk hA hf hcl hhp hpr hid
    have hsz := (ck_zero hk).2
    rw [hzz] at this
    exact ⟨this.1, by rw [this.2]; omega⟩
  have HPB : Hid (ckE f hs g body.length = 0 → ∀ W u, BS (fun b => b < W.heap.size) W u zz → Calls Try.prog 15 #[u] W fun e w' => ∃ vh vb, e = .returned (.tuple #[VV f g vh vb, .int .i64 0, .int .i64 0]) ∧ D6 (fun b => W.heap.size ≤ b) w' f vh vb hs body ∧ Below W.heap.size W w') := fun hk W u hu => by
    rw [← hzz] at hu
    exact Parse_back hu hk he hA hcl h.lab.1 hid
  rw [hzz] at HWY
  have HLD : Hid _ := hld
  have HLD' : Hid _ := hld'
  have HS1 : Hid _ := hs1
  have HS2 : Hid _ := hs2
  have HS3 : Hid _ := hs3
  have HD : Hid (D6 (fun b => b < w.heap.size) w f vh vb hs body) := h
  have HAO : Hid (AdOk f) := hAO
  have HV0 : Hid (W0.heap[w.heap.size]? = some (BV f g vh vb)) := hb1
  have HB0 : Hid (Below w.heap.size w W0) := hB0
  have hW := hW0.symm
  clear hld hld' hs1 hs2 hs3 hd0 hb1 hb2 h h' hB0 he hf hf' hcl hhp hpr hid hW0 hzz hA hu hAO
  generalize same6 f g hs body f' g' hs' body' = s at *
  obtain ⟨kk, hkk⟩ : ∃ kk, ckE f hs g body.length = kk := ⟨_, rfl⟩
  have HKK : Hid _ := hkk
  rw [hkk] at HWN HWY HFIT HPB
  clear hkk
  by_cases hk : kk = 0
  · subst hk
    have HWY2 : Hid _ := HWY.out rfl
    have hft := HFIT.out rfl
    have HFZ : Hid (Fit zz) := hft.1
    have HLZ : Hid (zz.length ≤ 140737488351232) := hft.2
    have HPB2 : Hid _ := HPB.out rfl
    clear HWN HWY HFIT HPB hft
    cases s
    · go_enter Try.func5, Try.ntmps5
      go_wp2_with fail
      refine wp_region_hi (by kernel_rfl) (by kernel_rfl) ?_
      repeat (first
        | go_big_quiet_skip
        | (go_big_quiet_want; refine hi_load (.tmp 2) 28 rfl rfl HLD.out ?_; simp only [Act.put, List.setIfInBounds_toArray, List.set_cons_zero, List.set_cons_succ]; go_big_quiet_on)
        | (go_big_quiet_want; refine hi_load (.tmp 3) 28 rfl rfl HLD'.out ?_; simp only [Act.put, List.setIfInBounds_toArray, List.set_cons_zero, List.set_cons_succ]; go_big_quiet_on)
        | (go_big_quiet_want; go_big_quiet_op; first | go_big_quiet_on | go_big_quiet_call (first | (go_at_call 20; with_reducible exact Hi.calls (HS1.out _)) | (go_at_call 20; with_reducible exact Hi.calls (HS3.out _)) | (go_at_call 19; exact Hi.calls (HS2.out _)))))
      refine wpQuiet_nil ?_
      intro _ hw
      obtain ⟨y, rfl⟩ := hw
      have HLY : Hid _ := HLD.out y
      have HBY : Hid (Below w.heap.size w y.W) := HB0.out.trans (y.below.mono HB0.out.size)
      have HVY : Hid _ := blk_on HV0.out y.below
      have HW : Hid _ := HWY2.out y
      clear HWY2
      clear HLD HLD' HS1 HS2 HS3 HB0 HV0 hW
      go_wp2_with ((with_reducible show wpList _ _ _ ({ dst := _, op := Op.load 28 (Operand.tmp 2), type := _, pos := _, after := _, guard := _ } :: _) _ _); refine armL (.tmp 2) 28 rfl rfl rfl HLY.out ?_)
      refine Calls.mono HW.out ?_
      rintro e7 w7 ⟨u, rfl, hob⟩
      have hbs := (hob.row HFZ.out HLZ.out).mono (S' := fun b => b < w7.heap.size) (fun b hb _ => hb)
      have HB7 : Hid (Below w.heap.size w w7) := HBY.out.trans (hob.bel.mono HBY.out.size)
      have HPB7 : Hid _ := HPB2.out w7 u hbs
      have HV7 : Hid _ := blk_on HVY.out hob.bel
      obtain ⟨a7, n7, m7, rfl⟩ := hbs.slc
      clear hbs hob HPB2 HW HLY HFZ HLZ HBY HVY
      go_wp2_with fail
      refine Calls.mono HPB7.out ?_
      rintro e8 w8 ⟨vh8, vb8, rfl, hd8, hb8⟩
      obtain ⟨W9, hW9⟩ : ∃ W9, W9 = w8.alloc (.cells zeroV.toArray 28) := ⟨_, rfl⟩
      obtain ⟨w9, hst9, hv9, hB9, hs9⟩ := vb_new w8 f g hd8.hd.one hd8.bd.one
      rw [← hW9] at hst9
      have HS9 : Hid _ := hst9
      have hb79 := hb8.trans (hB9.mono hb8.size)
      have HB9 : Hid (Below w.heap.size w w9) := HB7.out.trans (hb79.mono HB7.out.size)
      have HL9 : Hid _ := vb_load hv9
      have HL3 : Hid _ := vb_load (blk_on HV7.out hb79)
      have HSM : Hid _ := RSame_eq (g := g) HAO.out (HD.out.on HB9.out) (hd8.on hB9)
      have hW := hW9.symm
      unfold zeroV at hW
      clear hst9 hv9 hB9 hs9 hb79 hb8 hd8 HB7 HPB7 HV7 hW9 HD
      go_wp2_with first
        | ((with_reducible show wpList _ _ _ ({ dst := _, op := Op.store 28 (Operand.tmp 7) _, type := _, pos := _, after := _, guard := _ } :: _) _ _); refine armS (.tmp 7) (.tmp 39) 28 rfl rfl rfl rfl HS9.out ?_; try simp only [Act.put])
        | ((with_reducible show wpList _ _ _ ({ dst := _, op := Op.load 28 (Operand.tmp 2), type := _, pos := _, after := _, guard := _ } :: _) _ _); refine armLg (.tmp 2) 28 rfl rfl rfl HL3.out ?_)
        | ((with_reducible show wpList _ _ _ ({ dst := _, op := Op.load 28 (Operand.tmp 7), type := _, pos := _, after := _, guard := _ } :: _) _ _); refine armLg (.tmp 7) 28 rfl rfl rfl HL9.out ?_)
      refine Calls.mono HSM.out ?_
      rintro e10 w10 ⟨rfl, hb10⟩
      have HB10 : Hid (Below w.heap.size w w10) := HB9.out.trans (hb10.mono HB9.out.size)
      clear hb10 HSM HB9 HL3 HL9 HS9 hW
      go_wp2_with fail
      refine (alive_calls _).mono ?_
      rintro e11 w11 ⟨rfl, hb11⟩
      have HF : Hid (Below w.heap.size w w11) := HB10.out.trans (hb11.mono HB10.out.size)
      clear hb11 HB10
      go_wp2
      go_ret
      exact ⟨rfl, HF.out⟩
    · go_enter Try.func5, Try.ntmps5
      go_wp2_with fail
      refine wp_region_hi (by kernel_rfl) (by kernel_rfl) ?_
      repeat (first
        | go_big_quiet_skip
        | (go_big_quiet_want; refine hi_load (.tmp 2) 28 rfl rfl HLD.out ?_; simp only [Act.put, List.setIfInBounds_toArray, List.set_cons_zero, List.set_cons_succ]; go_big_quiet_on)
        | (go_big_quiet_want; refine hi_load (.tmp 3) 28 rfl rfl HLD'.out ?_; simp only [Act.put, List.setIfInBounds_toArray, List.set_cons_zero, List.set_cons_succ]; go_big_quiet_on)
        | (go_big_quiet_want; go_big_quiet_op; first | go_big_quiet_on | go_big_quiet_call (first | (go_at_call 20; with_reducible exact Hi.calls (HS1.out _)) | (go_at_call 20; with_reducible exact Hi.calls (HS3.out _)) | (go_at_call 19; exact Hi.calls (HS2.out _)))))
      refine wpQuiet_nil ?_
      intro _ hw
      obtain ⟨y, rfl⟩ := hw
      have HLY : Hid _ := HLD.out y
      have HBY : Hid (Below w.heap.size w y.W) := HB0.out.trans (y.below.mono HB0.out.size)
      have HVY : Hid _ := blk_on HV0.out y.below
      have HW : Hid _ := HWY2.out y
      clear HWY2
      clear HLD HLD' HS1 HS2 HS3 HB0 HV0 hW
      go_wp2_with ((with_reducible show wpList _ _ _ ({ dst := _, op := Op.load 28 (Operand.tmp 2), type := _, pos := _, after := _, guard := _ } :: _) _ _); refine armL (.tmp 2) 28 rfl rfl rfl HLY.out ?_)
      refine Calls.mono HW.out ?_
      rintro e7 w7 ⟨u, rfl, hob⟩
      have hbs := (hob.row HFZ.out HLZ.out).mono (S' := fun b => b < w7.heap.size) (fun b hb _ => hb)
      have HB7 : Hid (Below w.heap.size w w7) := HBY.out.trans (hob.bel.mono HBY.out.size)
      have HPB7 : Hid _ := HPB2.out w7 u hbs
      have HV7 : Hid _ := blk_on HVY.out hob.bel
      obtain ⟨a7, n7, m7, rfl⟩ := hbs.slc
      clear hbs hob HPB2 HW HLY HFZ HLZ HBY HVY
      go_wp2_with fail
      refine Calls.mono HPB7.out ?_
      rintro e8 w8 ⟨vh8, vb8, rfl, hd8, hb8⟩
      obtain ⟨W9, hW9⟩ : ∃ W9, W9 = w8.alloc (.cells zeroV.toArray 28) := ⟨_, rfl⟩
      obtain ⟨w9, hst9, hv9, hB9, hs9⟩ := vb_new w8 f g hd8.hd.one hd8.bd.one
      rw [← hW9] at hst9
      have HS9 : Hid _ := hst9
      have hb79 := hb8.trans (hB9.mono hb8.size)
      have HB9 : Hid (Below w.heap.size w w9) := HB7.out.trans (hb79.mono HB7.out.size)
      have HL9 : Hid _ := vb_load hv9
      have HL3 : Hid _ := vb_load (blk_on HV7.out hb79)
      have HSM : Hid _ := RSame_eq (g := g) HAO.out (HD.out.on HB9.out) (hd8.on hB9)
      have hW := hW9.symm
      unfold zeroV at hW
      clear hst9 hv9 hB9 hs9 hb79 hb8 hd8 HB7 HPB7 HV7 hW9 HD
      go_wp2_with first
        | ((with_reducible show wpList _ _ _ ({ dst := _, op := Op.store 28 (Operand.tmp 7) _, type := _, pos := _, after := _, guard := _ } :: _) _ _); refine armS (.tmp 7) (.tmp 39) 28 rfl rfl rfl rfl HS9.out ?_; try simp only [Act.put])
        | ((with_reducible show wpList _ _ _ ({ dst := _, op := Op.load 28 (Operand.tmp 2), type := _, pos := _, after := _, guard := _ } :: _) _ _); refine armLg (.tmp 2) 28 rfl rfl rfl HL3.out ?_)
        | ((with_reducible show wpList _ _ _ ({ dst := _, op := Op.load 28 (Operand.tmp 7), type := _, pos := _, after := _, guard := _ } :: _) _ _); refine armLg (.tmp 7) 28 rfl rfl rfl HL9.out ?_)
      refine Calls.mono HSM.out ?_
      rintro e10 w10 ⟨rfl, hb10⟩
      have HB10 : Hid (Below w.heap.size w w10) := HB9.out.trans (hb10.mono HB9.out.size)
      clear hb10 HSM HB9 HL3 HL9 HS9 hW
      go_wp2_with fail
      refine (alive_calls _).mono ?_
      rintro e11 w11 ⟨rfl, hb11⟩
      have HF : Hid (Below w.heap.size w w11) := HB10.out.trans (hb11.mono HB10.out.size)
      clear hb11 HB10
      go_wp2
      go_ret
      exact ⟨rfl, HF.out⟩
  · have q : (kk != 0) = true := by simp [hk]
    have HWN2 : Hid _ := HWN.out hk
    clear HWY HFIT HPB HWN hk
    cases s
    · go_enter Try.func5, Try.ntmps5
      go_wp2_with fail
      refine wp_region_hi (by kernel_rfl) (by kernel_rfl) ?_
      repeat (first
        | go_big_quiet_skip
        | (go_big_quiet_want; refine hi_load (.tmp 2) 28 rfl rfl HLD.out ?_; simp only [Act.put, List.setIfInBounds_toArray, List.set_cons_zero, List.set_cons_succ]; go_big_quiet_on)
        | (go_big_quiet_want; refine hi_load (.tmp 3) 28 rfl rfl HLD'.out ?_; simp only [Act.put, List.setIfInBounds_toArray, List.set_cons_zero, List.set_cons_succ]; go_big_quiet_on)
        | (go_big_quiet_want; go_big_quiet_op; first | go_big_quiet_on | go_big_quiet_call (first | (go_at_call 20; with_reducible exact Hi.calls (HS1.out _)) | (go_at_call 20; with_reducible exact Hi.calls (HS3.out _)) | (go_at_call 19; exact Hi.calls (HS2.out _)))))
      refine wpQuiet_nil ?_
      intro _ hw
      obtain ⟨y, rfl⟩ := hw
      have HLY : Hid _ := HLD.out y
      have HBY : Hid (Below w.heap.size w y.W) := HB0.out.trans (y.below.mono HB0.out.size)
      have HVY : Hid _ := blk_on HV0.out y.below
      have HW : Hid _ := HWN2.out y
      clear HWN2
      clear HLD HLD' HS1 HS2 HS3 HB0 HV0 hW
      go_wp2_with ((with_reducible show wpList _ _ _ ({ dst := _, op := Op.load 28 (Operand.tmp 2), type := _, pos := _, after := _, guard := _ } :: _) _ _); refine armL (.tmp 2) 28 rfl rfl rfl HLY.out ?_)
      refine Calls.mono HW.out ?_
      rintro e1 w1 ⟨rfl, hb1⟩
      have HB1 : Hid (Below w.heap.size w w1) := HBY.out.trans (hb1.mono HBY.out.size)
      clear HW HLY HBY hb1
      go_wp2_with fail
      refine (alive_calls _).mono ?_
      rintro e11 w11 ⟨rfl, hb11⟩
      have HF : Hid (Below w.heap.size w w11) := HB1.out.trans (hb11.mono HB1.out.size)
      clear hb11 HB1
      go_wp2
      go_ret
      exact ⟨rfl, HF.out⟩
    · go_enter Try.func5, Try.ntmps5
      go_wp2_with fail
      refine wp_region_hi (by kernel_rfl) (by kernel_rfl) ?_
      repeat (first
        | go_big_quiet_skip
        | (go_big_quiet_want; refine hi_load (.tmp 2) 28 rfl rfl HLD.out ?_; simp only [Act.put, List.setIfInBounds_toArray, List.set_cons_zero, List.set_cons_succ]; go_big_quiet_on)
        | (go_big_quiet_want; refine hi_load (.tmp 3) 28 rfl rfl HLD'.out ?_; simp only [Act.put, List.setIfInBounds_toArray, List.set_cons_zero, List.set_cons_succ]; go_big_quiet_on)
        | (go_big_quiet_want; go_big_quiet_op; first | go_big_quiet_on | go_big_quiet_call (first | (go_at_call 20; with_reducible exact Hi.calls (HS1.out _)) | (go_at_call 20; with_reducible exact Hi.calls (HS3.out _)) | (go_at_call 19; exact Hi.calls (HS2.out _)))))
      refine wpQuiet_nil ?_
      intro _ hw
      obtain ⟨y, rfl⟩ := hw
      have HLY : Hid _ := HLD.out y
      have HBY : Hid (Below w.heap.size w y.W) := HB0.out.trans (y.below.mono HB0.out.size)
      have HVY : Hid _ := blk_on HV0.out y.below
      have HW : Hid _ := HWN2.out y
      clear HWN2
      clear HLD HLD' HS1 HS2 HS3 HB0 HV0 hW
      go_wp2_with ((with_reducible show wpList _ _ _ ({ dst := _, op := Op.load 28 (Operand.tmp 2), type := _, pos := _, after := _, guard := _ } :: _) _ _); refine armL (.tmp 2) 28 rfl rfl rfl HLY.out ?_)
      refine Calls.mono HW.out ?_
      rintro e1 w1 ⟨rfl, hb1⟩
      have HB1 : Hid (Below w.heap.size w w1) := HBY.out.trans (hb1.mono HBY.out.size)
      clear HW HLY HBY hb1
      go_wp2_with fail
      refine (alive_calls _).mono ?_
      rintro e11 w11 ⟨rfl, hb11⟩
      have HF : Hid (Below w.heap.size w w11) := HB1.out.trans (hb11.mono HB1.out.size)
      clear hb11 HB1
      go_wp2
      go_ret
      exact ⟨rfl, HF.out⟩
end
theorem ipv6Back_open {H : Type} {enc : TypeId × Value → H} {W : World} {base : Nat} (v0 v1 : Value) {d0 d1 : DataW H} {p0 p1 : List MemPlace}
    (o0 : Value.okWide Try.prog W .any base 28 v0) (h0 : DataW.Trod enc Try.prog W 0 (fun _ => true) true 28 v0 d0 p0) (z0 : ∀ k ∈ d0.weights Try.prog 28, k ≤ reachBytes)
    (o1 : Value.okWide Try.prog W .any base 28 v1) (h1 : DataW.Trod enc Try.prog W 0 (fun _ => true) true 28 v1 d1 p1) (z1 : ∀ k ∈ d1.weights Try.prog 28, k ≤ reachBytes) :
    Calls Try.prog 5 #[v0, v1] W fun e w' => e = .returned (.bool true) ∧ Below W.heap.size W w' := by
  obtain ⟨f, g, vh, vb, hs, body, rfl, hd, _, hid, ⟨A, he, hf⟩, hcl, hhp, hpr⟩ := open_v6 h0 z0
  obtain ⟨f', g', vh', vb', hs', body', rfl, hd', _, _, hA', _, _, _⟩ := open_v6 h1 z1
  exact ipv6Back_walk hd hd' he hf hA' (by omega) (by omega) (by omega) hid

end Go.Proofs.Ytbaeogoojpngbaa
