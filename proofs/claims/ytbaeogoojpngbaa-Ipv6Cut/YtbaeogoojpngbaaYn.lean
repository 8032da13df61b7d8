/-
  The statement Ipv6Cut.
-/
import Derived.Test.YtbaeogoojpngbaaYn0
namespace Go.Proofs.Ytbaeogoojpngbaa
open Go Go.RowKit
set_option linter.unusedVariables false
set_option linter.unusedSimpArgs false

section
variable {w : World} {f : F6} {g : G6} {vh vb : Value} {hs : Opts} {body : List Int} {A : List Int}
set_option maxHeartbeats 2000000 in
set_option maxRecDepth 100000 in
theorem cut_no (less : Int) (h : D6 (fun b => b < w.heap.size) w f vh vb hs body) (hk : ckE f hs g body.length ≠ 0) :
    Calls Try.prog 7 #[VV f g vh vb, .int .u16 less] w fun e w' => e = .returned (.bool true) ∧ Below w.heap.size w w' := by
  obtain ⟨W0, hW0⟩ : ∃ W0, W0 = w.alloc (BV f g vh vb) := ⟨_, rfl⟩
  have hb0 : W0.heap[w.heap.size]? = some (BV f g vh vb) := by rw [hW0]; exact blk_new w (BV f g vh vb)
  have hB0 : Below w.heap.size w W0 := by rw [hW0]; exact (Below.refl w.heap.size w).alloc (Nat.le_refl _) (BV f g vh vb)
  have hd0 : D6 (fun b => b < W0.heap.size) W0 f vh vb hs body := (h.on hB0).mono (fun b hb _ => hb)
  have HL0 : Hid _ := vb_load hb0
  have HW : Hid _ := Write_no (g := g) hd0 hk
  have q : (ckE f hs g body.length != 0) = true := by simp [hk]
  have HB0 : Hid (Below w.heap.size w W0) := hB0
  have hW := hW0.symm
  clear hk hb0 hd0 h hB0 hW0
  generalize ckE f hs g body.length = kk at *
  go_enter Try.func7, Try.ntmps7
  go_wp2_with ((with_reducible show wpList _ _ _ ({ dst := _, op := Op.load 28 (Operand.tmp 2), type := _, pos := _, after := _, guard := _ } :: _) _ _); refine armL (.tmp 2) 28 rfl rfl rfl HL0.out ?_)
  refine Calls.mono HW.out ?_
  rintro e1 w1 ⟨rfl, hb1⟩
  have HB1 : Hid (Below w.heap.size w w1) := HB0.out.trans (hb1.mono HB0.out.size)
  clear HW HL0 HB0 hW hb1
  go_wp2_with fail
  refine (alive_calls _).mono ?_
  rintro e11 w11 ⟨rfl, hb11⟩
  have HF : Hid (Below w.heap.size w w11) := HB1.out.trans (hb11.mono HB1.out.size)
  clear hb11 HB1
  go_wp2
  go_ret
  exact ⟨rfl, HF.out⟩
set_option maxHeartbeats 4000000 in
set_option maxRecDepth 100000 in
theorem cut_part (m : Nat) (hm : m ≤ body.length) (h : D6 (fun b => b < w.heap.size) w f vh vb hs body) (hk : ckE f hs g body.length = 0) (he : f.ad = u8L A) (hf : Fit A) (hcl : 0 ≤ f.cls ∧ f.cls < 256) (hhp : 0 ≤ f.hop ∧ f.hop < 256) (hpr : 0 ≤ f.proto ∧ f.proto < 256) (hid : 0 ≤ g.id ∧ g.id ≤ 4294967295) :
    Calls Try.prog 7 #[VV f g vh vb, .int .u16 m] w fun e w' => e = .returned (.bool true) ∧ Below w.heap.size w w' := by
  obtain ⟨W0, hW0⟩ : ∃ W0, W0 = w.alloc (BV f g vh vb) := ⟨_, rfl⟩
  have hb0 : W0.heap[w.heap.size]? = some (BV f g vh vb) := by rw [hW0]; exact blk_new w (BV f g vh vb)
  have hB0 : Below w.heap.size w W0 := by rw [hW0]; exact (Below.refl w.heap.size w).alloc (Nat.le_refl _) (BV f g vh vb)
  have hd0 : D6 (fun b => b < W0.heap.size) W0 f vh vb hs body := (h.on hB0).mono (fun b hb _ => hb)
  have HL0 : Hid _ := vb_load hb0
  have HW : Hid _ := Write_yes (g := g) hd0 hk he hf hcl hhp hpr hid
  have hA : A.length = 32 := by have := f.len; rw [he] at this; simpa [u8L] using this
  obtain ⟨hok, hsz⟩ := ck_zero hk
  have hah : 40 ≤ ahead6 hs g.fr := by unfold ahead6; omega
  obtain ⟨N, hN⟩ : ∃ N, ahead6 hs g.fr - 40 + body.length = N := ⟨_, rfl⟩
  have hfit := wrL_fit h hk hA hf hcl hhp hpr hid
  have htk := wrN_take (f := f) (hs := hs) (g := g) (N := N) (body := body) hA m hm
  have hlb := h.lab
  have HPB : Hid (∀ W u, BS (fun b => b < W.heap.size) W u (wrN f A hs g N (body.take (body.length - m))) → Calls Try.prog 17 #[u] W fun e w' => ∃ vh vb, e = .returned (.tuple #[VV f g vh vb, .int .i64 0, .int .i64 0]) ∧ D6 (fun b => W.heap.size ≤ b) w' f vh vb hs (body.take (body.length - m)) ∧ Below W.heap.size W w') := fun W u hu =>
    Part_back hu hok (by omega) (by rw [List.length_take]; omega) he hA hcl hlb.1 hid
  rw [wrL_N, hN] at HW hfit
  obtain ⟨zz, hzz⟩ : ∃ zz, wrN f A hs g N body = zz := ⟨_, rfl⟩
  rw [hzz] at HW hfit htk
  have HTK : Hid _ := htk
  have HFZ : Hid _ := hfit.1
  have HZL : Hid (zz.length = ahead6 hs g.fr + body.length) := hfit.2
  have HZB : Hid (zz.length ≤ 140737488351232) := (show zz.length ≤ 140737488351232 by rw [hfit.2]; omega)
  have hml : m ≤ zz.length := by rw [hfit.2]; omega
  have HML : Hid (m ≤ zz.length) := hml
  have HM : Hid (m ≤ body.length) := hm
  obtain ⟨u2, hu2, hbu2⟩ := sl_front h.bd (body.length - m) (Nat.sub_le _ _)
  have hcast : (((body.length - m : Nat)) : Int) = (body.length : Int) - (m : Int) := by omega
  rw [hcast] at hu2
  have HU2 : Hid _ := hu2
  have HD2 : Hid (D6 (fun b => b < w.heap.size) w f vh u2 hs (body.take (body.length - m))) := ⟨h.hd, hbu2, h.lab⟩
  have HU2S : Hid (∃ x n k, u2 = .slice x n k) := hbu2.slc
  have HAD : Hid (AdOk f) := ⟨A, he, hf⟩
  have HB0 : Hid (Below w.heap.size w W0) := hB0
  have HV0 : Hid (W0.heap[w.heap.size]? = some (BV f g vh vb)) := hb0
  have hW := hW0.symm
  obtain ⟨ab, nb, cb, hvb⟩ := h.bd.slc
  have hnb : body.length = nb := by
    obtain ⟨_, _, a', k', e, _⟩ := h.bd.row
    rw [hvb] at e
    injection e with _ e _
    exact e.symm
  have hbl := h.bd.row.len
  subst hvb
  have q5 : decide ((nb : Int) < (m : Int)) = false := by simp; omega
  have HNB : Hid (body.length = nb) := hnb
  rw [hnb] at hbl hm HM
  try rw [hnb] at HU2
  clear hk hb0 hd0 h hB0 hW0 hok hsz hah hfit htk hlb he hA hf hcl hhp hpr hid hN hzz hu2 hbu2 hcast hnb
  go_enter Try.func7, Try.ntmps7
  go_wp2_with ((with_reducible show wpList _ _ _ ({ dst := _, op := Op.load 28 (Operand.tmp 2), type := _, pos := _, after := _, guard := _ } :: _) _ _); refine armL (.tmp 2) 28 rfl rfl rfl HL0.out ?_)
  refine Calls.mono HW.out ?_
  rintro e1 w1 ⟨v, rfl, hob⟩
  have hbs := (hob.row HFZ.out HZB.out).mono (S' := fun b => b < w1.heap.size) (fun b hb _ => hb)
  have HB1 : Hid (Below w.heap.size w w1) := HB0.out.trans (hob.bel.mono HB0.out.size)
  have hv1 := blk_on HV0.out hob.bel
  have HV1 : Hid _ := hv1
  have c41 := vb41 hv1
  obtain ⟨u1, hu1, hbu1⟩ := sl_front hbs (zz.length - m) (Nat.sub_le _ _)
  have hcast : (((zz.length - m : Nat)) : Int) = (zz.length : Int) - (m : Int) := by omega
  rw [hcast] at hu1
  rw [HTK.out] at hbu1
  have HPC : Hid _ := HPB.out w1 u1 hbu1
  obtain ⟨a7, n7, m7, rfl⟩ := hbs.slc
  have hn7 : n7 = zz.length := by
    obtain ⟨_, _, a', k', e, _⟩ := hbs.row
    injection e
  have hzb := HZB.out
  rw [← hn7] at hu1 hzb hml
  have q9 : decide ((n7 : Int) < (m : Int)) = false := by simp; omega
  have q9' : decide (n7 < m) = false := by simp; omega
  have HU1 : Hid _ := hu1
  clear hbs hob HPB HW HL0 HB0 hW HFZ HZL HZB HML HTK hu1 hbu1 hcast hn7 hv1 HV0
  go_wp2_with ((with_reducible show wpList _ _ _ ({ dst := _, op := Op.slice 26 (Operand.tmp 39) _ _ _, type := _, pos := _, after := _, guard := _ } :: _) _ _); refine arm_slice rfl 26 (.tmp 39) none (some (.tmp 43)) rfl rfl rfl rfl (HU1.out _) ?_)
  refine Calls.mono HPC.out ?_
  rintro e8 w8 ⟨vh8, vb8, rfl, hd8, hb8⟩
  obtain ⟨W9, hW9⟩ : ∃ W9, W9 = w8.alloc (.cells zeroV.toArray 28) := ⟨_, rfl⟩
  obtain ⟨w9, hst9, hv9, hB9, hs9⟩ := vb_new w8 f g hd8.hd.one hd8.bd.one
  rw [← hW9] at hst9
  have HS9 : Hid _ := hst9
  have hb19 := hb8.trans (hB9.mono hb8.size)
  have hx9 := blk_on HV1.out hb19
  have k41 := vb41 hx9
  have hb09 := HB1.out.trans (hb19.mono HB1.out.size)
  have hne : w8.heap.size ≠ w.heap.size := by
    have h1 := (Array.getElem?_eq_some_iff.1 HV1.out).1
    have h2 := hb8.size
    omega
  obtain ⟨w10, hst10, hx10, hon10⟩ : ∃ w10, (Instr.storeAt 26 (.pointer (some ⟨w.heap.size, 41, none⟩)) u2).run Try.prog w9 = .ok () w10 ∧ w10.heap[w.heap.size]? = some (BV f g vh u2) ∧ Only w.heap.size w9 w10 := ⟨_, st_row hx9 (show 41 < _ by rw [vC_len]; omega) HU2S.out, vs41 hx9 _, (Only.refl _ w9).set 41 _⟩
  have HS10 : Hid _ := hst10
  have hv10 : w10.heap[w8.heap.size]? = some (BV f g vh8 vb8) := (hon10.other _ hne).trans hv9
  have HL3 : Hid _ := vb_load hx10
  have HL9 : Hid _ := vb_load hv10
  have hsep := Sep.of_only (O := fun b => b = w.heap.size) hon10 rfl
  have hd10 := ((HD2.out.on hb09).sep hsep (fun b hb e => by omega))
  have hd11 := ((hd8.on hB9).sep hsep (fun b hb e => by
    have h1 := (Array.getElem?_eq_some_iff.1 HV1.out).1
    omega))
  have HSM : Hid _ := RSame_eq (g := g) HAD.out hd10 hd11
  have HB10 : Hid (Below w.heap.size w w10) := hb09.trans (hon10.below (Nat.le_refl _))
  have hW := hW9.symm
  unfold zeroV at hW
  clear hst9 hv9 hB9 hs9 hb19 hb8 hd8 HB1 HPC hx9 hb09 hst10 hx10 hon10 hv10 hsep hd10 hd11 hW9 c41 hne
  go_wp2_with first
    | ((with_reducible show wpList _ _ _ ({ dst := _, op := Op.store 28 (Operand.tmp 8) _, type := _, pos := _, after := _, guard := _ } :: _) _ _); refine armS (.tmp 8) (.tmp 46) 28 rfl rfl rfl rfl HS9.out ?_; try simp only [Act.put])
    | ((with_reducible show wpList _ _ _ ({ dst := _, op := Op.slice 26 (Operand.tmp 50) _ _ _, type := _, pos := _, after := _, guard := _ } :: _) _ _); refine arm_slice rfl 26 (.tmp 50) none (some (.tmp 55)) rfl rfl rfl rfl (HU2.out _) ?_)
    | ((with_reducible show wpList _ _ _ ({ dst := _, op := Op.store 26 (Operand.tmp 57) _, type := _, pos := _, after := _, guard := _ } :: _) _ _); refine armS (.tmp 57) (.tmp 56) 26 rfl rfl rfl rfl HS10.out ?_; try simp only [Act.put])
    | ((with_reducible show wpList _ _ _ ({ dst := _, op := Op.load 28 (Operand.tmp 2), type := _, pos := _, after := _, guard := _ } :: _) _ _); refine armLg (.tmp 2) 28 rfl rfl rfl HL3.out ?_)
    | ((with_reducible show wpList _ _ _ ({ dst := _, op := Op.load 28 (Operand.tmp 8), type := _, pos := _, after := _, guard := _ } :: _) _ _); refine armLg (.tmp 8) 28 rfl rfl rfl HL9.out ?_)
  refine Calls.mono HSM.out ?_
  rintro e10 w11 ⟨rfl, hb11⟩
  have HB11 : Hid (Below w.heap.size w w11) := HB10.out.trans (hb11.mono HB10.out.size)
  clear hb11 HSM HB10 HL3 HL9 HS9 HS10 hW k41
  go_wp2_with fail
  refine (alive_calls _).mono ?_
  rintro e12 w12 ⟨rfl, hb12⟩
  have HF : Hid (Below w.heap.size w w12) := HB11.out.trans (hb12.mono HB11.out.size)
  clear hb12 HB11
  go_wp2
  go_ret
  exact ⟨rfl, HF.out⟩
set_option maxHeartbeats 4000000 in
set_option maxRecDepth 100000 in
theorem cut_all (less : Int) (m : Nat) (hm : m ≤ body.length) (hmb : m = body.length) (hl : (body.length : Int) < less) (hl0 : 0 ≤ less) (hl2 : less < 65536) (h : D6 (fun b => b < w.heap.size) w f vh vb hs body) (hk : ckE f hs g body.length = 0) (he : f.ad = u8L A) (hf : Fit A) (hcl : 0 ≤ f.cls ∧ f.cls < 256) (hhp : 0 ≤ f.hop ∧ f.hop < 256) (hpr : 0 ≤ f.proto ∧ f.proto < 256) (hid : 0 ≤ g.id ∧ g.id ≤ 4294967295) :
    Calls Try.prog 7 #[VV f g vh vb, .int .u16 less] w fun e w' => e = .returned (.bool true) ∧ Below w.heap.size w w' := by
  obtain ⟨W0, hW0⟩ : ∃ W0, W0 = w.alloc (BV f g vh vb) := ⟨_, rfl⟩
  have hb0 : W0.heap[w.heap.size]? = some (BV f g vh vb) := by rw [hW0]; exact blk_new w (BV f g vh vb)
  have hB0 : Below w.heap.size w W0 := by rw [hW0]; exact (Below.refl w.heap.size w).alloc (Nat.le_refl _) (BV f g vh vb)
  have hd0 : D6 (fun b => b < W0.heap.size) W0 f vh vb hs body := (h.on hB0).mono (fun b hb _ => hb)
  have HL0 : Hid _ := vb_load hb0
  have HW : Hid _ := Write_yes (g := g) hd0 hk he hf hcl hhp hpr hid
  have hA : A.length = 32 := by have := f.len; rw [he] at this; simpa [u8L] using this
  obtain ⟨hok, hsz⟩ := ck_zero hk
  have hah : 40 ≤ ahead6 hs g.fr := by unfold ahead6; omega
  obtain ⟨N, hN⟩ : ∃ N, ahead6 hs g.fr - 40 + body.length = N := ⟨_, rfl⟩
  have hfit := wrL_fit h hk hA hf hcl hhp hpr hid
  have htk := wrN_take (f := f) (hs := hs) (g := g) (N := N) (body := body) hA m hm
  have hlb := h.lab
  have HPB : Hid (∀ W u, BS (fun b => b < W.heap.size) W u (wrN f A hs g N (body.take (body.length - m))) → Calls Try.prog 17 #[u] W fun e w' => ∃ vh vb, e = .returned (.tuple #[VV f g vh vb, .int .i64 0, .int .i64 0]) ∧ D6 (fun b => W.heap.size ≤ b) w' f vh vb hs (body.take (body.length - m)) ∧ Below W.heap.size W w') := fun W u hu =>
    Part_back hu hok (by omega) (by rw [List.length_take]; omega) he hA hcl hlb.1 hid
  rw [wrL_N, hN] at HW hfit
  obtain ⟨zz, hzz⟩ : ∃ zz, wrN f A hs g N body = zz := ⟨_, rfl⟩
  rw [hzz] at HW hfit htk
  have HTK : Hid _ := htk
  have HFZ : Hid _ := hfit.1
  have HZL : Hid (zz.length = ahead6 hs g.fr + body.length) := hfit.2
  have HZB : Hid (zz.length ≤ 140737488351232) := (show zz.length ≤ 140737488351232 by rw [hfit.2]; omega)
  have hml : m ≤ zz.length := by rw [hfit.2]; omega
  have HML : Hid (m ≤ zz.length) := hml
  have HM : Hid (m ≤ body.length) := hm
  obtain ⟨u2, hu2, hbu2⟩ := sl_front h.bd (body.length - m) (Nat.sub_le _ _)
  have hcast : (((body.length - m : Nat)) : Int) = 0 := by omega
  rw [hcast] at hu2
  have HU2 : Hid _ := hu2
  have HD2 : Hid (D6 (fun b => b < w.heap.size) w f vh u2 hs (body.take (body.length - m))) := ⟨h.hd, hbu2, h.lab⟩
  have HU2S : Hid (∃ x n k, u2 = .slice x n k) := hbu2.slc
  have HAD : Hid (AdOk f) := ⟨A, he, hf⟩
  have HB0 : Hid (Below w.heap.size w W0) := hB0
  have HV0 : Hid (W0.heap[w.heap.size]? = some (BV f g vh vb)) := hb0
  have hW := hW0.symm
  obtain ⟨ab, nb, cb, hvb⟩ := h.bd.slc
  have hnb : body.length = nb := by
    obtain ⟨_, _, a', k', e, _⟩ := h.bd.row
    rw [hvb] at e
    injection e with _ e _
    exact e.symm
  have hbl := h.bd.row.len
  subst hvb
  have q5 : decide ((nb : Int) < less) = true := by simp; omega
  have HNB : Hid (body.length = nb) := hnb
  have HMB : Hid (m = nb) := hmb.trans hnb
  clear hmb hl
  rw [hnb] at hbl hm HM
  try rw [hnb] at HU2
  clear hk hb0 hd0 h hB0 hW0 hok hsz hah hfit htk hlb he hA hf hcl hhp hpr hid hN hzz hu2 hbu2 hcast hnb
  go_enter Try.func7, Try.ntmps7
  go_wp2_with ((with_reducible show wpList _ _ _ ({ dst := _, op := Op.load 28 (Operand.tmp 2), type := _, pos := _, after := _, guard := _ } :: _) _ _); refine armL (.tmp 2) 28 rfl rfl rfl HL0.out ?_)
  refine Calls.mono HW.out ?_
  rintro e1 w1 ⟨v, rfl, hob⟩
  have hbs := (hob.row HFZ.out HZB.out).mono (S' := fun b => b < w1.heap.size) (fun b hb _ => hb)
  have HB1 : Hid (Below w.heap.size w w1) := HB0.out.trans (hob.bel.mono HB0.out.size)
  have hv1 := blk_on HV0.out hob.bel
  have HV1 : Hid _ := hv1
  have c41 := vb41 hv1
  obtain ⟨u1, hu1, hbu1⟩ := sl_front hbs (zz.length - m) (Nat.sub_le _ _)
  have hmb := HMB.out
  have hcast : (((zz.length - m : Nat)) : Int) = (zz.length : Int) - (nb : Int) := by omega
  rw [hcast] at hu1
  rw [HTK.out] at hbu1
  have HPC : Hid _ := HPB.out w1 u1 hbu1
  obtain ⟨a7, n7, m7, rfl⟩ := hbs.slc
  have hn7 : n7 = zz.length := by
    obtain ⟨_, _, a', k', e, _⟩ := hbs.row
    injection e
  have hzb := HZB.out
  rw [← hn7] at hu1 hzb hml
  have q9 : decide ((n7 : Int) < (nb : Int)) = false := by simp; omega
  have q9' : decide (n7 < nb) = false := by simp; omega
  have HU1 : Hid _ := hu1
  clear hbs hob HPB HW HL0 HB0 hW HFZ HZL HZB HML HTK hu1 hbu1 hcast hn7 hv1 HV0 hmb
  go_wp2_with ((with_reducible show wpList _ _ _ ({ dst := _, op := Op.slice 26 (Operand.tmp 39) _ _ _, type := _, pos := _, after := _, guard := _ } :: _) _ _); refine arm_slice rfl 26 (.tmp 39) none (some (.tmp 43)) rfl rfl rfl rfl (HU1.out _) ?_)
  refine Calls.mono HPC.out ?_
  rintro e8 w8 ⟨vh8, vb8, rfl, hd8, hb8⟩
  obtain ⟨W9, hW9⟩ : ∃ W9, W9 = w8.alloc (.cells zeroV.toArray 28) := ⟨_, rfl⟩
  obtain ⟨w9, hst9, hv9, hB9, hs9⟩ := vb_new w8 f g hd8.hd.one hd8.bd.one
  rw [← hW9] at hst9
  have HS9 : Hid _ := hst9
  have hb19 := hb8.trans (hB9.mono hb8.size)
  have hx9 := blk_on HV1.out hb19
  have k41 := vb41 hx9
  have hb09 := HB1.out.trans (hb19.mono HB1.out.size)
  have hne : w8.heap.size ≠ w.heap.size := by
    have h1 := (Array.getElem?_eq_some_iff.1 HV1.out).1
    have h2 := hb8.size
    omega
  obtain ⟨w10, hst10, hx10, hon10⟩ : ∃ w10, (Instr.storeAt 26 (.pointer (some ⟨w.heap.size, 41, none⟩)) u2).run Try.prog w9 = .ok () w10 ∧ w10.heap[w.heap.size]? = some (BV f g vh u2) ∧ Only w.heap.size w9 w10 := ⟨_, st_row hx9 (show 41 < _ by rw [vC_len]; omega) HU2S.out, vs41 hx9 _, (Only.refl _ w9).set 41 _⟩
  have HS10 : Hid _ := hst10
  have hv10 : w10.heap[w8.heap.size]? = some (BV f g vh8 vb8) := (hon10.other _ hne).trans hv9
  have HL3 : Hid _ := vb_load hx10
  have HL9 : Hid _ := vb_load hv10
  have hsep := Sep.of_only (O := fun b => b = w.heap.size) hon10 rfl
  have hd10 := ((HD2.out.on hb09).sep hsep (fun b hb e => by omega))
  have hd11 := ((hd8.on hB9).sep hsep (fun b hb e => by
    have h1 := (Array.getElem?_eq_some_iff.1 HV1.out).1
    omega))
  have HSM : Hid _ := RSame_eq (g := g) HAD.out hd10 hd11
  have HB10 : Hid (Below w.heap.size w w10) := hb09.trans (hon10.below (Nat.le_refl _))
  have hW := hW9.symm
  unfold zeroV at hW
  clear hst9 hv9 hB9 hs9 hb19 hb8 hd8 HB1 HPC hx9 hb09 hst10 hx10 hon10 hv10 hsep hd10 hd11 hW9 c41 hne
  go_wp2_with first
    | ((with_reducible show wpList _ _ _ ({ dst := _, op := Op.store 28 (Operand.tmp 8) _, type := _, pos := _, after := _, guard := _ } :: _) _ _); refine armS (.tmp 8) (.tmp 46) 28 rfl rfl rfl rfl HS9.out ?_; try simp only [Act.put])
    | ((with_reducible show wpList _ _ _ ({ dst := _, op := Op.slice 26 (Operand.tmp 50) _ _ _, type := _, pos := _, after := _, guard := _ } :: _) _ _); refine arm_slice rfl 26 (.tmp 50) none (some (.tmp 55)) rfl rfl rfl rfl (HU2.out _) ?_)
    | ((with_reducible show wpList _ _ _ ({ dst := _, op := Op.store 26 (Operand.tmp 57) _, type := _, pos := _, after := _, guard := _ } :: _) _ _); refine armS (.tmp 57) (.tmp 56) 26 rfl rfl rfl rfl HS10.out ?_; try simp only [Act.put])
    | ((with_reducible show wpList _ _ _ ({ dst := _, op := Op.load 28 (Operand.tmp 2), type := _, pos := _, after := _, guard := _ } :: _) _ _); refine armLg (.tmp 2) 28 rfl rfl rfl HL3.out ?_)
    | ((with_reducible show wpList _ _ _ ({ dst := _, op := Op.load 28 (Operand.tmp 8), type := _, pos := _, after := _, guard := _ } :: _) _ _); refine armLg (.tmp 8) 28 rfl rfl rfl HL9.out ?_)
  refine Calls.mono HSM.out ?_
  rintro e10 w11 ⟨rfl, hb11⟩
  have HB11 : Hid (Below w.heap.size w w11) := HB10.out.trans (hb11.mono HB10.out.size)
  clear hb11 HSM HB10 HL3 HL9 HS9 HS10 hW k41
  go_wp2_with fail
  refine (alive_calls _).mono ?_
  rintro e12 w12 ⟨rfl, hb12⟩
  have HF : Hid (Below w.heap.size w w12) := HB11.out.trans (hb12.mono HB11.out.size)
  clear hb12 HB11
  go_wp2
  go_ret
  exact ⟨rfl, HF.out⟩
end
theorem ipv6Cut_open {H : Type} {enc : TypeId × Value → H} {W : World} {base : Nat} (v0 v1 : Value) {d0 d1 : DataW H} {p0 p1 : List MemPlace}
    (o0 : Value.okWide Try.prog W .any base 28 v0) (h0 : DataW.Trod enc Try.prog W 0 (fun _ => true) true 28 v0 d0 p0) (z0 : ∀ k ∈ d0.weights Try.prog 28, k ≤ reachBytes)
    (o1 : Value.okWide Try.prog W .any base 48 v1) (h1 : DataW.Trod enc Try.prog W 0 (fun _ => true) true 48 v1 d1 p1) (z1 : ∀ k ∈ d1.weights Try.prog 48, k ≤ reachBytes) :
    Calls Try.prog 7 #[v0, v1] W fun e w' => e = .returned (.bool true) ∧ Below W.heap.size W w' := by
  obtain ⟨f, g, vh, vb, hs, body, rfl, hd, _, hid, ⟨A, he, hf⟩, hcl, hhp, hpr⟩ := open_v6 h0 z0
  obtain ⟨n, rfl, _, _, wn⟩ := Go.ChangeShapes.open_int Try.underlying48 o1 h1
  have hwn := bounds_u16 wn
  by_cases hk : ckE f hs g body.length = 0
  · by_cases hm : n ≤ body.length
    · obtain ⟨m, rfl⟩ : ∃ m : Nat, n = (m : Int) := ⟨n.toNat, by omega⟩
      exact cut_part m (by omega) hd hk he hf (by omega) (by omega) (by omega) hid
    · exact cut_all n body.length (Nat.le_refl _) rfl (by omega) (by omega) (by omega) hd hk he hf (by omega) (by omega) (by omega) hid
  · exact cut_no n hd hk

end Go.Proofs.Ytbaeogoojpngbaa
