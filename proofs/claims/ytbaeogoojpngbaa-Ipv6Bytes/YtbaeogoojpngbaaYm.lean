/-
  The statement Ipv6Bytes.
-/
import Derived.Test.YtbaeogoojpngbaaYl
namespace Go.Proofs.Ytbaeogoojpngbaa
open Go Go.RowKit
set_option linter.unusedVariables false
set_option linter.unusedSimpArgs false

section
variable {w : World} {v : Value} {zs : List Int}
set_option maxHeartbeats 4000000 in
set_option maxRecDepth 100000 in
theorem ipv6Bytes_walk (h : BS (fun b => b < w.heap.size) w v zs) : Calls Try.prog 6 #[v] w fun e w' => e = .returned (.bool true) ∧ Below w.heap.size w w' := by
  have HP : Hid _ := Parse_or h
  obtain ⟨a, n, m, rfl⟩ := h.slc
  have hn : zs.length = n := by
    obtain ⟨_, _, a', k', e, _⟩ := h.row
    injection e with _ e _
    exact e.symm
  have HN : Hid _ := hn
  clear h hn
  go_enter Try.func6, Try.ntmps6
  go_wp2_with fail
  refine Calls.mono HP.out ?_
  rintro e1 w1 (⟨at', er, rfl, q0, q1, hb1⟩ | ⟨f, A, g, vh, vb, hs, body, rfl, hd1, hb1, hck, hln, he, hA, hfA, hcl, hhp, hpr, hid⟩)
  · obtain ⟨W5, hW5⟩ : ∃ W5, W5 = w1.alloc (.cells zeroV.toArray 28) := ⟨_, rfl⟩
    obtain ⟨w6, hst6, hb6, hB6, hs6⟩ := vb_new w1 zF zG (vh := .slice none 0 0) (vb := .slice none 0 0) rfl rfl
    rw [← hW5] at hst6
    have HS6 : Hid _ := hst6
    have HB6 : Hid (Below w.heap.size w w6) := hb1.trans (hB6.mono hb1.size)
    have hW := hW5.symm
    unfold zeroV at hW
    clear hst6 hb6 hB6 hs6 hb1 HP HN hW5 q0
    go_wp2_with ((with_reducible show wpList _ _ _ ({ dst := _, op := Op.store 28 (Operand.tmp 3) _, type := _, pos := _, after := _, guard := _ } :: _) _ _); refine armS (.tmp 3) (.tmp 14) 28 rfl rfl rfl rfl HS6.out ?_; try simp only [Act.put])
    refine (alive_calls _).mono ?_
    rintro e7 w7 ⟨rfl, hb7⟩
    have HF : Hid (Below w.heap.size w w7) := HB6.out.trans (hb7.mono HB6.out.size)
    clear hb7 HB6 HS6 hW q1
    go_wp2
    go_ret
    exact ⟨rfl, HF.out⟩
  · obtain ⟨W5, hW5⟩ : ∃ W5, W5 = w1.alloc (.cells zeroV.toArray 28) := ⟨_, rfl⟩
    obtain ⟨w6, hst6, hb6, hB6, hs6⟩ := vb_new w1 f g hd1.hd.one hd1.bd.one
    rw [← hW5] at hst6
    have HS6 : Hid _ := hst6
    have HB6 : Hid (Below w.heap.size w w6) := hb1.trans (hB6.mono hb1.size)
    have hd6 : D6 (fun b => b < w6.heap.size) w6 f vh vb hs body := (hd1.on hB6).mono (fun b hb _ => hb)
    have HL6 : Hid _ := vb_load hb6
    have HV6 : Hid (w6.heap[w1.heap.size]? = some (BV f g vh vb)) := hb6
    have HD6 : Hid (D6 (fun b => b < w6.heap.size) w6 f vh vb hs body) := hd6
    have HW : Hid _ := Write_yes (g := g) hd6 hck he hfA hcl hhp hpr hid
    have hfit := wrL_fit hd6 hck hA hfA hcl hhp hpr hid
    have HLB : Hid _ := hd6.lab
    have hsz := (ck_zero hck).2
    obtain ⟨zz, hzz⟩ : ∃ zz, wrL f A hs g body = zz := ⟨_, rfl⟩
    have HPB : Hid (∀ W u, BS (fun b => b < W.heap.size) W u zz → Calls Try.prog 15 #[u] W fun e w' => ∃ vh vb, e = .returned (.tuple #[VV f g vh vb, .int .i64 0, .int .i64 0]) ∧ D6 (fun b => W.heap.size ≤ b) w' f vh vb hs body ∧ Below W.heap.size W w') := fun W u hu => by
      rw [← hzz] at hu
      exact Parse_back hu hck he hA hcl hd6.lab.1 hid
    rw [hzz] at hfit HW
    have HFZ : Hid _ := hfit.1
    have HLZ : Hid (zz.length = n) := by rw [hfit.2, hln]; exact HN.out
    have HLZ2 : Hid (zz.length ≤ 140737488351232) := (show zz.length ≤ 140737488351232 by rw [hfit.2]; omega)
    have HAD : Hid (AdOk f) := ⟨A, he, hfA⟩
    have hW := hW5.symm
    unfold zeroV at hW
    clear hst6 hb6 hB6 hs6 hb1 HP HN hW5 hd6 hd1 hfit hck hln he hA hfA hcl hhp hpr hid hsz hzz
    go_wp2_with first
      | ((with_reducible show wpList _ _ _ ({ dst := _, op := Op.store 28 (Operand.tmp 3) _, type := _, pos := _, after := _, guard := _ } :: _) _ _); refine armS (.tmp 3) (.tmp 14) 28 rfl rfl rfl rfl HS6.out ?_; try simp only [Act.put])
      | ((with_reducible show wpList _ _ _ ({ dst := _, op := Op.load 28 (Operand.tmp 3), type := _, pos := _, after := _, guard := _ } :: _) _ _); refine armL (.tmp 3) 28 rfl rfl rfl HL6.out ?_)
    refine Calls.mono HW.out ?_
    rintro e7 w7 ⟨u, rfl, hob⟩
    have hbs := (hob.row HFZ.out HLZ2.out).mono (S' := fun b => b < w7.heap.size) (fun b hb _ => hb)
    have HB7 : Hid (Below w.heap.size w w7) := HB6.out.trans (hob.bel.mono HB6.out.size)
    have HPB7 : Hid _ := HPB.out w7 u hbs
    have HD7 : Hid _ := HD6.out.on hob.bel
    have HV7 : Hid _ := blk_on HV6.out hob.bel
    obtain ⟨a7, n7, m7, rfl⟩ := hbs.slc
    have hn7 : n7 = n := by
      obtain ⟨_, _, a', k', e, _⟩ := hbs.row
      injection e with _ e _
      rw [e]; exact HLZ.out
    clear hbs hob HPB HW HS6 HL6 HV6 HD6 HB6 hW HFZ HLZ HLZ2
    subst hn7
    go_wp2_with fail
    refine Calls.mono HPB7.out ?_
    rintro e8 w8 ⟨vh8, vb8, rfl, hd8, hb8⟩
    obtain ⟨W9, hW9⟩ : ∃ W9, W9 = w8.alloc (.cells zeroV.toArray 28) := ⟨_, rfl⟩
    obtain ⟨w9, hst9, hv9, hB9, hs9⟩ := vb_new w8 f g hd8.hd.one hd8.bd.one
    rw [← hW9] at hst9
    have HS9 : Hid _ := hst9
    have hb79 := hb8.trans (hB9.mono hb8.size)
    have HB9 : Hid (Below w.heap.size w w9) := HB7.out.trans (hb79.mono HB7.out.size)
    have HL9 : Hid _ := vb_load hv9
    have HL3 : Hid _ := vb_load (blk_on HV7.out hb79)
    have HSM : Hid _ := RSame_eq (g := g) HAD.out (HD7.out.on hb79) (hd8.on hB9)
    have hW := hW9.symm
    unfold zeroV at hW
    clear hst9 hv9 hB9 hs9 hb79 hb8 hd8 HB7 HPB7 HD7 HV7 hW9
    go_wp2_with first
      | ((with_reducible show wpList _ _ _ ({ dst := _, op := Op.store 28 (Operand.tmp 8) _, type := _, pos := _, after := _, guard := _ } :: _) _ _); refine armS (.tmp 8) (.tmp 28) 28 rfl rfl rfl rfl HS9.out ?_; try simp only [Act.put])
      | ((with_reducible show wpList _ _ _ ({ dst := _, op := Op.load 28 (Operand.tmp 3), type := _, pos := _, after := _, guard := _ } :: _) _ _); refine armLg (.tmp 3) 28 rfl rfl rfl HL3.out ?_)
      | ((with_reducible show wpList _ _ _ ({ dst := _, op := Op.load 28 (Operand.tmp 8), type := _, pos := _, after := _, guard := _ } :: _) _ _); refine armLg (.tmp 8) 28 rfl rfl rfl HL9.out ?_)
    refine Calls.mono HSM.out ?_
    rintro e10 w10 ⟨rfl, hb10⟩
    have HB10 : Hid (Below w.heap.size w w10) := HB9.out.trans (hb10.mono HB9.out.size)
    clear hb10 HSM HB9 HL3 HL9 HS9 hW
    go_wp2_with fail
    refine (alive_calls _).mono ?_
    rintro e11 w11 ⟨rfl, hb11⟩
    have HF : Hid (Below w.heap.size w w11) := HB10.out.trans (hb11.mono HB10.out.size)
    clear hb11 HB10
    go_wp2
    go_ret
    exact ⟨rfl, HF.out⟩
end
theorem ipv6Bytes_open {H : Type} {enc : TypeId × Value → H} {W : World} {base : Nat} (v0 : Value) {d0 : DataW H} {p0 : List MemPlace}
    (o0 : Value.okWide Try.prog W .any base 26 v0) (h0 : DataW.Trod enc Try.prog W 0 (fun _ => true) true 26 v0 d0 p0) (z0 : ∀ k ∈ d0.weights Try.prog 26, k ≤ reachBytes) :
    Calls Try.prog 6 #[v0] W fun e w' => e = .returned (.bool true) ∧ Below W.heap.size W w' := by
  obtain ⟨zs, hr⟩ := open_row o0 h0 z0
  exact ipv6Bytes_walk (BS.of_row hr)

end Go.Proofs.Ytbaeogoojpngbaa
