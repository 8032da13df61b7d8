/-
  The statement Ipv6Parses.
-/
import Derived.Test.YtbaeogoojpngbaaYp9
namespace Go.Proofs.Ytbaeogoojpngbaa
open Go Go.RowKit
set_option linter.unusedVariables false
set_option linter.unusedSimpArgs false

section
variable {w : World} {v : Value} {zs : List Int}
set_option maxHeartbeats 8000000 in
set_option maxRecDepth 100000 in
theorem ipv6Parses_walk (h : BS (fun b => b < w.heap.size) w v zs) : Calls Try.prog 4 #[v] w fun e w' => e = .returned (.bool true) ∧ Below w.heap.size w w' := by
  obtain ⟨f, g, hs, body, at1, er1, hp⟩ := parse_both h
  obtain ⟨f2, g2, hs2, body2, at2, er2, hq⟩ := part_both h
  have HP : Hid (BothP w v 15 16 f g hs body at1 er1) := hp
  have HQ : Hid (BothP w v 17 18 f2 g2 hs2 body2 at2 er2) := hq
  obtain ⟨a, n, m, rfl⟩ := h.slc
  clear h hp hq
  have HC : Hid _ := HP.out.one (Hi.refl _)
  go_enter Try.func4, Try.ntmps4
  go_wp2_with fail
  refine Calls.mono HC.out ?_
  rintro ea wa ⟨vha, vba, rfl, hda, hba⟩
  obtain ⟨Wa, hWa⟩ : ∃ W, W = wa.alloc (.cells zeroV.toArray 28) := ⟨_, rfl⟩
  obtain ⟨ua, hsta, hva, hBa, hsa⟩ := vb_new wa f g hda.hd.one hda.bd.one
  rw [← hWa] at hsta
  have HSa : Hid _ := hsta
  have hbua := hba.trans (hBa.mono hba.size)
  have HBa : Hid (Below w.heap.size w ua) := hbua
  have HVa : Hid (ua.heap[wa.heap.size]? = some (BV f g vha vba)) := hva
  have HDa : Hid (D6 (fun _ => True) ua f vha vba hs body) := (hda.on hBa).mono (fun _ _ _ => trivial)
  have HC : Hid _ := HP.out.two ⟨ua, HBa.out⟩
  have hWW := hWa.symm
  unfold zeroV at hWW
  clear hsta hva hBa hsa hba hda hbua hWa
  go_wp2_with ((with_reducible show wpList _ _ _ ({ dst := _, op := Op.store 28 (Operand.tmp 3) _, type := _, pos := _, after := _, guard := _ } :: _) _ _); refine armS (.tmp 3) (.tmp 18) 28 rfl rfl rfl rfl HSa.out ?_; try simp only [Act.put])
  clear hWW HSa
  refine Calls.mono HC.out ?_
  rintro eb wb ⟨vhb, vbb, rfl, hdb, hbb⟩
  obtain ⟨Wb, hWb⟩ : ∃ W, W = wb.alloc (.cells zeroV.toArray 28) := ⟨_, rfl⟩
  obtain ⟨ub, hstb, hvb, hBb, hsb⟩ := vb_new wb f g hdb.hd.one hdb.bd.one
  rw [← hWb] at hstb
  have HSb : Hid _ := hstb
  have hbub := hbb.trans (hBb.mono hbb.size)
  have HBb : Hid (Below w.heap.size w ub) := HBa.out.trans (hbub.mono HBa.out.size)
  have HVb : Hid (ub.heap[wb.heap.size]? = some (BV f g vhb vbb)) := hvb
  have HDb : Hid (D6 (fun _ => True) ub f vhb vbb hs body) := (hdb.on hBb).mono (fun _ _ _ => trivial)
  have HVa : Hid (ub.heap[wa.heap.size]? = some (BV f g vha vba)) := blk_on HVa.out hbub
  have HDa : Hid (D6 (fun _ => True) ub f vha vba hs body) := HDa.out.on hbub
  have HC : Hid _ := HQ.out.one ⟨ub, HBb.out⟩
  have hWW := hWb.symm
  unfold zeroV at hWW
  clear hstb hvb hBb hsb hbb hdb hbub hWb
  go_wp2_with ((with_reducible show wpList _ _ _ ({ dst := _, op := Op.store 28 (Operand.tmp 6) _, type := _, pos := _, after := _, guard := _ } :: _) _ _); refine armS (.tmp 6) (.tmp 24) 28 rfl rfl rfl rfl HSb.out ?_; try simp only [Act.put])
  clear hWW HSb
  refine Calls.mono HC.out ?_
  rintro ec wc ⟨vhc, vbc, rfl, hdc, hbc⟩
  obtain ⟨Wc, hWc⟩ : ∃ W, W = wc.alloc (.cells zeroV.toArray 28) := ⟨_, rfl⟩
  obtain ⟨uc, hstc, hvc, hBc, hsc⟩ := vb_new wc f2 g2 hdc.hd.one hdc.bd.one
  rw [← hWc] at hstc
  have HSc : Hid _ := hstc
  have hbuc := hbc.trans (hBc.mono hbc.size)
  have HBc : Hid (Below w.heap.size w uc) := HBb.out.trans (hbuc.mono HBb.out.size)
  have HVc : Hid (uc.heap[wc.heap.size]? = some (BV f2 g2 vhc vbc)) := hvc
  have HDc : Hid (D6 (fun _ => True) uc f2 vhc vbc hs2 body2) := (hdc.on hBc).mono (fun _ _ _ => trivial)
  have HVa : Hid (uc.heap[wa.heap.size]? = some (BV f g vha vba)) := blk_on HVa.out hbuc
  have HDa : Hid (D6 (fun _ => True) uc f vha vba hs body) := HDa.out.on hbuc
  have HVb : Hid (uc.heap[wb.heap.size]? = some (BV f g vhb vbb)) := blk_on HVb.out hbuc
  have HDb : Hid (D6 (fun _ => True) uc f vhb vbb hs body) := HDb.out.on hbuc
  have HC : Hid _ := HQ.out.two ⟨uc, HBc.out⟩
  have hWW := hWc.symm
  unfold zeroV at hWW
  clear hstc hvc hBc hsc hbc hdc hbuc hWc
  go_wp2_with ((with_reducible show wpList _ _ _ ({ dst := _, op := Op.store 28 (Operand.tmp 9) _, type := _, pos := _, after := _, guard := _ } :: _) _ _); refine armS (.tmp 9) (.tmp 30) 28 rfl rfl rfl rfl HSc.out ?_; try simp only [Act.put])
  clear hWW HSc
  refine Calls.mono HC.out ?_
  rintro ed wd ⟨vhd, vbd, rfl, hdd, hbd⟩
  obtain ⟨Wd, hWd⟩ : ∃ W, W = wd.alloc (.cells zeroV.toArray 28) := ⟨_, rfl⟩
  obtain ⟨ud, hstd, hvd, hBd, hsd⟩ := vb_new wd f2 g2 hdd.hd.one hdd.bd.one
  rw [← hWd] at hstd
  have HSd : Hid _ := hstd
  have hbud := hbd.trans (hBd.mono hbd.size)
  have HBd : Hid (Below w.heap.size w ud) := HBc.out.trans (hbud.mono HBc.out.size)
  have HVd : Hid (ud.heap[wd.heap.size]? = some (BV f2 g2 vhd vbd)) := hvd
  have HDd : Hid (D6 (fun _ => True) ud f2 vhd vbd hs2 body2) := (hdd.on hBd).mono (fun _ _ _ => trivial)
  have HVa : Hid (ud.heap[wa.heap.size]? = some (BV f g vha vba)) := blk_on HVa.out hbud
  have HDa : Hid (D6 (fun _ => True) ud f vha vba hs body) := HDa.out.on hbud
  have HVb : Hid (ud.heap[wb.heap.size]? = some (BV f g vhb vbb)) := blk_on HVb.out hbud
  have HDb : Hid (D6 (fun _ => True) ud f vhb vbb hs body) := HDb.out.on hbud
  have HVc : Hid (ud.heap[wc.heap.size]? = some (BV f2 g2 vhc vbc)) := blk_on HVc.out hbud
  have HDc : Hid (D6 (fun _ => True) ud f2 vhc vbc hs2 body2) := HDc.out.on hbud
  have hWW := hWd.symm
  unfold zeroV at hWW
  clear hstd hvd hBd hsd hbd hdd hbud hWd
  have HSM1 : Hid _ := RSame_eq (g := g) HP.out.ad HDa.out HDb.out
  have HLa : Hid _ := vb_load HVa.out
  have HLb : Hid _ := vb_load HVb.out
  go_wp2_with first
    | ((with_reducible show wpList _ _ _ ({ dst := _, op := Op.store 28 (Operand.tmp 12) _, type := _, pos := _, after := _, guard := _ } :: _) _ _); refine armS (.tmp 12) (.tmp 36) 28 rfl rfl rfl rfl HSd.out ?_; try simp only [Act.put])
    | ((with_reducible show wpList _ _ _ ({ dst := _, op := Op.load 28 (Operand.tmp 3), type := _, pos := _, after := _, guard := _ } :: _) _ _); refine armLg (.tmp 3) 28 rfl rfl rfl HLa.out ?_)
    | ((with_reducible show wpList _ _ _ ({ dst := _, op := Op.load 28 (Operand.tmp 6), type := _, pos := _, after := _, guard := _ } :: _) _ _); refine armLg (.tmp 6) 28 rfl rfl rfl HLb.out ?_)
  refine Calls.mono HSM1.out ?_
  rintro e5 w5 ⟨rfl, hb5⟩
  have HLc : Hid _ := vb_load (blk_on HVc.out hb5)
  have HLd : Hid _ := vb_load (blk_on HVd.out hb5)
  have HSM2 : Hid _ := RSame_eq (g := g2) HQ.out.ad (HDc.out.on hb5) (HDd.out.on hb5)
  have HB5 : Hid (Below w.heap.size w w5) := HBd.out.trans (hb5.mono HBd.out.size)
  clear hb5 HSM1 HLa HLb HVa HVb HVc HVd HDa HDb HDc HDd HSd hWW HC
  go_wp2_with first
    | ((with_reducible show wpList _ _ _ ({ dst := _, op := Op.load 28 (Operand.tmp 9), type := _, pos := _, after := _, guard := _ } :: _) _ _); refine armLg (.tmp 9) 28 rfl rfl rfl HLc.out ?_)
    | ((with_reducible show wpList _ _ _ ({ dst := _, op := Op.load 28 (Operand.tmp 12), type := _, pos := _, after := _, guard := _ } :: _) _ _); refine armLg (.tmp 12) 28 rfl rfl rfl HLd.out ?_)
  refine Calls.mono HSM2.out ?_
  rintro e6 w6 ⟨rfl, hb6⟩
  have HB6 : Hid (Below w.heap.size w w6) := HB5.out.trans (hb6.mono HB5.out.size)
  clear hb6 HSM2 HLc HLd
  go_wp2_with fail
  refine (alive_calls _).mono ?_
  rintro e7 w7 ⟨rfl, hb7⟩
  have HF : Hid (Below w.heap.size w w7) := HB6.out.trans (hb7.mono HB6.out.size)
  clear hb7 HB6
  go_wp2
  go_ret
  exact ⟨rfl, HF.out⟩
end
theorem ipv6Parses_open {H : Type} {enc : TypeId × Value → H} {W : World} {base : Nat} (v0 : Value) {d0 : DataW H} {p0 : List MemPlace}
    (o0 : Value.okWide Try.prog W .any base 26 v0) (h0 : DataW.Trod enc Try.prog W 0 (fun _ => true) true 26 v0 d0 p0) (z0 : ∀ k ∈ d0.weights Try.prog 26, k ≤ reachBytes) :
    Calls Try.prog 4 #[v0] W fun e w' => e = .returned (.bool true) ∧ Below W.heap.size W w' := by
  obtain ⟨zs, hr⟩ := open_row o0 h0 z0
  exact ipv6Parses_walk (BS.of_row hr)

end Go.Proofs.Ytbaeogoojpngbaa
