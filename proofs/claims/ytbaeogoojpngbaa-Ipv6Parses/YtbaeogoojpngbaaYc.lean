/-
  alive of the statements of ipv6.
-/
import Derived.Test.YtbaeogoojpngbaaYa
import Derived.Test.YtbaeogoojpngbaaY1
import Derived.Test.YtbaeogoojpngbaaY2
import Derived.Test.YtbaeogoojpngbaaY6
namespace Go.Proofs.Ytbaeogoojpngbaa
open Go Go.RowKit
set_option linter.unusedVariables false
set_option linter.unusedSimpArgs false

theorem armLg {P : Program} {w : World} {ops : Array Oper} {rest : List Oper} {o : Oper} {a : Act} {Q : Exit → Act → World → Prop} (p : Operand) (t : TypeId) (hop : o.op = Op.load t p) (hw : Region.wanted o (yielded ops a.tmps) = true) {vp v : Value} (hp : a.eval p = vp) (hrun : (Instr.loadAt t vp).run P w = .ok v w) (hK : wpList P ops Q rest (a.put o.dst v) w) : wpList P ops Q (o :: rest) a w :=
  arm_load hw p t hop hp hrun hK

theorem BS.nil (S : Nat → Prop) (w : World) : BS S w (.slice none 0 0) [] := ⟨⟨fun z hz => absurd hz (by simp), Nat.zero_le _, none, 0, rfl, Nat.le_refl _, .inl rfl⟩, .inl rfl⟩
def aA : List Int := List.replicate 31 0 ++ [1]
def aF : F6 := ⟨0, 0, 64, 59, u8L aA, rfl, fun v hv => by unfold u8L at hv; obtain ⟨z, _, rfl⟩ := List.mem_map.1 hv; rfl⟩
def aF0 : F6 := ⟨0, 0, 64, 59, List.replicate 32 (.int .u8 0), rfl, fun v hv => by rw [(List.mem_replicate.1 hv).2]; rfl⟩
def awl : List Value := .int .u8 0 :: .int .u32 0 :: .int .u8 64 :: .int .u8 0 :: .int .u8 0 :: .int .u8 0 :: .int .u8 0 :: .int .u8 0 :: .int .u8 0 :: .int .u8 0 :: .int .u8 0 :: .int .u8 0 :: .int .u8 0 :: .int .u8 0 :: .int .u8 0 :: .int .u8 0 :: .int .u8 0 :: .int .u8 0 :: .int .u8 0 :: .int .u8 0 :: .int .u8 0 :: .int .u8 0 :: .int .u8 0 :: .int .u8 0 :: .int .u8 0 :: .int .u8 0 :: .int .u8 0 :: .int .u8 0 :: .int .u8 0 :: .int .u8 0 :: .int .u8 0 :: .int .u8 0 :: .int .u8 0 :: .int .u8 0 :: .int .u8 0 :: .slice none 0 0 :: .bool false :: .int .u32 0 :: .int .i64 0 :: .bool false :: .int .u8 59 :: .slice none 0 0 :: []
theorem awl_eq : vC aF0 zG (.slice none 0 0) (.slice none 0 0) = awl := rfl
theorem awl_set : awl.set 34 (.int .u8 1) = vC aF zG (.slice none 0 0) (.slice none 0 0) := rfl
def aZ : List Int := wrL aF aA [] zG []
theorem aA_fit : Fit aA := fun z hz => by
  unfold aA at hz
  rcases List.mem_append.1 hz with h | h
  · rw [(List.mem_replicate.1 h).2]; omega
  · simp at h; rw [h]; omega
theorem aZ_eq : aZ = [96, 0, 0, 0, 0, 0, 59, 64, 0, 0, 0, 0, 0, 0, 0, 0, 0, 0, 0, 0, 0, 0, 0, 0, 0, 0, 0, 0, 0, 0, 0, 0, 0, 0, 0, 0, 0, 0, 0, 1] := by kernel_rfl
theorem aZ_fit : Fit aZ := fun z hz => by
  rw [aZ_eq] at hz
  simp at hz
  omega
theorem aZ_ck : ckE aF [] zG 0 = 0 := by kernel_rfl
theorem aZ_len : aZ.length = 40 := by rw [aZ_eq]; rfl
theorem aZ_A : ((aZ.drop 8).take 32).length = 32 := by rw [aZ_eq]; rfl
theorem aZ_fin : finF (clsN aZ) (labN aZ) (gz aZ 7) (gz aZ 6) ((aZ.drop 8).take 32) aZ_A = aF := by
  have h1 : clsN aZ = 0 := by kernel_rfl
  have h2 : labN aZ = 0 := by kernel_rfl
  have h3 : gz aZ 7 = 64 := by kernel_rfl
  have h4 : gz aZ 6 = 59 := by kernel_rfl
  have h5 : (aZ.drop 8).take 32 = aA := by kernel_rfl
  have : ∀ (a b c d : Int) (L : List Int) (h : L.length = 32), a = 0 → b = 0 → c = 64 → d = 59 → L = aA → finF a b c d L h = aF := by
    rintro _ _ _ _ _ h rfl rfl rfl rfl rfl
    rfl
  exact this _ _ _ _ _ _ h1 h2 h3 h4 h5
set_option maxHeartbeats 4000000 in
set_option maxRecDepth 100000 in
theorem alive_calls (w : World) : Calls Try.prog 14 #[] w fun e w' => e = .returned (.bool true) ∧ Below w.heap.size w w' := by
  obtain ⟨W0, hW0⟩ : ∃ W0, W0 = w.alloc (.cells zeroV.toArray 28) := ⟨_, rfl⟩
  obtain ⟨w1, hst1, hb1, hB1, hs1⟩ := vb_new w aF0 zG (vh := .slice none 0 0) (vb := .slice none 0 0) rfl rfl
  rw [← hW0] at hst1
  rw [show VV aF0 zG (.slice none 0 0) (.slice none 0 0) = .agg awl.toArray from rfl] at hst1
  rw [show BV aF0 zG (.slice none 0 0) (.slice none 0 0) = .cells awl.toArray 28 from rfl] at hb1
  obtain ⟨w2, hst2, hb2, hB2⟩ : ∃ w2, (Instr.storeAt 5 (.pointer (some ⟨w.heap.size, 34, none⟩)) (.int .u8 1)).run Try.prog w1 = .ok () w2 ∧ w2.heap[w.heap.size]? = some (BV aF zG (.slice none 0 0) (.slice none 0 0)) ∧ Below w.heap.size w w2 := ⟨_, st_u8 hb1 (j := 34) (by decide) 1, by rw [blk_set hb1 34 (.int .u8 1), awl_set], hB1.trans (((Only.refl _ w1).set 34 _).below (Nat.le_refl _))⟩
  have hD2 : D6 (fun b => b < w2.heap.size) w2 aF (.slice none 0 0) (.slice none 0 0) [] [] := ⟨HS.nil _ _, BS.nil _ _, by show (0 : Int) ≤ 0 ∧ (0 : Int) ≤ 4294967295; omega⟩
  have HW : Hid _ := Write_yes (g := zG) hD2 aZ_ck (A := aA) rfl aA_fit (by show (0 : Int) ≤ 0 ∧ (0 : Int) < 256; omega) (by show (0 : Int) ≤ 64 ∧ (64 : Int) < 256; omega) (by show (0 : Int) ≤ 59 ∧ (59 : Int) < 256; omega) (by show (0 : Int) ≤ 0 ∧ (0 : Int) ≤ 4294967295; omega)
  have HL2 : Hid _ := vb_load hb2
  have HV2 : Hid (w2.heap[w.heap.size]? = some (BV aF zG (.slice none 0 0) (.slice none 0 0))) := hb2
  have HB2 : Hid (Below w.heap.size w w2) := hB2
  have HD2 : Hid _ := hD2
  unfold awl at hst1
  have HS1 : Hid _ := hst1
  have HS2 : Hid _ := hst2
  have hW := hW0.symm
  unfold zeroV at hW
  clear hst1 hst2 hb1 hB1 hs1 hb2 hB2 hD2 hW0
  go_enter Try.func14, Try.ntmps14
  go_wp2_with first
    | ((with_reducible show wpList _ _ _ ({ dst := _, op := Op.store 28 (Operand.tmp 1) _, type := _, pos := _, after := _, guard := _ } :: _) _ _); refine armS (.tmp 1) (.tmp 7) 28 rfl rfl rfl rfl HS1.out ?_; try simp only [Act.put])
    | ((with_reducible show wpList _ _ _ ({ dst := _, op := Op.store 5 (Operand.tmp 9) _, type := _, pos := _, after := _, guard := _ } :: _) _ _); refine armS (.tmp 9) (.const (.int .u8 1)) 5 rfl rfl rfl rfl HS2.out ?_; try simp only [Act.put])
    | ((with_reducible show wpList _ _ _ ({ dst := _, op := Op.load 28 (Operand.tmp 1), type := _, pos := _, after := _, guard := _ } :: _) _ _); refine armL (.tmp 1) 28 rfl rfl rfl HL2.out ?_)
  refine Calls.mono HW.out ?_
  rintro e w3 ⟨v, rfl, hob⟩
  have hbs3 := hob.row aZ_fit (by rw [show wrL aF aA [] zG [] = aZ from rfl, aZ_len]; omega)
  rw [show wrL aF aA [] zG [] = aZ from rfl] at hbs3
  have hz3 : BS (fun b => b < w3.heap.size) w3 v aZ := hbs3.mono (fun b hb _ => hb)
  have hP := Parse_plain hz3 (by rw [aZ_len]; omega) (by kernel_rfl) (by rw [aZ_len]; kernel_rfl) (by kernel_rfl) (by rw [show gz aZ 6 = 59 by kernel_rfl]; omega) aZ_A
  rw [aZ_fin, show aZ.drop 40 = [] by kernel_rfl] at hP
  have HP : Hid _ := hP
  have HV3 : Hid _ := blk_on HV2.out (hob.bel)
  have HB3 : Hid (Below w.heap.size w w3) := HB2.out.trans (hob.bel.mono HB2.out.size)
  obtain ⟨b, off, n, cap, ev, _, hcell⟩ := hz3.first (by rw [aZ_len]; omega)
  rw [aZ_len] at ev
  subst ev
  have hlt3 : b < w3.heap.size := by
    rcases hz3.loc with h | ⟨b', o', n', k', e, h⟩
    · rw [aZ_len] at h; omega
    · injection e with e1; injection e1 with e1; injection e1 with e1; rw [e1]; exact h
  have c6 : w3.cell? ⟨b, off + 6, none⟩ = some (.int .u8 59) := by rw [hcell 6 (by rw [aZ_len]; omega)]; kernel_rfl
  have c7 : w3.cell? ⟨b, off + 7, none⟩ = some (.int .u8 64) := by rw [hcell 7 (by rw [aZ_len]; omega)]; kernel_rfl
  have HC6 : Hid _ := c6
  have HC7 : Hid _ := c7
  have HLT : Hid _ := hlt3
  clear hob hbs3 hz3 hP c6 c7 hlt3 HW HL2 HV2 HB2 HS1 HS2 hW hcell
  go_wp2_with fail
  refine Calls.mono HP.out ?_
  rintro e w4 ⟨vb, rfl, hb4, hB4⟩
  obtain ⟨W5, hW5⟩ : ∃ W5, W5 = w4.alloc (.cells zeroV.toArray 28) := ⟨_, rfl⟩
  obtain ⟨w6, hst6, hb6, hB6, hs6⟩ := vb_new w4 aF zG (vh := .slice none 0 0) (vb := vb) rfl hb4.one
  rw [← hW5] at hst6
  have HS6 : Hid _ := hst6
  have hB36 : Below w3.heap.size w3 w6 := hB4.trans (hB6.mono hB4.size)
  have HL1 : Hid _ := vb_load (blk_on HV3.out hB36)
  have HL6 : Hid _ := vb_load hb6
  have HBE : Hid (Below w.heap.size w w6) := HB3.out.trans (hB36.mono HB3.out.size)
  have k6 : w6.cell? ⟨b, off + 6, none⟩ = some (.int .u8 59) := (hB36.cell (p := ⟨b, off + 6, none⟩) HLT.out).trans HC6.out
  have k7 : w6.cell? ⟨b, off + 7, none⟩ = some (.int .u8 64) := (hB36.cell (p := ⟨b, off + 7, none⟩) HLT.out).trans HC7.out
  have HSM : Hid _ := RSame_eq (g := zG) (f := aF) (w := w6) (S := fun _ => True) (S' := fun _ => True) (vh := .slice none 0 0) (vb := .slice none 0 0) (vh' := .slice none 0 0) (vb' := vb) (hs := []) (body := []) ⟨aA, rfl, aA_fit⟩ ⟨HS.nil _ _, BS.nil _ _, HD2.out.lab⟩ ⟨HS.nil _ _, (hb4.on hB6).mono (fun _ _ _ => trivial), HD2.out.lab⟩
  have hW := hW5.symm
  unfold zeroV at hW
  clear hst6 hb6 hB6 hs6 hB36 hb4 hB4 HP HV3 HB3 HC6 HC7 HLT HD2 hW5
  go_wp2_with first
    | ((with_reducible show wpList _ _ _ ({ dst := _, op := Op.store 28 (Operand.tmp 4) _, type := _, pos := _, after := _, guard := _ } :: _) _ _); refine armS (.tmp 4) (.tmp 18) 28 rfl rfl rfl rfl HS6.out ?_; try simp only [Act.put])
    | ((with_reducible show wpList _ _ _ ({ dst := _, op := Op.load 28 (Operand.tmp 1), type := _, pos := _, after := _, guard := _ } :: _) _ _); refine armLg (.tmp 1) 28 rfl rfl rfl HL1.out ?_)
    | ((with_reducible show wpList _ _ _ ({ dst := _, op := Op.load 28 (Operand.tmp 4), type := _, pos := _, after := _, guard := _ } :: _) _ _); refine armLg (.tmp 4) 28 rfl rfl rfl HL6.out ?_)
  refine Calls.mono HSM.out ?_
  rintro e w7 ⟨rfl, hb7⟩
  have HF : Hid (Below w.heap.size w w7) := HBE.out.trans (hb7.mono HBE.out.size)
  clear hb7 HSM HBE HL1 HL6 HS6 k6 k7 hW
  go_wp2
  go_ret
  exact ⟨rfl, HF.out⟩

end Go.Proofs.Ytbaeogoojpngbaa
