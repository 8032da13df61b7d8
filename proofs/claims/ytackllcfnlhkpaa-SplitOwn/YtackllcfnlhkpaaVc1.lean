/-
  The document's size, wrong, Fits and Split.
-/
import Derived.Test.YtackllcfnlhkpaaVa3
import Derived.Test.YtackllcfnlhkpaaVb3
namespace Go.Proofs.Ytackllcfnlhkpaa
open Go Go.RowKit
set_option linter.unusedVariables false
set_option linter.unusedSimpArgs false

theorem rsize_calls (f : Fd) (mf : Bool) (off : Int) (so sb : Value) (o b : List Int) (w : World) (h1 : RowC w so o) (h2 : RowC w sb b) :
    Calls Try.prog 24 #[VV f mf off so sb] w fun e w' => e = .returned (.int .i64 (20 + (o.length : Int) + (b.length : Int))) ∧ Below w.heap.size w w' := by
  obtain ⟨_, hl1, a1, c1, rfl, _⟩ := h1
  obtain ⟨_, hl2, a2, c2, rfl, _⟩ := h2
  have hb0 := blk_new w (BV f mf off (.slice a1 o.length c1) (.slice a2 b.length c2))
  have hB := (Below.refl w.heap.size w).alloc (Nat.le_refl _) (BV f mf off (.slice a1 o.length c1) (.slice a2 b.length c2))
  have d15 := vb15 hb0
  have d16 := vb16 hb0
  have HB : Hid _ := hB
  clear hb0 hB
  generalize o.length = no at *
  generalize b.length = nb at *
  go_enter Try.func24, Try.ntmps24
  go_wp2
  go_ret
  exact ⟨rfl, HB.out⟩

section
variable (f : Fd) (mf : Bool) (off : Int) (so sb : Value) (opts body : List Int) (mtu : Int) (w : World)
set_option maxHeartbeats 1000000 in
set_option maxRecDepth 100000 in
theorem wrong_calls (h1 : RowC w so opts) (h2 : RowC w sb body) (hoff : -9223372036854775808 ≤ off ∧ off ≤ 9223372036854775807) (hmt : -9223372036854775808 ≤ mtu ∧ mtu ≤ 9223372036854775807) :
    Calls Try.prog 27 #[VV f mf off so sb, .int .i64 mtu] w fun e w' => e = .returned (.int .i64 (wrongE off opts.length body.length mtu)) ∧ Below w.heap.size w w' := by
  have HCK : Hid (∀ W, Calls Try.prog 30 #[VV f mf off so sb] W fun e w' => e = .returned (.int .i64 (chk off opts.length body.length)) ∧ Below W.heap.size W w') := fun W => RCheck_calls (vC f mf off so sb) off opts.length body.length W (vb_lens h1 h2 hoff)
  have hb0 := blk_new w (BV f mf off so sb)
  have HLD : Hid _ := vb_load hb0
  have HBB : Hid (Below w.heap.size w (w.alloc (BV f mf off so sb))) := (Below.refl w.heap.size w).alloc (Nat.le_refl _) (BV f mf off so sb)
  clear hb0 h1 h2
  have HW : Hid (wrongE off opts.length body.length mtu = if chk off opts.length body.length ≠ 0 then chk off opts.length body.length else if mtu < 68 ∨ 65535 < mtu then 131 else 0) := rfl
  generalize wrongE off opts.length body.length mtu = wE at *
  generalize chk off opts.length body.length = ck at *
  by_cases hk : ck = 0
  · subst hk
    by_cases hm1 : mtu < 68
    · obtain rfl : wE = 131 := by rw [HW.out]; simp [hm1]
      have q1 : decide (mtu < 68) = true := by simpa using hm1
      go_enter Try.func27, Try.ntmps27
      go_wp2_with ((with_reducible show wpList _ _ _ _ _ _); refine armL (.tmp 2) 27 rfl rfl rfl HLD.out ?_)
      refine Calls.mono (HCK.out _) ?_
      rintro e w2 ⟨rfl, hb2⟩
      have HB2 : Hid _ := HBB.out.trans (hb2.mono HBB.out.size)
      clear hb2
      go_wp2
      go_ret
      exact ⟨rfl, HB2.out⟩
    · have q1 : decide (mtu < 68) = false := by simp; omega
      by_cases hm2 : 65535 < mtu
      · obtain rfl : wE = 131 := by rw [HW.out]; simp [hm2]
        have q2 : decide (65535 < mtu) = true := by simpa using hm2
        go_enter Try.func27, Try.ntmps27
        go_wp2_with ((with_reducible show wpList _ _ _ _ _ _); refine armL (.tmp 2) 27 rfl rfl rfl HLD.out ?_)
        refine Calls.mono (HCK.out _) ?_
        rintro e w2 ⟨rfl, hb2⟩
        have HB2 : Hid _ := HBB.out.trans (hb2.mono HBB.out.size)
        clear hb2
        go_wp2
        go_ret
        exact ⟨rfl, HB2.out⟩
      · obtain rfl : wE = 0 := by rw [HW.out]; simp [hm1, hm2]
        have q2 : decide (65535 < mtu) = false := by simpa using hm2
        go_enter Try.func27, Try.ntmps27
        go_wp2_with ((with_reducible show wpList _ _ _ _ _ _); refine armL (.tmp 2) 27 rfl rfl rfl HLD.out ?_)
        refine Calls.mono (HCK.out _) ?_
        rintro e w2 ⟨rfl, hb2⟩
        have HB2 : Hid _ := HBB.out.trans (hb2.mono HBB.out.size)
        clear hb2
        go_wp2
        go_ret
        exact ⟨rfl, HB2.out⟩
  · obtain rfl : wE = ck := by rw [HW.out]; simp [hk]
    have q1 : (wE != 0) = true := by simpa using hk
    clear HW
    go_enter Try.func27, Try.ntmps27
    go_wp2_with ((with_reducible show wpList _ _ _ _ _ _); refine armL (.tmp 2) 27 rfl rfl rfl HLD.out ?_)
    refine Calls.mono (HCK.out _) ?_
    rintro e w2 ⟨rfl, hb2⟩
    have HB2 : Hid _ := HBB.out.trans (hb2.mono HBB.out.size)
    clear hb2
    go_wp2
    go_ret
    exact ⟨rfl, HB2.out⟩

theorem arm_loadG {P : Program} {w : World} {ops : Array Oper} {rest : List Oper} {o : Oper} {a : Act} {Q : Exit → Act → World → Prop} (hg : Region.wanted o (yielded ops a.tmps) = true) (p : Operand) (t : TypeId) (hop : o.op = Op.load t p) {vp v : Value} (hp : a.eval p = vp) (hrun : (Instr.loadAt t vp).run P w = .ok v w) (hK : wpList P ops Q rest (a.put o.dst v) w) : wpList P ops Q (o :: rest) a w := arm_load hg p t hop hp hrun hK

set_option maxHeartbeats 1000000 in
set_option maxRecDepth 100000 in
theorem RFits_calls (h1 : RowC w so opts) (h2 : RowC w sb body) (hoff : -9223372036854775808 ≤ off ∧ off ≤ 9223372036854775807) (hmt : -9223372036854775808 ≤ mtu ∧ mtu ≤ 9223372036854775807) :
    Calls Try.prog 14 #[VV f mf off so sb, .int .i64 mtu] w fun e w' => e = .returned (.tuple #[.bool (decide (wrongE off opts.length body.length mtu = 0) && fitB opts.length body.length mtu), .int .i64 (wrongE off opts.length body.length mtu)]) ∧ Below w.heap.size w w' := by
  have HWR : Hid (∀ W, Below w.heap.size w W → Calls Try.prog 27 #[VV f mf off so sb, .int .i64 mtu] W fun e w' => e = .returned (.int .i64 (wrongE off opts.length body.length mtu)) ∧ Below W.heap.size W w') := fun W hW => wrong_calls f mf off so sb opts body mtu W (h1.on hW) (h2.on hW) hoff hmt
  have HSZ : Hid (∀ W, Below w.heap.size w W → Calls Try.prog 24 #[VV f mf off so sb] W fun e w' => e = .returned (.int .i64 (20 + (opts.length : Int) + (body.length : Int))) ∧ Below W.heap.size W w') := fun W hW => rsize_calls f mf off so sb opts body W (h1.on hW) (h2.on hW)
  have hb0 := blk_new w (BV f mf off so sb)
  have HLD : Hid _ := vb_load hb0
  have HB0 : Hid _ := hb0
  have HBB : Hid (Below w.heap.size w (w.alloc (BV f mf off so sb))) := (Below.refl w.heap.size w).alloc (Nat.le_refl _) (BV f mf off so sb)
  have hl1 := h1.len
  have hl2 := h2.len
  clear hb0 h1 h2
  have HF : Hid (fitB opts.length body.length mtu = decide (20 + (opts.length : Int) + (body.length : Int) ≤ mtu)) := rfl
  generalize wrongE off opts.length body.length mtu = wE at *
  generalize fitB opts.length body.length mtu = fB at *
  generalize opts.length = no at *
  generalize body.length = nb at *
  by_cases hk : wE = 0
  · subst hk
    have e1 : (decide ((0 : Int) = 0) && fB) = fB := by simp
    rw [e1]
    have HFE : Hid (decide (20 + (no : Int) + (nb : Int) ≤ mtu) = fB) := HF.out.symm
    clear HF e1
    generalize hsz : (20 : Int) + (no : Int) + (nb : Int) = sz at *
    clear hsz
    go_enter Try.func14, Try.ntmps14
    go_wp2_with ((with_reducible show wpList _ _ _ _ _ _); refine armL (.tmp 2) 27 rfl rfl rfl HLD.out ?_)
    refine Calls.mono (HWR.out _ HBB.out) ?_
    rintro e w2 ⟨rfl, hb2⟩
    have HB2 : Hid (Below w.heap.size w w2) := HBB.out.trans (hb2.mono HBB.out.size)
    have HLD2 : Hid _ := vb_load (blk_on HB0.out hb2)
    clear hb2 HLD HB0 HWR HBB
    go_wp2_with ((with_reducible show wpList _ _ _ _ _ _); refine arm_loadG (by rfl) (.tmp 2) 27 rfl rfl HLD2.out ?_)
    refine Calls.mono (HSZ.out _ HB2.out) ?_
    rintro e w3 ⟨rfl, hb3⟩
    have HB3 : Hid (Below w.heap.size w w3) := HB2.out.trans (hb3.mono HB2.out.size)
    clear hb3 HLD2 HSZ HB2
    go_wp2
    go_ret2
    exact ⟨by rw [HFE.out]; rfl, HB3.out⟩
  · have e1 : (decide (wE = 0) && fB) = false := by simp [hk]
    rw [e1]
    have q1 : (wE == 0) = false := by simpa using hk
    clear HF e1
    go_enter Try.func14, Try.ntmps14
    go_wp2_with ((with_reducible show wpList _ _ _ _ _ _); refine armL (.tmp 2) 27 rfl rfl rfl HLD.out ?_)
    refine Calls.mono (HWR.out _ HBB.out) ?_
    rintro e w2 ⟨rfl, hb2⟩
    have HB2 : Hid (Below w.heap.size w w2) := HBB.out.trans (hb2.mono HBB.out.size)
    clear hb2 HLD HB0 HWR HBB HSZ
    go_wp2
    go_ret2
    exact ⟨rfl, HB2.out⟩
end

end Go.Proofs.Ytackllcfnlhkpaa
