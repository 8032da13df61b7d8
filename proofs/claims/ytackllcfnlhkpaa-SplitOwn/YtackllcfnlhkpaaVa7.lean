/-
  Fits and refused of the program.
-/
import Derived.Test.YtackllcfnlhkpaaVa6
namespace Go.Proofs.Ytackllcfnlhkpaa
open Go Go.RowKit Go.Shelf
set_option linter.unusedVariables false
set_option linter.unusedSimpArgs false
attribute [local go_sem] Oper.semAt_some

theorem armL {P : Program} {w : World} {ops : Array Oper} {rest : List Oper} {o : Oper} {a : Act} {Q : Exit → Act → World → Prop} (p : Operand) (t : TypeId) (hop : o.op = Op.load t p) (hg : o.guard = none) {vp v : Value} (hp : a.eval p = vp) (hrun : (Instr.loadAt t vp).run P w = .ok v w) (hK : wpList P ops Q rest (a.put o.dst v) w) : wpList P ops Q (o :: rest) a w :=
  arm_load (by simp [Region.wanted, hg]) p t hop hp hrun hK
theorem armS {P : Program} {w w2 : World} {ops : Array Oper} {rest : List Oper} {o : Oper} {a : Act} {Q : Exit → Act → World → Prop} (p x : Operand) (t : TypeId) (hop : o.op = Op.store t p x) (hg : o.guard = none) {vp vx : Value} (hp : a.eval p = vp) (hx : a.eval x = vx) (hrun : (Instr.storeAt t vp vx).run P w = .ok () w2) (hK : wpList P ops Q rest (a.put o.dst (.tuple #[])) w2) : wpList P ops Q (o :: rest) a w :=
  arm_store (by simp [Region.wanted, hg]) p x t hop hp hx hrun hK

def wrongE (off : Int) (no nb : Nat) (mtu : Int) : Int := if chk off no nb ≠ 0 then chk off no nb else if mtu < 68 ∨ 65535 < mtu then 131 else 0
def fitB (no nb : Nat) (mtu : Int) : Bool := decide (20 + (no : Int) + (nb : Int) ≤ mtu)
theorem chk_ok {off : Int} {no nb : Nat} (h : chk off no nb = 0) : 0 ≤ off ∧ off ≤ 8191 ∧ no ≤ 40 ∧ no % 4 = 0 ∧ 20 + no + nb ≤ 65535 := by
  unfold chk badV longV at h
  by_cases hx : (decide (off < 0) || decide (8191 < off) || decide (40 < no) || decide (no % 4 ≠ 0)) = true
  · rw [if_pos hx] at h; omega
  · rw [if_neg hx] at h
    by_cases hy : decide (65535 < 20 + no + nb) = true
    · rw [if_pos hy] at h; omega
    · simp only [Bool.or_eq_true, decide_eq_true_eq, not_or] at hx hy
      omega
theorem chk_is {off : Int} {no nb : Nat} (h : 0 ≤ off ∧ off ≤ 8191 ∧ no ≤ 40 ∧ no % 4 = 0 ∧ 20 + no + nb ≤ 65535) : chk off no nb = 0 := by
  unfold chk badV longV
  rw [if_neg (by simp only [Bool.or_eq_true, decide_eq_true_eq, not_or]; omega), if_neg (by simp only [decide_eq_true_eq]; omega)]
theorem wrong_ok {off : Int} {no nb : Nat} {mtu : Int} (h : wrongE off no nb mtu = 0) : chk off no nb = 0 ∧ 68 ≤ mtu ∧ mtu ≤ 65535 := by
  unfold wrongE at h
  by_cases h1 : chk off no nb = 0
  · rw [if_neg (by simpa using h1)] at h
    by_cases h2 : mtu < 68 ∨ 65535 < mtu
    · rw [if_pos h2] at h; omega
    · exact ⟨h1, by omega, by omega⟩
  · rw [if_pos h1] at h; exact absurd h h1

section
variable (f : Fd) (mf : Bool) (off : Int) (so sb : Value) (opts body : List Int) (mtu : Int) (w : World)
set_option maxHeartbeats 1000000 in
set_option maxRecDepth 100000 in
theorem Fits_calls (h1 : RowC w so opts) (h2 : RowC w sb body) (hoff : -9223372036854775808 ≤ off ∧ off ≤ 9223372036854775807) (hmt : -9223372036854775808 ≤ mtu ∧ mtu ≤ 9223372036854775807) :
    Calls Try.prog 13 #[VV f mf off so sb, .int .i64 mtu] w fun e w' => e = .returned (.tuple #[.bool (decide (wrongE off opts.length body.length mtu = 0) && fitB opts.length body.length mtu), .int .i64 (wrongE off opts.length body.length mtu)]) ∧ Below w.heap.size w w' := by
  have HCK : Hid (∀ W, Calls Try.prog 25 #[VV f mf off so sb] W fun e w' => e = .returned (.int .i64 (chk off opts.length body.length)) ∧ Below W.heap.size W w') := fun W => Check_calls (vC f mf off so sb) off opts.length body.length W (vb_lens h1 h2 hoff)
  have hb0 := blk_new w (BV f mf off so sb)
  have hB0 := (Below.refl w.heap.size w).alloc (Nat.le_refl _) (BV f mf off so sb)
  have HLD : Hid _ := vb_load hb0
  have HB0 : Hid _ := hb0
  have HBB : Hid (Below w.heap.size w (w.alloc (BV f mf off so sb))) := hB0
  have HRO : Hid (RowC w so opts) := h1
  obtain ⟨a1, c1, hso⟩ : ∃ a c, so = .slice a opts.length c := by obtain ⟨_, _, a, cap, e, _⟩ := h1; exact ⟨_, _, e⟩
  obtain ⟨a2, c2, hsb⟩ : ∃ a c, sb = .slice a body.length c := by obtain ⟨_, _, a, cap, e, _⟩ := h2; exact ⟨_, _, e⟩
  have hl1 := h1.len
  have hl2 := h2.len
  clear hb0 hB0 h1 h2
  have HW : Hid (wrongE off opts.length body.length mtu = if chk off opts.length body.length ≠ 0 then chk off opts.length body.length else if mtu < 68 ∨ 65535 < mtu then 131 else 0) := rfl
  have HF : Hid (fitB opts.length body.length mtu = decide (20 + (opts.length : Int) + (body.length : Int) ≤ mtu)) := rfl
  generalize wrongE off opts.length body.length mtu = wE at *
  generalize fitB opts.length body.length mtu = fB at *
  generalize chk off opts.length body.length = ck at *
  have HSO : Hid _ := hso
  have HSB : Hid _ := hsb
  generalize hno : opts.length = no at *
  generalize hnb : body.length = nb at *
  have HNO : Hid _ := hno
  clear hno hnb hso hsb
  by_cases hk : ck = 0
  · subst hk
    by_cases hm : mtu < 68 ∨ 65535 < mtu
    · obtain rfl : wE = 131 := by rw [HW.out]; simp [hm]
      have e1 : (decide ((131 : Int) = 0) && fB) = false := rfl
      rw [e1]
      rcases hm with hm | hm
      · have q1 : decide (mtu < 68) = true := by simpa using hm
        go_enter Try.func13, Try.ntmps13
        go_wp2_with ((with_reducible show wpList _ _ _ _ _ _); refine armL (.tmp 2) 27 rfl rfl rfl HLD.out ?_)
        refine Calls.mono (HCK.out _) ?_
        rintro e w2 ⟨rfl, hb2⟩
        have HB2 : Hid _ := HBB.out.trans (hb2.mono HBB.out.size)
        clear hb2
        go_wp2
        go_ret2
        exact ⟨rfl, HB2.out⟩
      · have q1 : decide (mtu < 68) = false := by simp; omega
        have q2 : decide (65535 < mtu) = true := by simpa using hm
        go_enter Try.func13, Try.ntmps13
        go_wp2_with ((with_reducible show wpList _ _ _ _ _ _); refine armL (.tmp 2) 27 rfl rfl rfl HLD.out ?_)
        refine Calls.mono (HCK.out _) ?_
        rintro e w2 ⟨rfl, hb2⟩
        have HB2 : Hid _ := HBB.out.trans (hb2.mono HBB.out.size)
        clear hb2
        go_wp2
        go_ret2
        exact ⟨rfl, HB2.out⟩
    · obtain rfl : wE = 0 := by rw [HW.out]; simp [hm]
      have e1 : (decide ((0 : Int) = 0) && fB) = fB := by simp
      rw [e1]
      obtain ⟨m, rfl⟩ : ∃ m : Nat, mtu = m := ⟨mtu.toNat, by omega⟩
      have q1 : decide ((m : Int) < 68) = false := by simp; omega
      have q2 : decide (65535 < (m : Int)) = false := by simp; omega
      have hm2 : m ≤ 65535 := by omega
      have HSP : Hid (∀ W, RowC W so opts → Calls Try.prog 26 #[.slice a1 no c1, .int .i64 m] W fun e w' => e = .returned (.int .i64 ((m : Int) - 20 - (no : Int))) ∧ Below W.heap.size W w') := fun W hW => by
        have := space_calls so opts m W hW hm2
        rw [HNO.out, HSO.out] at this
        exact this
      have HFE : Hid (decide ((nb : Int) ≤ (m : Int) - 20 - (no : Int)) = fB) := by show decide _ = fB; rw [HF.out, decide_eq_decide]; omega
      clear HF HW
      go_enter Try.func13, Try.ntmps13
      go_wp2_with ((with_reducible show wpList _ _ _ _ _ _); refine armL (.tmp 2) 27 rfl rfl rfl HLD.out ?_)
      refine Calls.mono (HCK.out _) ?_
      rintro e w2 ⟨rfl, hb2⟩
      have HB2 : Hid _ := HBB.out.trans (hb2.mono HBB.out.size)
      have hbx := blk_on HB0.out hb2
      have hc16 : ∀ x : Hi w2, x.W.cell? ⟨w.heap.size, 16, none⟩ = some (.slice a2 nb c2) := fun x => by rw [vb16 (Hi.blk hbx x), HSB.out]
      have hc15 : ∀ x : Hi w2, x.W.cell? ⟨w.heap.size, 15, none⟩ = some (.slice a1 no c1) := fun x => by rw [vb15 (Hi.blk hbx x), HSO.out]
      have HSX : Hid (∀ x : Hi w2, Calls Try.prog 26 #[.slice a1 no c1, .int .i64 m] x.W fun e w' => e = .returned (.int .i64 ((m : Int) - 20 - (no : Int))) ∧ Below x.W.heap.size x.W w') := fun x => HSP.out _ (HRO.out.on (HB2.out.trans (x.below.mono HB2.out.size)))
      clear hb2 hbx HSP HB0
      go_wp2_with fail
      refine wp_region_hi (by kernel_rfl) (by kernel_rfl) ?_
      repeat (first | go_big_quiet_skip | (go_big_quiet_want; go_big_quiet_op; first | go_big_quiet_on | go_big_quiet_call (first | (go_at_call 26; with_reducible exact Hi.calls (HSX.out _)))))
      refine wpQuiet_nil ?_
      intro _ hw
      obtain ⟨y, rfl⟩ := hw
      go_wp2
      go_ret2
      exact ⟨by rw [HFE.out]; rfl, HB2.out.trans (y.below.mono HB2.out.size)⟩
  · obtain rfl : wE = ck := by rw [HW.out]; simp [hk]
    have e1 : (decide (wE = 0) && fB) = false := by simp [hk]
    rw [e1]
    have q1 : (wE != 0) = true := by simpa using hk
    clear HW
    go_enter Try.func13, Try.ntmps13
    go_wp2_with ((with_reducible show wpList _ _ _ _ _ _); refine armL (.tmp 2) 27 rfl rfl rfl HLD.out ?_)
    refine Calls.mono (HCK.out _) ?_
    rintro e w2 ⟨rfl, hb2⟩
    have HB2 : Hid _ := HBB.out.trans (hb2.mono HBB.out.size)
    clear hb2
    go_wp2
    go_ret2
    exact ⟨rfl, HB2.out⟩
end

end Go.Proofs.Ytackllcfnlhkpaa
