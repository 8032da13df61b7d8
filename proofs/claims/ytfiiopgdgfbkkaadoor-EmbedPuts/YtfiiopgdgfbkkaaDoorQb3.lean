/-
  The document's slash, length; its prefixes of good texts.
-/
import Derived.Test.YtfiiopgdgfbkkaaDoorQb2
import Derived.Test.YtfiiopgdgfbkkaaDoorSixM
import Derived.Deep.RegionLaw
namespace Go.Proofs.YtfiiopgdgfbkkaaDoor
set_option linter.unusedVariables false
set_option linter.unusedSimpArgs false
open Go Go.RowKit

theorem step_storeR {P : Program} {ops : Array Oper} {o : Oper} {a : Act} {w w2 : World} {K : Act → World → Prop} {Q : Exit → Act → World → Prop} {E : Prop} (hg : o.guard = none) (p x : Operand) (t : TypeId)
    (hop : o.op = Op.store t p x) {vp vx : Value} (hp : a.eval p = vp) (hx : a.eval x = vx) (hrun : (Instr.storeAt t vp vx).run P w = .ok () w2) (hK : K (a.put o.dst (.tuple #[])) w2) :
    if Region.wanted o (yielded ops a.tmps) = true then Oper.wp P o a w K Q else E := by
  have hw : Region.wanted o (yielded ops a.tmps) = true := by simp [Region.wanted, hg]
  rw [if_pos hw]
  unfold Oper.wp
  simp [execOp, hop, hp, hx, hrun, Result.andThen]
  exact hK

theorem step_loadR {P : Program} {ops : Array Oper} {o : Oper} {a : Act} {w : World} {K : Act → World → Prop} {Q : Exit → Act → World → Prop} {E : Prop} (hg : o.guard = none) (p : Operand) (t : TypeId)
    (hop : o.op = Op.load t p) {vp v : Value} (hp : a.eval p = vp) (hrun : (Instr.loadAt t vp).run P w = .ok v w) (hK : K (a.put o.dst v) w) :
    if Region.wanted o (yielded ops a.tmps) = true then Oper.wp P o a w K Q else E := by
  have hw : Region.wanted o (yielded ops a.tmps) = true := by simp [Region.wanted, hg]
  rw [if_pos hw]
  unfold Oper.wp
  simp [execOp, hop, hp, hrun, Result.andThen]
  exact hK
theorem step_buildR {P : Program} {ops : Array Oper} {o : Oper} {a : Act} {w : World} {K : Act → World → Prop} {Q : Exit → Act → World → Prop} {E : Prop} (hg : o.guard = none) (t : TypeId) (ps : List (Nat × Operand))
    (hop : o.op = Op.build t ps.toArray) {vs : List (Nat × Value)} (hv : ps.map (fun p => (p.1, a.eval p.2)) = vs) {v : Value} (hrun : (Instr.build t vs.toArray).run P w = .ok v w) (hK : K (a.put o.dst v) w) :
    if Region.wanted o (yielded ops a.tmps) = true then Oper.wp P o a w K Q else E := by
  have hw : Region.wanted o (yielded ops a.tmps) = true := by simp [Region.wanted, hg]
  rw [if_pos hw]
  unfold Oper.wp
  have e : (ps.toArray.map fun (i, x) => (i, a.eval x)) = vs.toArray := by
    rw [← hv]
    simp
  simp only [execOp, hop]
  rw [e]
  simp [hrun, Result.andThen]
  exact hK

set_option maxHeartbeats 1000000 in
theorem slash_ref (s : ByteArray) (w : World) (hs : s.size ≤ 1000000) : Calls Tryd.prog 44 #[.string s] w fun e w' => e = .returned (.int .i64 (slashN (txt s) s.size 0 : Nat)) ∧ w' = w := by
  have hl := txt_length s
  generalize hR : slashN (txt s) s.size 0 = R
  have HR : Hid _ := hR
  clear hR
  go_enter Tryd.func44, Tryd.ntmps44
  go_wp2
  go_loop [3] (fun i => ∃ k : Nat, k ≤ s.size ∧ i = .int .i64 k ∧ R = slashN (txt s) (s.size - k) k) (fun i => s.size - (intOf i).toNat)
  case atStart => exact ⟨0, Nat.zero_le _, rfl, HR.out.symm⟩
  case round =>
    obtain ⟨k, hk, rfl, hrk⟩ := hrel
    have HK : Hid _ := hrk
    clear hrk HR
    by_cases hlt : k < s.size
    · have hx := txt_at s k hlt
      have hb := byte_at s k hlt
      have hst : slashN (txt s) (s.size - k) k = if (((s[k]'hlt).toNat : Nat) : Int) = 47 then k else slashN (txt s) (s.size - (k + 1)) (k + 1) := by
        have e : s.size - k = (s.size - (k + 1)) + 1 := by omega
        rw [e, slashN, List.getD_eq_getElem?_getD, hx]
        rfl
      by_cases h47 : (((s[k]'hlt).toNat : Nat) : Int) = 47
      · rw [if_pos h47] at hst
        have q : ((((s[k]'hlt).toNat : Nat) : Int) != 47) = false := by simpa using h47
        have HE : Hid (R = k) := HK.out.trans hst
        clear hst hx h47
        go_wp2
        go_ret
        exact ⟨by rw [HE.out]; rfl, rfl⟩
      · rw [if_neg h47] at hst
        have q : ((((s[k]'hlt).toNat : Nat) : Int) != 47) = true := by simpa using h47
        have HE : Hid _ := HK.out.trans hst
        clear hst hx
        go_wp2
        exact ⟨⟨k + 1, by omega, by simp, HE.out⟩, by simp [intOf]; omega⟩
    · obtain rfl : k = s.size := by omega
      have HE : Hid (R = s.size) := HK.out.trans (by rw [Nat.sub_self]; rfl)
      clear HK
      go_wp2
      go_ret
      exact ⟨by rw [HE.out]; rfl, rfl⟩

set_option maxHeartbeats 1000000 in
theorem length_ref (s : ByteArray) (most : Int) (w : World) (hs : s.size ≤ 1000000) (hm : 0 ≤ most ∧ most ≤ 1000000) : Calls Tryd.prog 46 #[.string s, .int .i64 most] w fun e w' => e = .returned (.int .i64 (lenN (txt s) most s.size 0 : Nat)) ∧ w' = w := by
  have hl := txt_length s
  generalize hR : lenN (txt s) most s.size 0 = R
  have HR : Hid _ := hR
  clear hR
  go_enter Tryd.func46, Tryd.ntmps46
  go_wp2
  go_loop [5] (fun i => ∃ k : Nat, k ≤ s.size ∧ i = .int .i64 k ∧ R = lenN (txt s) most (s.size - k) k) (fun i => s.size - (intOf i).toNat)
  case atStart => exact ⟨0, Nat.zero_le _, rfl, HR.out.symm⟩
  case round =>
    obtain ⟨k, hk, rfl, hrk⟩ := hrel
    have HK : Hid _ := hrk
    clear hrk HR
    by_cases hlt : k < s.size
    · have hoc := octet_ref (s.extract 0 (k + 1)) most w hm
      rw [txt_extract, List.drop_zero, Nat.sub_zero] at hoc
      have hst : lenN (txt s) most (s.size - k) k = if octB ((txt s).take (k + 1)) most then lenN (txt s) most (s.size - (k + 1)) (k + 1) else k := by
        have e : s.size - k = (s.size - (k + 1)) + 1 := by omega
        rw [e, lenN]
      cases hob : octB ((txt s).take (k + 1)) most with
      | true =>
        rw [hob] at hoc
        rw [hob, if_pos rfl] at hst
        have HE : Hid _ := HK.out.trans hst
        have HO : Hid _ := hoc
        clear hst hob hoc
        go_wp2_with fail
        refine Calls.mono HO.out ?_
        rintro e w' ⟨rfl, rfl⟩
        go_wp2
        exact ⟨⟨k + 1, by omega, by simp, HE.out⟩, by simp [intOf]; omega⟩
      | false =>
        rw [hob] at hoc
        rw [hob] at hst
        have HE : Hid (R = k) := HK.out.trans hst
        have HO : Hid _ := hoc
        clear hst hob hoc
        go_wp2_with fail
        refine Calls.mono HO.out ?_
        rintro e w' ⟨rfl, rfl⟩
        go_wp2
        go_ret
        exact ⟨by rw [HE.out]; rfl, rfl⟩
    · obtain rfl : k = s.size := by omega
      have HE : Hid (R = s.size) := HK.out.trans (by rw [Nat.sub_self]; rfl)
      clear HK
      go_wp2
      go_ret
      exact ⟨by rw [HE.out]; rfl, rfl⟩

end Go.Proofs.YtfiiopgdgfbkkaaDoor
