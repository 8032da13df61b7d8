/-
  The walk of the statement FieldLeads: how many first bits of two rows are alike, and a row whose bits from a place on are 0.
-/
import Derived.Test.YtcncjclolpfddaaFldClrw
namespace Go.Proofs.Ytcncjclolpfddaa
set_option linter.unusedVariables false
set_option linter.unusedSimpArgs false
open Go Go.RowKit
attribute [local go_sem] Oper.semAt_some

theorem BytesAt.lenEq {n₀ : Nat} {w : World} {a : Option Addr} {n cap : Nat} {zs : List Int} (h : BytesAt n₀ w (.slice a n cap) zs) : zs.length = n := by
  obtain ⟨_, _, _, _, e, _⟩ := h
  injection e with _ e2 _
  exact e2.symm

set_option maxHeartbeats 4000000 in
theorem fieldLeads_walk (a0 : Option Addr) (len0 cap0 : Nat) (z0 : List Int) (a1 : Option Addr) (len1 cap1 : Nat) (z1 : List Int) (a2 : Int) (w : World) (w0 : IsRowB w a0 len0 cap0 z0) (w1 : IsRowB w a1 len1 cap1 z1) (w2 : (Lit.int .i64 a2).wf = true) :
    Calls Try.prog 4 #[.slice a0 len0 cap0, .slice a1 len1 cap1, .int .i64 a2] w fun e w' => e = .returned (.bool true) ∧ Below w.heap.size w w' := by
  obtain ⟨p1, p2, p3⟩ := w0.bounds
  obtain ⟨q1, q2, q3⟩ := w1.bounds
  have hb := w0.bytes (min len0 200) (by omega) (by omega)
  have gb := w1.bytes (min len1 200) (by omega) (by omega)
  have b2 := bounds_i64 w2
  have hzl : (z0.take (min len0 200)).length = min len0 200 := hb.lenEq
  have gzl : (z1.take (min len1 200)).length = min len1 200 := gb.lenEq
  clear w0 w1 w2
  generalize z0.take (min len0 200) = zs at *
  generalize z1.take (min len1 200) = ys at *
  have hm0 : min len0 200 ≤ len0 := by omega
  have hm1 : min len1 200 ≤ len1 := by omega
  have hm2 : min len0 200 ≤ 200 := by omega
  have hcut0 := fun w => cut_calls a0 len0 cap0 w p1 p2 p3
  have hcut1 := fun w => cut_calls a1 len1 cap1 w q1 q2 q3
  generalize min len0 200 = n0 at *
  generalize min len1 200 = n1 at *
  subst hzl gzl
  have hS := fun W (hW : Below w.heap.size w W) => same_calls a0 a1 cap0 cap1 zs ys a2 W (hb.later hW) (gb.later hW) (by omega) p3 (by omega) q3 b2
  have hR := fun W (hW : Below w.heap.size w W) => Rsame_calls _ _ zs ys a2 W (hb.later hW) (gb.later hW) b2
  have hC := fun W (hW : Below w.heap.size w W) => clear_calls a0 cap0 zs a2 W (hb.later hW) (by omega) p3 b2
  have hD := fun W (hW : Below w.heap.size w W) => Rclear_calls _ zs a2 W (hb.later hW) (by omega) b2
  have hL := fun W (hW : Below w.heap.size w W) => lead_calls _ _ zs ys W (hb.later hW) (gb.later hW)
  have hM := fun W (hW : Below w.heap.size w W) => Rlead_calls _ _ zs ys W (hb.later hW) (gb.later hW)
  have HS : Hid _ := hS
  have HR : Hid _ := hR
  have HC : Hid _ := hC
  have HD : Hid _ := hD
  have HL : Hid _ := hL
  have HM : Hid _ := hM
  have HX : Hid _ := hcut0
  have HY : Hid _ := hcut1
  clear hS hR hC hD hL hM hb gb hcut0 hcut1 p1 p2 p3 q1 q2 q3 hm0 hm1
  generalize sameB zs ys a2 = sb at *
  generalize sameE zs ys a2 = se at *
  generalize clrL zs a2 = cl at *
  generalize clrE zs a2 = ce at *
  go_enter Try.func4, Try.ntmps4
  go_wp2_with fail
  refine Calls.mono (HX.out _) ?_
  rintro e w' ⟨rfl, rfl⟩
  go_wp2_with fail
  refine Calls.mono (HY.out _) ?_
  rintro e w'' ⟨rfl, rfl⟩
  go_wp2_with fail
  refine Calls.mono (HS.out _ (Below.refl _ _)) ?_
  rintro e w1 ⟨rfl, hB1⟩
  go_wp2_with fail
  refine Calls.mono (HR.out _ hB1) ?_
  rintro e w2 ⟨rfl, rfl⟩
  go_wp2_with fail
  refine Calls.mono (HC.out _ hB1) ?_
  rintro e w3 ⟨r3, rfl, hr3, hB3⟩
  have hB13 := hB1.trans (hB3.mono hB1.size)
  go_wp2_with fail
  refine Calls.mono (HD.out _ hB13) ?_
  rintro e w4 ⟨r4, rfl, hr4, hB4⟩
  have hB14 := hB13.trans (hB4.mono hB13.size)
  have t3 := (hr3.later hB4).text
  have t4 := hr4.text
  generalize strOfNums cl = s at *
  go_wp2_with fail
  refine Calls.mono (HL.out _ hB14) ?_
  rintro e w5 ⟨k5, hk5, rfl, hB5⟩
  have hB15 := hB14.trans (hB5.mono hB14.size)
  go_wp2_with fail
  refine Calls.mono (HM.out _ hB15) ?_
  rintro e w6 ⟨k6, hk6, rfl, rfl⟩
  obtain rfl := hk5.uniq hk6
  clear HS HR HC HD HL HM hk5 hk6 t3 t4 hr3 hr4
  go_wp2_with fail
  refine (alive_calls _).mono ?_
  rintro e w7 ⟨rfl, hB7⟩
  go_wp2
  go_ret
  exact ⟨rfl, hB15.trans (hB7.mono hB15.size)⟩

end Go.Proofs.Ytcncjclolpfddaa
