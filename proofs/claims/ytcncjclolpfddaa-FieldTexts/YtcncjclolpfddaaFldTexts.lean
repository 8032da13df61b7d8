/-
  The walk of the statement FieldTexts: any bits as letters, and any letters as bits.
-/
import Derived.Test.YtcncjclolpfddaaFldRref
namespace Go.Proofs.Ytcncjclolpfddaa
set_option linter.unusedVariables false
set_option linter.unusedSimpArgs false
open Go Go.RowKit
attribute [local go_sem] Oper.semAt_some

set_option maxHeartbeats 4000000 in
theorem fieldTexts_walk (a0 : Option Addr) (len0 cap0 : Nat) (z0 : List Int) (a1 : Int) (a2 : Int) (a3 : ByteArray) (w : World) (w0 : IsRowB w a0 len0 cap0 z0) (w1 : (Lit.int .i64 a1).wf = true) (w2 : (Lit.int .i64 a2).wf = true) (w3 : a3.size ≤ maxLen) :
    Calls Try.prog 6 #[.slice a0 len0 cap0, .int .i64 a1, .int .i64 a2, .string a3] w fun e w' => e = .returned (.bool true) ∧ Below w.heap.size w w' := by
  obtain ⟨p1, p2, p3⟩ := w0.bounds
  have hb := w0.bytes (min len0 200) (by omega) (by omega)
  have hl : (z0.take (min len0 200)).length ≤ 200 := by simp; omega
  have b1 := bounds_i64 w1
  have b2 := bounds_i64 w2
  unfold maxLen at w3
  clear w0 w1 w2
  generalize z0.take (min len0 200) = zs at *
  have hG := fun W (hW : Below w.heap.size w W) => text_calls _ zs a1 a2 W (hb.later hW) (by omega) b1 b2
  have hR := fun W (hW : Below w.heap.size w W) => Rtext_calls _ zs a1 a2 W (hb.later hW) (by omega) b1 b2
  have HG : Hid _ := hG
  have HR : Hid _ := hR
  clear hG hR hb
  generalize textV zs a1 a2 = gv at *
  generalize textE zs a1 a2 = ge at *
  have hcut := fun w => cut_calls a0 len0 cap0 w p1 p2 p3
  have HX : Hid _ := hcut
  clear hcut p1 p2 p3
  by_cases hbig : 300000 < a3.size
  · have hxs : (a3.extract 0 300000).size ≤ 300000 := by rw [ByteArray.size_extract]; omega
    have hP := fun w => read_calls _ hxs w
    have hQ := fun w => Rread_calls _ hxs w
    have HP : Hid _ := hP
    have HQ : Hid _ := hQ
    clear hP hQ
    go_enter Try.func6, Try.ntmps6
    go_wp2_with fail
    refine Calls.mono (HX.out _) ?_
    rintro e w' ⟨rfl, rfl⟩
    go_wp2_with fail
    refine Calls.mono (HG.out _ (Below.refl _ _)) ?_
    rintro e w1 ⟨rfl, hB1⟩
    go_wp2_with fail
    refine Calls.mono (HR.out _ hB1) ?_
    rintro e w2 ⟨rfl, hB2⟩
    have hB12 := hB1.trans (hB2.mono hB1.size)
    go_wp2_with fail
    refine Calls.mono (HP.out _) ?_
    rintro e w3 ⟨r3, bs, n3, i3, e3, rfl, hr3, hB3, his3⟩
    have hB13 := hB12.trans (hB3.mono hB12.size)
    go_wp2_with fail
    refine Calls.mono (HQ.out _) ?_
    rintro e w4 ⟨r4, bs', n4, i4, e4, rfl, hr4, hB4, his4⟩
    have hB14 := hB13.trans (hB4.mono hB13.size)
    obtain ⟨rfl, rfl, rfl, rfl⟩ := his3.uniq his4
    have t3 := (hr3.later hB4).text
    have t4 := hr4.text
    clear hr3 hr4 his3 his4 HG HR HP HQ HX
    generalize strOfNums bs = s at *
    go_wp2_with fail
    refine (alive_calls _).mono ?_
    rintro e w5 ⟨rfl, hB5⟩
    go_wp2
    go_ret
    exact ⟨rfl, hB14.trans (hB5.mono hB14.size)⟩
  · have hP := fun w => read_calls a3 (by omega) w
    have hQ := fun w => Rread_calls a3 (by omega) w
    have HP : Hid _ := hP
    have HQ : Hid _ := hQ
    clear hP hQ
    go_enter Try.func6, Try.ntmps6
    go_wp2_with fail
    refine Calls.mono (HX.out _) ?_
    rintro e w' ⟨rfl, rfl⟩
    go_wp2_with fail
    refine Calls.mono (HG.out _ (Below.refl _ _)) ?_
    rintro e w1 ⟨rfl, hB1⟩
    go_wp2_with fail
    refine Calls.mono (HR.out _ hB1) ?_
    rintro e w2 ⟨rfl, hB2⟩
    have hB12 := hB1.trans (hB2.mono hB1.size)
    go_wp2_with fail
    refine Calls.mono (HP.out _) ?_
    rintro e w3 ⟨r3, bs, n3, i3, e3, rfl, hr3, hB3, his3⟩
    have hB13 := hB12.trans (hB3.mono hB12.size)
    go_wp2_with fail
    refine Calls.mono (HQ.out _) ?_
    rintro e w4 ⟨r4, bs', n4, i4, e4, rfl, hr4, hB4, his4⟩
    have hB14 := hB13.trans (hB4.mono hB13.size)
    obtain ⟨rfl, rfl, rfl, rfl⟩ := his3.uniq his4
    have t3 := (hr3.later hB4).text
    have t4 := hr4.text
    clear hr3 hr4 his3 his4 HG HR HP HQ HX
    generalize strOfNums bs = s at *
    go_wp2_with fail
    refine (alive_calls _).mono ?_
    rintro e w5 ⟨rfl, hB5⟩
    go_wp2
    go_ret
    exact ⟨rfl, hB14.trans (hB5.mono hB14.size)⟩

end Go.Proofs.Ytcncjclolpfddaa
