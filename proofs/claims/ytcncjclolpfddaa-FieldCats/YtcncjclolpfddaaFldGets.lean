/-
  The walk of the statement FieldGets: any bits of any bytes, and the bytes with others in their place.
-/
import Derived.Test.YtcncjclolpfddaaFldRput
namespace Go.Proofs.Ytcncjclolpfddaa
set_option linter.unusedVariables false
set_option linter.unusedSimpArgs false
open Go Go.RowKit
attribute [local go_sem] Oper.semAt_some

theorem own_fit (zs : List Int) (h : zs.all (fun z => decide (0 ≤ z) && decide (z < 256)) = true) : FitB zs := by
  intro z hz
  have := List.all_eq_true.1 h z hz
  simpa using this

theorem lit_bytes (w : World) : BytesAt (w.alloc (.cells #[.int .u8 171, .int .u8 205] 5)).heap.size (w.alloc (.cells #[.int .u8 171, .int .u8 205] 5)) (.slice (some ⟨w.heap.size, 0, none⟩) 2 2) [171, 205] :=
  ((own_new w [171, 205] #[.int .u8 171, .int .u8 205] (fun j hj => by
    match j, hj with
    | 0, _ => rfl
    | 1, _ => rfl
    | n + 2, hj => simp at hj; omega)).own (cap := 2) (own_fit _ (by decide)) (by simp)).bytes

theorem alive_get : getV [171, 205] 4 8 = 188 ∧ getE [171, 205] 4 8 = 0 ∧ putE [171, 205] 4 8 0 = 0 ∧ putL [171, 205] 4 8 0 = [160, 13] := by decide +kernel

theorem alive_g (w : World) : Calls Try.prog 10 #[.slice (some ⟨w.heap.size, 0, none⟩) 2 2, .int .i64 4, .int .i64 8] (w.alloc (.cells #[.int .u8 171, .int .u8 205] 5))
    fun e w' => e = .returned (.tuple #[.int .u64 188, .int .i64 0]) ∧ w' = w.alloc (.cells #[.int .u8 171, .int .u8 205] 5) := by
  have h := get_calls _ [171, 205] 4 8 _ (lit_bytes w) (by decide) (by decide)
  rw [alive_get.1, alive_get.2.1] at h
  exact h
theorem alive_p (w : World) : Calls Try.prog 12 #[.slice (some ⟨w.heap.size, 0, none⟩) 2 2, .int .i64 4, .int .i64 8, .int .u64 0] (w.alloc (.cells #[.int .u8 171, .int .u8 205] 5))
    fun e w' => ∃ r, e = .returned (.tuple #[r, .int .i64 0]) ∧ BytesAt w'.heap.size w' r [160, 13] ∧ Below w.heap.size w w' := by
  have h := put_calls _ [171, 205] 4 8 0 _ (lit_bytes w) (by decide) (by decide) (by decide)
  rw [alive_get.2.2.1, alive_get.2.2.2] at h
  refine Calls.mono h ?_
  rintro e w' ⟨r, rfl, hr, hB⟩
  have h1 := (Below.refl w.heap.size w).alloc (Nat.le_refl _) (.cells #[.int .u8 171, .int .u8 205] 5)
  exact ⟨r, rfl, hr, h1.trans (hB.mono h1.size)⟩

set_option maxHeartbeats 1000000 in
theorem alive_calls (w : World) : Calls Try.prog 14 #[] w fun e w' => e = .returned (.bool true) ∧ Below w.heap.size w w' := by
  go_enter Try.func14, Try.ntmps14
  go_wp2_with fail
  refine (alive_g w).mono ?_
  rintro e w1 ⟨rfl, rfl⟩
  have h1 := (Below.refl w.heap.size w).alloc (Nat.le_refl _) (.cells #[.int .u8 171, .int .u8 205] 5)
  generalize w.alloc (.cells #[.int .u8 171, .int .u8 205] 5) = w1 at *
  go_wp2_with fail
  refine (alive_p w1).mono ?_
  rintro e w2 ⟨r, rfl, hr, hB⟩
  have hx := hr.text
  have ht : strOfNums [160, 13] = ⟨#[160, 13]⟩ := by rfl
  rw [ht] at hx
  clear ht
  go_wp2
  go_ret
  exact ⟨rfl, h1.trans (hB.mono h1.size)⟩

theorem bounds_i64 {a : Int} (h : (Lit.int .i64 a).wf = true) : -9223372036854775808 ≤ a ∧ a ≤ 9223372036854775807 := by
  have e : IntKind.i64.min = -9223372036854775808 := rfl
  have h2 : IntKind.i64.min ≤ a ∧ a ≤ 9223372036854775807 := by simpa [Lit.wf] using h
  rwa [e] at h2

set_option maxHeartbeats 2000000 in
theorem fieldGets_walk (a0 : Option Addr) (len0 cap0 : Nat) (z0 : List Int) (a1 : Int) (a2 : Int) (a3 : Int) (w : World) (w0 : IsRowB w a0 len0 cap0 z0) (w1 : (Lit.int .i64 a1).wf = true) (w2 : (Lit.int .i64 a2).wf = true) (w3 : (Lit.int .u64 a3).wf = true) :
    Calls Try.prog 3 #[.slice a0 len0 cap0, .int .i64 a1, .int .i64 a2, .int .u64 a3] w fun e w' => e = .returned (.bool true) ∧ Below w.heap.size w w' := by
  obtain ⟨p1, p2, p3⟩ := w0.bounds
  have hb := w0.bytes (min len0 200) (by omega) (by omega)
  have hl : (z0.take (min len0 200)).length ≤ 200 := by simp; omega
  have b1 := bounds_i64 w1
  have b2 := bounds_i64 w2
  have b3 := bounds_u64 w3
  obtain ⟨v, rfl⟩ := Int.eq_ofNat_of_zero_le b3.1
  clear w0 w1 w2 w3
  generalize z0.take (min len0 200) = zs at *
  have hG := fun W (hW : Below w.heap.size w W) => get_calls _ zs a1 a2 W (hb.later hW) b1 b2
  have hR := fun W (hW : Below w.heap.size w W) => Rget_calls _ zs a1 a2 W (hb.later hW) b1 b2
  have hP := fun W (hW : Below w.heap.size w W) => put_calls _ zs a1 a2 v W (hb.later hW) b1 b2 (by omega)
  have hQ := fun W (hW : Below w.heap.size w W) => Rput_calls _ zs a1 a2 v W (hb.later hW) (by omega) b1 b2 (by omega)
  have HG : Hid _ := hG
  have HR : Hid _ := hR
  have HP : Hid _ := hP
  have HQ : Hid _ := hQ
  clear hG hR hP hQ hb
  generalize getV zs a1 a2 = gv at *
  generalize getE zs a1 a2 = ge at *
  generalize putL zs a1 a2 v = pl at *
  generalize putE zs a1 a2 v = pe at *
  go_enter Try.func3, Try.ntmps3
  go_wp2_with fail
  refine (cut_calls a0 len0 cap0 _ p1 p2 p3).mono ?_
  rintro e w' ⟨rfl, rfl⟩
  go_wp2_with fail
  refine Calls.mono (HG.out _ (Below.refl _ _)) ?_
  rintro e w1 ⟨rfl, rfl⟩
  go_wp2_with fail
  refine Calls.mono (HR.out _ (Below.refl _ _)) ?_
  rintro e w2 ⟨rfl, rfl⟩
  go_wp2_with fail
  refine Calls.mono (HP.out _ (Below.refl _ _)) ?_
  rintro e w3 ⟨r3, rfl, hr3, hB3⟩
  go_wp2_with fail
  refine Calls.mono (HQ.out _ hB3) ?_
  rintro e w4 ⟨r4, rfl, hr4, hB4⟩
  have t3 := (hr3.later hB4).text
  have t4 := hr4.text
  have hB := hB3.trans (hB4.mono hB3.size)
  clear hr3 hr4 HG HR HP HQ hB3 hB4
  generalize strOfNums pl = s at *
  go_wp2_with fail
  refine (alive_calls _).mono ?_
  rintro e w5 ⟨rfl, hB5⟩
  go_wp2
  go_ret
  exact ⟨rfl, hB.trans (hB5.mono hB.size)⟩

end Go.Proofs.Ytcncjclolpfddaa
