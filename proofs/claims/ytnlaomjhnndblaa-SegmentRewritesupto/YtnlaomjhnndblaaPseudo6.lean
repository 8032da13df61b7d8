/-
  The contracts of package sum's Pseudo6 and of the document's answer for it.
-/
import Derived.Test.YtnlaomjhnndblaaPseudo
namespace Go.Proofs.Ytnlaomjhnndblaa
open Go Go.RowKit Go.Shelf

set_option maxRecDepth 10000 in
set_option maxHeartbeats 2000000 in
theorem pseudo6_calls (a0 a1 a2 a3 a4 a5 a6 a7 a8 a9 a10 a11 a12 a13 a14 a15 b0 b1 b2 b3 b4 b5 b6 b7 b8 b9 b10 b11 b12 b13 b14 b15 p n : Int) (ha : Fit [a0, a1, a2, a3, a4, a5, a6, a7, a8, a9, a10, a11, a12, a13, a14, a15]) (hb : Fit [b0, b1, b2, b3, b4, b5, b6, b7, b8, b9, b10, b11, b12, b13, b14, b15]) (hp : 0 ≤ p ∧ p < 256) (hn : 0 ≤ n ∧ n ≤ 65535) (w : World) :
    Calls Try.prog 76 #[.agg #[.int .u8 a0, .int .u8 a1, .int .u8 a2, .int .u8 a3, .int .u8 a4, .int .u8 a5, .int .u8 a6, .int .u8 a7, .int .u8 a8, .int .u8 a9, .int .u8 a10, .int .u8 a11, .int .u8 a12, .int .u8 a13, .int .u8 a14, .int .u8 a15], .agg #[.int .u8 b0, .int .u8 b1, .int .u8 b2, .int .u8 b3, .int .u8 b4, .int .u8 b5, .int .u8 b6, .int .u8 b7, .int .u8 b8, .int .u8 b9, .int .u8 b10, .int .u8 b11, .int .u8 b12, .int .u8 b13, .int .u8 b14, .int .u8 b15], .int .u8 p, .int .i64 n] w fun e w' =>
      ∃ v, e = .returned (.tuple #[v, .int .i64 0]) ∧ BytesAt w'.heap.size w' v [a0, a1, a2, a3, a4, a5, a6, a7, a8, a9, a10, a11, a12, a13, a14, a15, b0, b1, b2, b3, b4, b5, b6, b7, b8, b9, b10, b11, b12, b13, b14, b15, 0, 0, n / 256, n % 256, 0, 0, 0, p] ∧ Below w.heap.size w w' := by
  obtain ⟨i, hi, hz, hs, hby⟩ := info_parts info_u8
  have h2 := bytes_two w 25 25 [a0, a1, a2, a3, a4, a5, a6, a7, a8, a9, a10, a11, a12, a13, a14, a15] [b0, b1, b2, b3, b4, b5, b6, b7, b8, b9, b10, b11, b12, b13, b14, b15] #[.int .u8 a0, .int .u8 a1, .int .u8 a2, .int .u8 a3, .int .u8 a4, .int .u8 a5, .int .u8 a6, .int .u8 a7, .int .u8 a8, .int .u8 a9, .int .u8 a10, .int .u8 a11, .int .u8 a12, .int .u8 a13, .int .u8 a14, .int .u8 a15] #[.int .u8 b0, .int .u8 b1, .int .u8 b2, .int .u8 b3, .int .u8 b4, .int .u8 b5, .int .u8 b6, .int .u8 b7, .int .u8 b8, .int .u8 b9, .int .u8 b10, .int .u8 b11, .int .u8 b12, .int .u8 b13, .int .u8 b14, .int .u8 b15] 16 16 rfl rfl rfl rfl (by decide) (by decide) ha hb
  have hB0 : Below w.heap.size w ((w.alloc (.cells #[.int .u8 a0, .int .u8 a1, .int .u8 a2, .int .u8 a3, .int .u8 a4, .int .u8 a5, .int .u8 a6, .int .u8 a7, .int .u8 a8, .int .u8 a9, .int .u8 a10, .int .u8 a11, .int .u8 a12, .int .u8 a13, .int .u8 a14, .int .u8 a15] 25)).alloc (.cells #[.int .u8 b0, .int .u8 b1, .int .u8 b2, .int .u8 b3, .int .u8 b4, .int .u8 b5, .int .u8 b6, .int .u8 b7, .int .u8 b8, .int .u8 b9, .int .u8 b10, .int .u8 b11, .int .u8 b12, .int .u8 b13, .int .u8 b14, .int .u8 b15] 25)) := ((Below.refl _ w).alloc (Nat.le_refl _) _).alloc (by simp) _
  go_enter Try.func76, Try.ntmps76
  go_wp2_with fail
  refine (fits_yes n hn _).mono ?_
  rintro e w' ⟨rfl, rfl⟩
  generalize ((w.alloc (.cells #[.int .u8 a0, .int .u8 a1, .int .u8 a2, .int .u8 a3, .int .u8 a4, .int .u8 a5, .int .u8 a6, .int .u8 a7, .int .u8 a8, .int .u8 a9, .int .u8 a10, .int .u8 a11, .int .u8 a12, .int .u8 a13, .int .u8 a14, .int .u8 a15] 25)).alloc (.cells #[.int .u8 b0, .int .u8 b1, .int .u8 b2, .int .u8 b3, .int .u8 b4, .int .u8 b5, .int .u8 b6, .int .u8 b7, .int .u8 b8, .int .u8 b9, .int .u8 b10, .int .u8 b11, .int .u8 b12, .int .u8 b13, .int .u8 b14, .int .u8 b15] 25)) = W0 at *
  obtain ⟨hS, hD⟩ := h2
  have HS : Hid _ := hS
  have HD : Hid _ := hD
  have HP : Hid (Fit [0, 0, n / 256, n % 256]) := by
    intro z hz
    simp at hz
    omega
  have HN : Hid (Fit [0, 0, 0, p]) := by
    intro z hz
    simp at hz
    omega
  have HP2 := HP
  have HN2 := HN
  clear hS hD
  go_wp2_with (first
    | (at_make; refine wpList_make_own _ rfl _ _ _ rfl W0.heap.size 5 i (.int .u8 0) 1 Try.underlying29 hi hz hs .i64 .i64 40 40 rfl rfl rfl (by rw [hby]; decide) (by decide) (Nat.le_refl _) ?_; intro X hown hgr; have hG : Grow W0 _ [] X := ⟨hown, (Below.refl _ W0).grown hgr (Nat.le_refl _) (fun k hk => by cases hk)⟩; clear hown hgr)
    | (at_builtin; refine wpList_append_ex rfl _ _ _ _ rfl rfl rfl (hG.arr HS.out (by simp) _) ?_; clear HS hG; rintro v1 X1 hG1)
    | (at_builtin; refine wpList_append_ex rfl _ _ _ _ rfl rfl rfl (hG1.arr HD.out (by simp) _) ?_; clear HD hG1; rintro v2 X2 hG2)
    | (at_builtin; refine wpList_append_ex rfl _ _ _ _ rfl rfl rfl (hG2.lit [0, 0, n / 256, n % 256] _ rfl HP.out (by simp) _ rfl _) ?_; clear HP hG2; rintro v3 X3 hG3)
    | (at_builtin; refine wpList_append_ex rfl _ _ _ _ rfl rfl rfl (hG3.lit [0, 0, 0, p] _ rfl HN.out (by simp) _ rfl _) ?_; clear HN hG3; rintro v4 X4 hG4))
  go_ret2
  refine ⟨v4, rfl, hG4.bytes (ha.append (hb.append (HP2.out.append HN2.out))), hB0.trans (hG4.below.mono hB0.size)⟩

set_option maxRecDepth 10000 in
set_option maxHeartbeats 2000000 in
theorem pseudo6_ref (a0 a1 a2 a3 a4 a5 a6 a7 a8 a9 a10 a11 a12 a13 a14 a15 b0 b1 b2 b3 b4 b5 b6 b7 b8 b9 b10 b11 b12 b13 b14 b15 p n : Int) (ha : Fit [a0, a1, a2, a3, a4, a5, a6, a7, a8, a9, a10, a11, a12, a13, a14, a15]) (hb : Fit [b0, b1, b2, b3, b4, b5, b6, b7, b8, b9, b10, b11, b12, b13, b14, b15]) (hp : 0 ≤ p ∧ p < 256) (hn : 0 ≤ n ∧ n ≤ 65535) (w : World) :
    Calls Try.prog 69 #[.agg #[.int .u8 a0, .int .u8 a1, .int .u8 a2, .int .u8 a3, .int .u8 a4, .int .u8 a5, .int .u8 a6, .int .u8 a7, .int .u8 a8, .int .u8 a9, .int .u8 a10, .int .u8 a11, .int .u8 a12, .int .u8 a13, .int .u8 a14, .int .u8 a15], .agg #[.int .u8 b0, .int .u8 b1, .int .u8 b2, .int .u8 b3, .int .u8 b4, .int .u8 b5, .int .u8 b6, .int .u8 b7, .int .u8 b8, .int .u8 b9, .int .u8 b10, .int .u8 b11, .int .u8 b12, .int .u8 b13, .int .u8 b14, .int .u8 b15], .int .u8 p, .int .i64 n] w fun e w' =>
      ∃ v, e = .returned (.tuple #[v, .int .i64 0]) ∧ BytesAt w'.heap.size w' v [a0, a1, a2, a3, a4, a5, a6, a7, a8, a9, a10, a11, a12, a13, a14, a15, b0, b1, b2, b3, b4, b5, b6, b7, b8, b9, b10, b11, b12, b13, b14, b15, 0, 0, n / 256, n % 256, 0, 0, 0, p] ∧ Below w.heap.size w w' := by
  have h2 := bytes_two w 24 24 [a0, a1, a2, a3, a4, a5, a6, a7, a8, a9, a10, a11, a12, a13, a14, a15] [b0, b1, b2, b3, b4, b5, b6, b7, b8, b9, b10, b11, b12, b13, b14, b15] #[.int .u8 a0, .int .u8 a1, .int .u8 a2, .int .u8 a3, .int .u8 a4, .int .u8 a5, .int .u8 a6, .int .u8 a7, .int .u8 a8, .int .u8 a9, .int .u8 a10, .int .u8 a11, .int .u8 a12, .int .u8 a13, .int .u8 a14, .int .u8 a15] #[.int .u8 b0, .int .u8 b1, .int .u8 b2, .int .u8 b3, .int .u8 b4, .int .u8 b5, .int .u8 b6, .int .u8 b7, .int .u8 b8, .int .u8 b9, .int .u8 b10, .int .u8 b11, .int .u8 b12, .int .u8 b13, .int .u8 b14, .int .u8 b15] 16 16 rfl rfl rfl rfl (by decide) (by decide) ha hb
  have hB0 : Below w.heap.size w ((w.alloc (.cells #[.int .u8 a0, .int .u8 a1, .int .u8 a2, .int .u8 a3, .int .u8 a4, .int .u8 a5, .int .u8 a6, .int .u8 a7, .int .u8 a8, .int .u8 a9, .int .u8 a10, .int .u8 a11, .int .u8 a12, .int .u8 a13, .int .u8 a14, .int .u8 a15] 24)).alloc (.cells #[.int .u8 b0, .int .u8 b1, .int .u8 b2, .int .u8 b3, .int .u8 b4, .int .u8 b5, .int .u8 b6, .int .u8 b7, .int .u8 b8, .int .u8 b9, .int .u8 b10, .int .u8 b11, .int .u8 b12, .int .u8 b13, .int .u8 b14, .int .u8 b15] 24)) := ((Below.refl _ w).alloc (Nat.le_refl _) _).alloc (by simp) _
  have hd0 : decide (n < 0) = false := decide_eq_false (by omega)
  have hd1 : decide (65535 < n) = false := decide_eq_false (by omega)
  go_enter Try.func69, Try.ntmps69
  go_wp2_with fail
  generalize ((w.alloc (.cells #[.int .u8 a0, .int .u8 a1, .int .u8 a2, .int .u8 a3, .int .u8 a4, .int .u8 a5, .int .u8 a6, .int .u8 a7, .int .u8 a8, .int .u8 a9, .int .u8 a10, .int .u8 a11, .int .u8 a12, .int .u8 a13, .int .u8 a14, .int .u8 a15] 24)).alloc (.cells #[.int .u8 b0, .int .u8 b1, .int .u8 b2, .int .u8 b3, .int .u8 b4, .int .u8 b5, .int .u8 b6, .int .u8 b7, .int .u8 b8, .int .u8 b9, .int .u8 b10, .int .u8 b11, .int .u8 b12, .int .u8 b13, .int .u8 b14, .int .u8 b15] 24)) = W0 at *
  obtain ⟨hS, hD⟩ := h2
  have HS : Hid _ := hS
  have HD : Hid _ := hD
  have HP : Hid (Fit [0, 0, n / 256, n % 256, 0, 0, 0, p]) := by
    intro z hz
    simp at hz
    omega
  clear hS hD
  have HP2 := HP
  go_region_law (first
    | (refine step_append_ex rfl _ _ _ _ rfl rfl rfl (Grow.arr (Grow.drew (grow_start _)) HS.out (by simp) _) ?_; intro v1 X1 hG1)
    | (refine step_append_ex rfl _ _ _ _ rfl rfl rfl (Grow.arr hG1 HD.out (by simp) _) ?_; intro v2 X2 hG2))
  go_wp2_with (at_builtin; refine wpList_append_ex rfl _ _ _ _ rfl rfl rfl (hG2.lit [0, 0, n / 256, n % 256, 0, 0, 0, p] _ rfl HP.out (by simp) _ rfl _) ?_; clear HP hG2; rintro v4 X4 hG4)
  go_ret2
  refine ⟨v4, rfl, hG4.bytes (ha.append (hb.append HP2.out)), hB0.trans (hG4.below.mono hB0.size)⟩

end Go.Proofs.Ytnlaomjhnndblaa
