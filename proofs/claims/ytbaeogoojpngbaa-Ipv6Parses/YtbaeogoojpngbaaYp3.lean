/-
  The document's reader: head of a header of another kind, at fault.
-/
import Derived.Test.YtbaeogoojpngbaaYp2
namespace Go.Proofs.Ytbaeogoojpngbaa
open Go Go.RowKit
set_option linter.unusedVariables false
set_option linter.unusedSimpArgs false

section
variable {W : World} {R V zb zo zl zc at' k1 vn vm : Nat} {bad pos kind : Int} {f : F6} {g : G6} {va : Option Addr} {vb : Value}
set_option maxHeartbeats 8000000 in
set_option maxRecDepth 100000 in
theorem head_short2 (h : W.heap[R]? = some (DBox (.slice (some ⟨zb, zo, none⟩) zl zc) at' bad pos)) (hv : W.heap[V]? = some (BV f g (.slice va vn vm) vb)) (hl : at' ≤ zl) (h8 : 8 ≤ zl - at') (hc : zl ≤ zc) (hz : zl ≤ 140737488351232) (hkind : kind ≠ 44)
    (hr1 : W.cell? ⟨zb, zo + at' + 1, none⟩ = some (.int .u8 (k1 : Int))) (hk1 : k1 < 256) (hs : zl - at' < 8 * (k1 + 1)) :
    Calls Try.prog 51 #[.pointer (some ⟨R, 0, none⟩), .pointer (some ⟨V, 0, none⟩), .int .u8 kind] W fun e w' => e = .returned (.tuple #[.int .u8 0, .bool false]) ∧ w'.heap[R]? = some (DBox (.slice (some ⟨zb, zo, none⟩) zl zc) at' 50 at') ∧ Sep (fun b => b = R) W w' := by
  have m0 : W.cell? ⟨R, 0, none⟩ = some (.slice (some ⟨zb, zo, none⟩) zl zc) := blk_cell h (j := 0) rfl
  have m1 : W.cell? ⟨R, 1, none⟩ = some (.int .i64 at') := blk_cell h (j := 1) rfl
  have q1 : decide ((zl : Int) - (at' : Int) < 8) = false := by simp; omega
  have i1 : at' ≤ zl := hl
  have i3 : at' < zc := by omega
  have i4 : (zc = at') = False := by simp; omega
  have q44 : (kind == 44) = false := by simp [hkind]
  have k35 := vb35 hv
  have HF : Hid (∀ W', W'.heap[R]? = some (DBox (.slice (some ⟨zb, zo, none⟩) zl zc) at' bad pos) → Calls Try.prog 52 #[.pointer (some ⟨R, 0, none⟩), .int .i64 50, .int .i64 at'] W' fun e' w' => e' = .returned (.bool false) ∧ w'.heap[R]? = some (DBox (.slice (some ⟨zb, zo, none⟩) zl zc) at' 50 at') ∧ Only R W' w') := fun W' h' => fail_calls h' 50 at'
  have HB : Hid (W.heap[R]? = some (DBox (.slice (some ⟨zb, zo, none⟩) zl zc) at' bad pos)) := h
  have q2 : decide (((zl - at' : Nat) : Int) < 8 * ((k1 : Int) + 1)) = true := by simp; omega
  have q2' : decide ((zl : Int) - (at' : Int) < 8 * ((k1 : Int) + 1)) = true := by simp; omega
  clear h hv hkind
  go_enter Try.func51, Try.ntmps51
  go_wp2_with fail
  go_region
  go_wp2_with fail
  go_region
  go_wp2_with fail
  refine Calls.mono (HF.out _ HB.out) ?_
  rintro e w' ⟨rfl, hh, ho⟩
  have HH : Hid _ := hh
  have HO : Hid (Sep (fun b => b = R) W w') := ((Sep.of_below (O := fun b => b = R) (Below.refl _ W).drew).drew).trans (Sep.of_only (O := fun b => b = R) ho rfl)
  clear hh ho
  go_wp2
  go_ret2
  exact ⟨rfl, HH.out, HO.out⟩
set_option maxHeartbeats 8000000 in
set_option maxRecDepth 100000 in
theorem head_fullA (h : W.heap[R]? = some (DBox (.slice (some ⟨zb, zo, none⟩) zl zc) at' bad pos)) (hv : W.heap[V]? = some (BV f g (.slice va vn vm) vb)) (hl : at' ≤ zl) (h8 : 8 ≤ zl - at') (hc : zl ≤ zc) (hz : zl ≤ 140737488351232) (hkind : kind ≠ 44)
    (hr1 : W.cell? ⟨zb, zo + at' + 1, none⟩ = some (.int .u8 (k1 : Int))) (hk1 : k1 < 256) (hs : 8 * (k1 + 1) ≤ zl - at') (hk0 : kind = 0) (hvn : 0 < vn) :
    Calls Try.prog 51 #[.pointer (some ⟨R, 0, none⟩), .pointer (some ⟨V, 0, none⟩), .int .u8 kind] W fun e w' => e = .returned (.tuple #[.int .u8 0, .bool false]) ∧ w'.heap[R]? = some (DBox (.slice (some ⟨zb, zo, none⟩) zl zc) at' 53 at') ∧ Sep (fun b => b = R) W w' := by
  have m0 : W.cell? ⟨R, 0, none⟩ = some (.slice (some ⟨zb, zo, none⟩) zl zc) := blk_cell h (j := 0) rfl
  have m1 : W.cell? ⟨R, 1, none⟩ = some (.int .i64 at') := blk_cell h (j := 1) rfl
  have q1 : decide ((zl : Int) - (at' : Int) < 8) = false := by simp; omega
  have i1 : at' ≤ zl := hl
  have i3 : at' < zc := by omega
  have i4 : (zc = at') = False := by simp; omega
  have q44 : (kind == 44) = false := by simp [hkind]
  have k35 := vb35 hv
  have HF : Hid (∀ W', W'.heap[R]? = some (DBox (.slice (some ⟨zb, zo, none⟩) zl zc) at' bad pos) → Calls Try.prog 52 #[.pointer (some ⟨R, 0, none⟩), .int .i64 53, .int .i64 at'] W' fun e' w' => e' = .returned (.bool false) ∧ w'.heap[R]? = some (DBox (.slice (some ⟨zb, zo, none⟩) zl zc) at' 53 at') ∧ Only R W' w') := fun W' h' => fail_calls h' 53 at'
  have HB : Hid (W.heap[R]? = some (DBox (.slice (some ⟨zb, zo, none⟩) zl zc) at' bad pos)) := h
  have q2 : decide (((zl - at' : Nat) : Int) < 8 * ((k1 : Int) + 1)) = false := by simp; omega
  have q2' : decide ((zl : Int) - (at' : Int) < 8 * ((k1 : Int) + 1)) = false := by simp; omega
  subst hk0
  have q3 : decide (0 < vn) = true := by simp [hvn]
  have q3' : decide ((0 : Int) < (vn : Int)) = true := by simp; omega
  clear h hv hkind
  go_enter Try.func51, Try.ntmps51
  go_wp2_with fail
  go_region
  go_wp2_with fail
  go_region
  go_wp2_with fail
  refine Calls.mono (HF.out _ HB.out) ?_
  rintro e w' ⟨rfl, hh, ho⟩
  have HH : Hid _ := hh
  have HO : Hid (Sep (fun b => b = R) W w') := ((Sep.of_below (O := fun b => b = R) (Below.refl _ W).drew).drew).trans (Sep.of_only (O := fun b => b = R) ho rfl)
  clear hh ho
  go_wp2
  go_ret2
  exact ⟨rfl, HH.out, HO.out⟩
set_option maxHeartbeats 8000000 in
set_option maxRecDepth 100000 in
theorem head_fullB (h : W.heap[R]? = some (DBox (.slice (some ⟨zb, zo, none⟩) zl zc) at' bad pos)) (hv : W.heap[V]? = some (BV f g (.slice va vn vm) vb)) (hl : at' ≤ zl) (h8 : 8 ≤ zl - at') (hc : zl ≤ zc) (hz : zl ≤ 140737488351232) (hkind : kind ≠ 44)
    (hr1 : W.cell? ⟨zb, zo + at' + 1, none⟩ = some (.int .u8 (k1 : Int))) (hk1 : k1 < 256) (hs : 8 * (k1 + 1) ≤ zl - at') (hvn : 8 ≤ vn) (hnn : ¬ (kind = 0 ∧ 0 < vn)) :
    Calls Try.prog 51 #[.pointer (some ⟨R, 0, none⟩), .pointer (some ⟨V, 0, none⟩), .int .u8 kind] W fun e w' => e = .returned (.tuple #[.int .u8 0, .bool false]) ∧ w'.heap[R]? = some (DBox (.slice (some ⟨zb, zo, none⟩) zl zc) at' 53 at') ∧ Sep (fun b => b = R) W w' := by
  have m0 : W.cell? ⟨R, 0, none⟩ = some (.slice (some ⟨zb, zo, none⟩) zl zc) := blk_cell h (j := 0) rfl
  have m1 : W.cell? ⟨R, 1, none⟩ = some (.int .i64 at') := blk_cell h (j := 1) rfl
  have q1 : decide ((zl : Int) - (at' : Int) < 8) = false := by simp; omega
  have i1 : at' ≤ zl := hl
  have i3 : at' < zc := by omega
  have i4 : (zc = at') = False := by simp; omega
  have q44 : (kind == 44) = false := by simp [hkind]
  have k35 := vb35 hv
  have HF : Hid (∀ W', W'.heap[R]? = some (DBox (.slice (some ⟨zb, zo, none⟩) zl zc) at' bad pos) → Calls Try.prog 52 #[.pointer (some ⟨R, 0, none⟩), .int .i64 53, .int .i64 at'] W' fun e' w' => e' = .returned (.bool false) ∧ w'.heap[R]? = some (DBox (.slice (some ⟨zb, zo, none⟩) zl zc) at' 53 at') ∧ Only R W' w') := fun W' h' => fail_calls h' 53 at'
  have HB : Hid (W.heap[R]? = some (DBox (.slice (some ⟨zb, zo, none⟩) zl zc) at' bad pos)) := h
  have q2 : decide (((zl - at' : Nat) : Int) < 8 * ((k1 : Int) + 1)) = false := by simp; omega
  have q2' : decide ((zl : Int) - (at' : Int) < 8 * ((k1 : Int) + 1)) = false := by simp; omega
  have q0 : (kind == 0) = false := by simp; intro e; exact hnn ⟨e, by omega⟩
  have q3 : decide (8 ≤ vn) = true := by simp [hvn]
  have q3' : decide ((8 : Int) ≤ (vn : Int)) = true := by simp; omega
  clear hnn
  clear h hv hkind
  go_enter Try.func51, Try.ntmps51
  go_wp2_with fail
  go_region
  go_wp2_with fail
  go_region
  go_wp2_with fail
  refine Calls.mono (HF.out _ HB.out) ?_
  rintro e w' ⟨rfl, hh, ho⟩
  have HH : Hid _ := hh
  have HO : Hid (Sep (fun b => b = R) W w') := ((Sep.of_below (O := fun b => b = R) (Below.refl _ W).drew).drew).trans (Sep.of_only (O := fun b => b = R) ho rfl)
  clear hh ho
  go_wp2
  go_ret2
  exact ⟨rfl, HH.out, HO.out⟩
end

end Go.Proofs.Ytbaeogoojpngbaa
