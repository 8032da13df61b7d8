/-
  The document's reader: fail; the first tests of head.
  The document's reader: head of a fragment header.
  The document's reader: head of a header of another kind, at fault.
-/
import Derived.Test.YtbaeogoojpngbaaYj
import Derived.BigRegion
namespace Go.Proofs.Ytbaeogoojpngbaa
open Go Go.RowKit
set_option linter.unusedVariables false
set_option linter.unusedSimpArgs false

abbrev DBox (b : Value) (at' bad pos : Int) : Obj := .cells [b, .int .i64 at', .int .i64 bad, .int .i64 pos].toArray 84
section
variable {W : World} {R : Nat} {b : Value} {at' bad pos : Int}
set_option maxHeartbeats 1000000 in
set_option maxRecDepth 100000 in
theorem fail_calls (h : W.heap[R]? = some (DBox b at' bad pos)) (e a : Int) :
    Calls Try.prog 52 #[.pointer (some ⟨R, 0, none⟩), .int .i64 e, .int .i64 a] W fun e' w' => e' = .returned (.bool false) ∧ w'.heap[R]? = some (DBox b at' e a) ∧ Only R W w' := by
  have m2 : W.cell? ⟨R, 2, none⟩ = some (.int .i64 bad) := blk_cell h (j := 2) rfl
  have m3 : W.cell? ⟨R, 3, none⟩ = some (.int .i64 pos) := blk_cell h (j := 3) rfl
  have o2 := blk_open h 2
  have o3 := blk_open h 3
  have h1 := blk_set h 2 (.int .i64 e)
  have h2 := blk_set h1 3 (.int .i64 a)
  have n3 : (W.setCell ⟨R, 2, none⟩ (.int .i64 e)).cell? ⟨R, 3, none⟩ = some (.int .i64 pos) := blk_cell h1 (j := 3) rfl
  have o3' := blk_open h1 3
  have HH : Hid (((W.setCell ⟨R, 2, none⟩ (.int .i64 e)).setCell ⟨R, 3, none⟩ (.int .i64 a)).heap[R]? = some (DBox b at' e a)) := h2
  have HO : Hid (Only R W ((W.setCell ⟨R, 2, none⟩ (.int .i64 e)).setCell ⟨R, 3, none⟩ (.int .i64 a))) := ((Only.refl R W).set 2 _).set 3 _
  clear h h1 h2
  go_enter Try.func52, Try.ntmps52
  go_wp2
  go_ret
  exact ⟨rfl, HH.out, HO.out⟩
end
section
variable {W : World} {R V : Nat} {zb zo zl zc at' : Nat} {bad pos kind : Int} 
set_option maxHeartbeats 4000000 in
set_option maxRecDepth 100000 in
theorem head_short (h : W.heap[R]? = some (DBox (.slice (some ⟨zb, zo, none⟩) zl zc) at' bad pos)) (hl : at' ≤ zl) (h8 : zl - at' < 8) (hz : zl ≤ 140737488351232) :
    Calls Try.prog 51 #[.pointer (some ⟨R, 0, none⟩), .pointer (some ⟨V, 0, none⟩), .int .u8 kind] W fun e w' => e = .returned (.tuple #[.int .u8 0, .bool false]) ∧ w'.heap[R]? = some (DBox (.slice (some ⟨zb, zo, none⟩) zl zc) at' 50 at') ∧ Sep (fun b => b = R) W w' := by
  have m0 : W.cell? ⟨R, 0, none⟩ = some (.slice (some ⟨zb, zo, none⟩) zl zc) := blk_cell h (j := 0) rfl
  have m1 : W.cell? ⟨R, 1, none⟩ = some (.int .i64 at') := blk_cell h (j := 1) rfl
  have q1 : decide ((zl : Int) - (at' : Int) < 8) = true := by simp; omega
  have HF : Hid (∀ W', W'.heap[R]? = some (DBox (.slice (some ⟨zb, zo, none⟩) zl zc) at' bad pos) → Calls Try.prog 52 #[.pointer (some ⟨R, 0, none⟩), .int .i64 50, .int .i64 at'] W' fun e' w' => e' = .returned (.bool false) ∧ w'.heap[R]? = some (DBox (.slice (some ⟨zb, zo, none⟩) zl zc) at' 50 at') ∧ Only R W' w') := fun W' h' => fail_calls h' 50 at'
  have HB : Hid (W.heap[R]? = some (DBox (.slice (some ⟨zb, zo, none⟩) zl zc) at' bad pos)) := h
  clear h
  go_enter Try.func51, Try.ntmps51
  go_wp2_with fail
  go_region
  go_wp2_with fail
  refine Calls.mono (HF.out _ HB.out) ?_
  rintro e w' ⟨rfl, hh, ho⟩
  have HH : Hid _ := hh
  have HO : Hid (Sep (fun b => b = R) W w') := (Sep.of_below (Below.refl _ W).drew).trans (Sep.of_only (O := fun b => b = R) ho rfl)
  clear hh ho
  go_wp2
  go_ret2
  exact ⟨rfl, HH.out, HO.out⟩
theorem vs40 {W : World} {b : Nat} {f : F6} {g : G6} {vh vb : Value} (h : W.heap[b]? = some (BV f g vh vb)) (x : Int) : (W.setCell ⟨b, 40, none⟩ (.int .u8 x)).heap[b]? = some (BV { f with proto := x } g vh vb) := by
  rw [blk_set h, vC_set 5]; rfl
end

end Go.Proofs.Ytbaeogoojpngbaa

namespace Go.Proofs.Ytbaeogoojpngbaa
open Go Go.RowKit
set_option linter.unusedVariables false
set_option linter.unusedSimpArgs false

section
variable {W : World} {R V zb zo zl zc at' : Nat} {bad pos : Int} {f : F6} {g : G6} {vh vb : Value} {rest : List Int}
set_option maxHeartbeats 8000000 in
set_option maxRecDepth 100000 in
theorem head_frag (h : W.heap[R]? = some (DBox (.slice (some ⟨zb, zo, none⟩) zl zc) at' bad pos)) (hv : W.heap[V]? = some (BV f g vh vb)) (hl : at' ≤ zl) (h8 : 8 ≤ zl - at') (hc : zl ≤ zc) (hz : zl ≤ 140737488351232) (hfit : Fit rest)
    (hrest : ∀ j, j < 8 → W.cell? ⟨zb, zo + at' + j, none⟩ = some (.int .u8 (gz rest j))) (hRV : R ≠ V) (hzR : zb ≠ R) (hzV : zb ≠ V) :
    Calls Try.prog 51 #[.pointer (some ⟨R, 0, none⟩), .pointer (some ⟨V, 0, none⟩), .int .u8 44] W fun e w' => e = .returned (.tuple #[.int .u8 0, .bool true]) ∧ w'.heap[R]? = some (DBox (.slice (some ⟨zb, zo, none⟩) zl zc) (at' + 8 : Nat) bad pos) ∧ w'.heap[V]? = some (BV { f with proto := gz rest 0 } ⟨true, gz rest 4 * 16777216 + gz rest 5 * 65536 + gz rest 6 * 256 + gz rest 7, gz rest 2 * 32 + gz rest 3 / 8, decide (gz rest 3 % 2 = 1)⟩ vh vb) ∧ Sep (fun b => b = R ∨ b = V) W w' := by
  have m0 : W.cell? ⟨R, 0, none⟩ = some (.slice (some ⟨zb, zo, none⟩) zl zc) := blk_cell h (j := 0) rfl
  have m1 : W.cell? ⟨R, 1, none⟩ = some (.int .i64 at') := blk_cell h (j := 1) rfl
  have q1 : decide ((zl : Int) - (at' : Int) < 8) = false := by simp; omega
  have i1 : at' ≤ zl := hl
  have i3 : at' < zc := by omega
  have i4 : (zc = at') = False := by simp; omega
  have k36 := vb36 hv
  have k37 := vb37 hv
  have k38 := vb38 hv
  have k39 := vb39 hv
  have k40 := vb40 hv
  have o36 := blk_open hv 36
  have o37 := blk_open hv 37
  have o38 := blk_open hv 38
  have o39 := blk_open hv 39
  have o40 := blk_open hv 40
  have hz0 : ∀ (X : World), X.heap[zb]? = W.heap[zb]? → ∀ j, j < 8 → X.cell? ⟨zb, zo + at' + j, none⟩ = some (.int .u8 (gz rest j)) := fun X hX j hj => by rw [← hrest j hj]; simp [World.cell?, hX]
  have f0 := gz_fit hfit 0
  have f2 := gz_fit hfit 2
  have f3 := gz_fit hfit 3
  have f4 := gz_fit hfit 4
  have f5 := gz_fit hfit 5
  have f6 := gz_fit hfit 6
  have f7 := gz_fit hfit 7
  obtain ⟨W1, hW1⟩ : ∃ W1, W1 = (W.setCell ⟨V, 36, none⟩ (.bool true)).setCell ⟨V, 40, none⟩ (.int .u8 (gz rest 0)) := ⟨_, rfl⟩
  have hn1 : Only V W W1 := by rw [hW1]; exact ((Only.refl V W).set 36 _).set 40 _
  have hv1 : W1.heap[V]? = some (BV { f with proto := gz rest 0 } { g with fr := true } vh vb) := by rw [hW1]; exact vs40 (vs36 hv true) (gz rest 0)
  obtain ⟨W2, hW2⟩ : ∃ W2, W2 = (W1.setCell ⟨V, 38, none⟩ (.int .i64 (gz rest 2 * 32 + gz rest 3 / 8))).setCell ⟨V, 39, none⟩ (.bool ((gz rest 3 % 2 == 1))) := ⟨_, rfl⟩
  have hn2 : Only V W1 W2 := by rw [hW2]; exact ((Only.refl V W1).set 38 _).set 39 _
  have hv2 : W2.heap[V]? = some (BV { f with proto := gz rest 0 } { g with fr := true, off := gz rest 2 * 32 + gz rest 3 / 8, more := (gz rest 3 % 2 == 1) } vh vb) := by rw [hW2]; exact vs39 (vs38 hv1 _) _
  obtain ⟨W3, hW3⟩ : ∃ W3, W3 = W2.setCell ⟨V, 37, none⟩ (.int .u32 (gz rest 4 * 16777216 + gz rest 5 * 65536 + gz rest 6 * 256 + gz rest 7)) := ⟨_, rfl⟩
  have hn3 : Only V W2 W3 := by rw [hW3]; exact (Only.refl V W2).set 37 _
  have hv3 : W3.heap[V]? = some (BV { f with proto := gz rest 0 } ⟨true, gz rest 4 * 16777216 + gz rest 5 * 65536 + gz rest 6 * 256 + gz rest 7, gz rest 2 * 32 + gz rest 3 / 8, (gz rest 3 % 2 == 1)⟩ vh vb) := by rw [hW3]; exact vs37 hv2 _
  have hbe : (gz rest 3 % 2 == 1) = decide (gz rest 3 % 2 = 1) := rfl
  have hr3 : W3.heap[R]? = some (DBox (.slice (some ⟨zb, zo, none⟩) zl zc) at' bad pos) := (hn3.other R hRV).trans ((hn2.other R hRV).trans ((hn1.other R hRV).trans h))
  have hsep3 : Sep (fun b => b = R ∨ b = V) W W3 := ((Sep.of_only (O := fun b => b = R ∨ b = V) hn1 (.inr rfl)).trans (Sep.of_only hn2 (.inr rfl))).trans (Sep.of_only hn3 (.inr rfl))
  have HR4 : Hid ((W3.setCell ⟨R, 1, none⟩ (.int .i64 ((at' : Int) + 8))).heap[R]? = some (DBox (.slice (some ⟨zb, zo, none⟩) zl zc) (at' + 8 : Nat) bad pos)) := by
    have := blk_set hr3 1 (.int .i64 ((at' : Int) + 8))
    rw [show ((at' + 8 : Nat) : Int) = (at' : Int) + 8 by omega]
    exact this
  have HV4 : Hid ((W3.setCell ⟨R, 1, none⟩ (.int .i64 ((at' : Int) + 8))).heap[V]? = some (BV { f with proto := gz rest 0 } ⟨true, gz rest 4 * 16777216 + gz rest 5 * 65536 + gz rest 6 * 256 + gz rest 7, gz rest 2 * 32 + gz rest 3 / 8, decide (gz rest 3 % 2 = 1)⟩ vh vb)) := by rw [← hbe]; exact blk_set_other hv3 (fun e => hRV e.symm) 1 _
  have HS4 : Hid (Sep (fun b => b = R ∨ b = V) W (W3.setCell ⟨R, 1, none⟩ (.int .i64 ((at' : Int) + 8)))) := hsep3.trans (Sep.of_only ((Only.refl R W3).set 1 _) (.inl rfl))
  have h0z : W1.heap[zb]? = W.heap[zb]? := hn1.other zb hzV
  have h1z : W2.heap[zb]? = W.heap[zb]? := (hn2.other zb hzV).trans h0z
  have r0 := hz0 W rfl 0 (by omega)
  rw [Nat.add_zero] at r0
  have HC1 : Hid _ := hz0 W1 h0z
  have HC2 : Hid _ := hz0 W2 h1z
  have HVB1 : Hid _ := hv1
  have HVB2 : Hid _ := hv2
  have HRB3 : Hid _ := hr3
  have hW1' := hW1.symm
  have hW2' := hW2.symm
  have hW3' := hW3.symm
  clear hz0 hrest hfit h hv hn1 hv1 hn2 hv2 hn3 hv3 hr3 hsep3 hbe h0z h1z hW1 hW2 hW3 k37 k38 k39 o37 o38 o39
  have s1 := HC1.out 2 (by omega)
  have s2 := HC1.out 3 (by omega)
  have s4 := HC2.out 4 (by omega)
  have s5 := HC2.out 5 (by omega)
  have s6 := HC2.out 6 (by omega)
  have s7 := HC2.out 7 (by omega)
  generalize gz rest 0 = z0 at *
  generalize gz rest 2 = z2 at *
  generalize gz rest 3 = z3 at *
  generalize gz rest 4 = z4 at *
  generalize gz rest 5 = z5 at *
  generalize gz rest 6 = z6 at *
  generalize gz rest 7 = z7 at *
  have k38 := vb38 HVB1.out
  have k39 := vb39 HVB1.out
  have o38 := blk_open HVB1.out 38
  have o39 := blk_open HVB1.out 39
  have k37 := vb37 HVB2.out
  have o37 := blk_open HVB2.out 37
  have n1 : W3.cell? ⟨R, 1, none⟩ = some (.int .i64 at') := blk_cell HRB3.out (j := 1) rfl
  have p1 := blk_open HRB3.out 1
  clear HC1 HC2 HVB1 HVB2 HRB3
  go_enter Try.func51, Try.ntmps51
  go_wp2_with fail
  go_region
  go_wp2_with fail
  go_region
  go_wp2_with fail
  go_region
  go_wp2_with fail
  go_region
  go_wp2_with fail
  go_ret2
  exact ⟨rfl, HR4.out, HV4.out, HS4.out.drew.drew.drew.drew⟩
end

end Go.Proofs.Ytbaeogoojpngbaa

namespace Go.Proofs.Ytbaeogoojpngbaa
open Go Go.RowKit
set_option linter.unusedVariables false
set_option linter.unusedSimpArgs false

section
variable {W : World} {R V zb zo zl zc at' k1 vn vm : Nat} {bad pos kind : Int} {f : F6} {g : G6} {va : Option Addr} {vb : Value}
set_option maxHeartbeats 8000000 in
set_option maxRecDepth 100000 in
theorem head_short2 (h : W.heap[R]? = some (DBox (.slice (some ⟨zb, zo, none⟩) zl zc) at' bad pos)) (hv : W.heap[V]? = some (BV f g (.slice va vn vm) vb)) (hl : at' ≤ zl) (h8 : 8 ≤ zl - at') (hc : zl ≤ zc) (hz : zl ≤ 140737488351232) (hkind : kind ≠ 44)
    (hr1 : W.cell? ⟨zb, zo + at' + 1, none⟩ = some (.int .u8 (k1 : Int))) (hk1 : k1 < 256) (hs : zl - at' < 8 * (k1 + 1)) :
    Calls Try.prog 51 #[.pointer (some ⟨R, 0, none⟩), .pointer (some ⟨V, 0, none⟩), .int .u8 kind] W fun e w' => e = .returned (.tuple #[.int .u8 0, .bool false]) ∧ w'.heap[R]? = some (DBox (.slice (some ⟨zb, zo, none⟩) zl zc) at' 50 at') ∧ Sep (fun b => b = R) W w' := by
  have m0 : W.cell? ⟨R, 0, none⟩ = some (.slice (some ⟨zb, zo, none⟩) zl zc) := blk_cell h (j := 0) rfl
  have m1 : W.cell? ⟨R, 1, none⟩ = some (.int .i64 at') := blk_cell h (j := 1) rfl
  have q1 : decide ((zl : Int) - (at' : Int) < 8) = false := by simp; omega
  have i1 : at' ≤ zl := hl
  have i3 : at' < zc := by omega
  have i4 : (zc = at') = False := by simp; omega
  have q44 : (kind == 44) = false := by simp [hkind]
  have k35 := vb35 hv
  have HF : Hid (∀ W', W'.heap[R]? = some (DBox (.slice (some ⟨zb, zo, none⟩) zl zc) at' bad pos) → Calls Try.prog 52 #[.pointer (some ⟨R, 0, none⟩), .int .i64 50, .int .i64 at'] W' fun e' w' => e' = .returned (.bool false) ∧ w'.heap[R]? = some (DBox (.slice (some ⟨zb, zo, none⟩) zl zc) at' 50 at') ∧ Only R W' w') := fun W' h' => fail_calls h' 50 at'
  have HB : Hid (W.heap[R]? = some (DBox (.slice (some ⟨zb, zo, none⟩) zl zc) at' bad pos)) := h
  have q2 : decide (((zl - at' : Nat) : Int) < 8 * ((k1 : Int) + 1)) = true := by simp; omega
  have q2' : decide ((zl : Int) - (at' : Int) < 8 * ((k1 : Int) + 1)) = true := by simp; omega
  clear h hv hkind
  go_enter Try.func51, Try.ntmps51
  go_wp2_with fail
  go_region
  go_wp2_with fail
  go_region
  go_wp2_with fail
  refine Calls.mono (HF.out _ HB.out) ?_
  rintro e w' ⟨rfl, hh, ho⟩
  have HH : Hid _ := hh
  have HO : Hid (Sep (fun b => b = R) W w') := ((Sep.of_below (O := fun b => b = R) (Below.refl _ W).drew).drew).trans (Sep.of_only (O := fun b => b = R) ho rfl)
  clear hh ho
  go_wp2
  go_ret2
  exact ⟨rfl, HH.out, HO.out⟩
set_option maxHeartbeats 8000000 in
set_option maxRecDepth 100000 in
theorem head_fullA (h : W.heap[R]? = some (DBox (.slice (some ⟨zb, zo, none⟩) zl zc) at' bad pos)) (hv : W.heap[V]? = some (BV f g (.slice va vn vm) vb)) (hl : at' ≤ zl) (h8 : 8 ≤ zl - at') (hc : zl ≤ zc) (hz : zl ≤ 140737488351232) (hkind : kind ≠ 44)
    (hr1 : W.cell? ⟨zb, zo + at' + 1, none⟩ = some (.int .u8 (k1 : Int))) (hk1 : k1 < 256) (hs : 8 * (k1 + 1) ≤ zl - at') (hk0 : kind = 0) (hvn : 0 < vn) :
    Calls Try.prog 51 #[.pointer (some ⟨R, 0, none⟩), .pointer (some ⟨V, 0, none⟩), .int .u8 kind] W fun e w' => e = .returned (.tuple #[.int .u8 0, .bool false]) ∧ w'.heap[R]? = some (DBox (.slice (some ⟨zb, zo, none⟩) zl zc) at' 53 at') ∧ Sep (fun b => b = R) W w' := by
  have m0 : W.cell? ⟨R, 0, none⟩ = some (.slice (some ⟨zb, zo, none⟩) zl zc) := blk_cell h (j := 0) rfl
  have m1 : W.cell? ⟨R, 1, none⟩ = some (.int .i64 at') := blk_cell h (j := 1) rfl
  have q1 : decide ((zl : Int) - (at' : Int) < 8) = false := by simp; omega
  have i1 : at' ≤ zl := hl
  have i3 : at' < zc := by omega
  have i4 : (zc = at') = False := by simp; omega
  have q44 : (kind == 44) = false := by simp [hkind]
  have k35 := vb35 hv
  have HF : Hid (∀ W', W'.heap[R]? = some (DBox (.slice (some ⟨zb, zo, none⟩) zl zc) at' bad pos) → Calls Try.prog 52 #[.pointer (some ⟨R, 0, none⟩), .int .i64 53, .int .i64 at'] W' fun e' w' => e' = .returned (.bool false) ∧ w'.heap[R]? = some (DBox (.slice (some ⟨zb, zo, none⟩) zl zc) at' 53 at') ∧ Only R W' w') := fun W' h' => fail_calls h' 53 at'
  have HB : Hid (W.heap[R]? = some (DBox (.slice (some ⟨zb, zo, none⟩) zl zc) at' bad pos)) := h
  have q2 : decide (((zl - at' : Nat) : Int) < 8 * ((k1 : Int) + 1)) = false := by simp; omega
  have q2' : decide ((zl : Int) - (at' : Int) < 8 * ((k1 : Int) + 1)) = false := by simp; omega
  subst hk0
  have q3 : decide (0 < vn) = true := by simp [hvn]
  have q3' : decide ((0 : Int) < (vn : Int)) = true := by simp; omega
  clear h hv hkind
  go_enter Try.func51, Try.ntmps51
  go_wp2_with fail
  go_region
  go_wp2_with fail
  go_region
  go_wp2_with fail
  refine Calls.mono (HF.out _ HB.out) ?_
  rintro e w' ⟨rfl, hh, ho⟩
  have HH : Hid _ := hh
  have HO : Hid (Sep (fun b => b = R) W w') := ((Sep.of_below (O := fun b => b = R) (Below.refl _ W).drew).drew).trans (Sep.of_only (O := fun b => b = R) ho rfl)
  clear hh ho
  go_wp2
  go_ret2
  exact ⟨rfl, HH.out, HO.out⟩
set_option maxHeartbeats 8000000 in
set_option maxRecDepth 100000 in
theorem head_fullB (h : W.heap[R]? = some (DBox (.slice (some ⟨zb, zo, none⟩) zl zc) at' bad pos)) (hv : W.heap[V]? = some (BV f g (.slice va vn vm) vb)) (hl : at' ≤ zl) (h8 : 8 ≤ zl - at') (hc : zl ≤ zc) (hz : zl ≤ 140737488351232) (hkind : kind ≠ 44)
    (hr1 : W.cell? ⟨zb, zo + at' + 1, none⟩ = some (.int .u8 (k1 : Int))) (hk1 : k1 < 256) (hs : 8 * (k1 + 1) ≤ zl - at') (hvn : 8 ≤ vn) (hnn : ¬ (kind = 0 ∧ 0 < vn)) :
    Calls Try.prog 51 #[.pointer (some ⟨R, 0, none⟩), .pointer (some ⟨V, 0, none⟩), .int .u8 kind] W fun e w' => e = .returned (.tuple #[.int .u8 0, .bool false]) ∧ w'.heap[R]? = some (DBox (.slice (some ⟨zb, zo, none⟩) zl zc) at' 53 at') ∧ Sep (fun b => b = R) W w' := by
  have m0 : W.cell? ⟨R, 0, none⟩ = some (.slice (some ⟨zb, zo, none⟩) zl zc) := blk_cell h (j := 0) rfl
  have m1 : W.cell? ⟨R, 1, none⟩ = some (.int .i64 at') := blk_cell h (j := 1) rfl
  have q1 : decide ((zl : Int) - (at' : Int) < 8) = false := by simp; omega
  have i1 : at' ≤ zl := hl
  have i3 : at' < zc := by omega
  have i4 : (zc = at') = False := by simp; omega
  have q44 : (kind == 44) = false := by simp [hkind]
  have k35 := vb35 hv
  have HF : Hid (∀ W', W'.heap[R]? = some (DBox (.slice (some ⟨zb, zo, none⟩) zl zc) at' bad pos) → Calls Try.prog 52 #[.pointer (some ⟨R, 0, none⟩), .int .i64 53, .int .i64 at'] W' fun e' w' => e' = .returned (.bool false) ∧ w'.heap[R]? = some (DBox (.slice (some ⟨zb, zo, none⟩) zl zc) at' 53 at') ∧ Only R W' w') := fun W' h' => fail_calls h' 53 at'
  have HB : Hid (W.heap[R]? = some (DBox (.slice (some ⟨zb, zo, none⟩) zl zc) at' bad pos)) := h
  have q2 : decide (((zl - at' : Nat) : Int) < 8 * ((k1 : Int) + 1)) = false := by simp; omega
  have q2' : decide ((zl : Int) - (at' : Int) < 8 * ((k1 : Int) + 1)) = false := by simp; omega
  have q0 : (kind == 0) = false := by simp; intro e; exact hnn ⟨e, by omega⟩
  have q3 : decide (8 ≤ vn) = true := by simp [hvn]
  have q3' : decide ((8 : Int) ≤ (vn : Int)) = true := by simp; omega
  clear hnn
  clear h hv hkind
  go_enter Try.func51, Try.ntmps51
  go_wp2_with fail
  go_region
  go_wp2_with fail
  go_region
  go_wp2_with fail
  refine Calls.mono (HF.out _ HB.out) ?_
  rintro e w' ⟨rfl, hh, ho⟩
  have HH : Hid _ := hh
  have HO : Hid (Sep (fun b => b = R) W w') := ((Sep.of_below (O := fun b => b = R) (Below.refl _ W).drew).drew).trans (Sep.of_only (O := fun b => b = R) ho rfl)
  clear hh ho
  go_wp2
  go_ret2
  exact ⟨rfl, HH.out, HO.out⟩
end

end Go.Proofs.Ytbaeogoojpngbaa
