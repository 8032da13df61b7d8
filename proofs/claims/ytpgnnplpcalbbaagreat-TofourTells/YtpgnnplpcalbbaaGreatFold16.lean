/-
  The document's reader: fail; the first tests of head. The document's reader: head of a fragment header. The document's reader: head of a header of another kind, at fault.
  The document's reader: head of a header of another kind, as it should be.
  The document's parse: addresses as they are filled, and where it ends at once. The document's reader in the middle of its heads; what head comes to there.
-/
import Derived.Test.YtpgnnplpcalbbaaGreatFold15
import Derived.BigRegion
set_option linter.unusedVariables false
set_option linter.unusedSimpArgs false
namespace Go.Proofs.YtpgnnplpcalbbaaGreat.V6
open Go Go.RowKit
abbrev DBox (b : Value) (at' bad pos : Int) : Obj := .cells [b, .int .i64 at', .int .i64 bad, .int .i64 pos].toArray 256
section
variable {W : World} {R : Nat} {b : Value} {at' bad pos : Int}
set_option maxHeartbeats 1000000 in
set_option maxRecDepth 100000 in
theorem fail_calls (h : W.heap[R]? = some (DBox b at' bad pos)) (e a : Int) :
    Calls Tryz.prog 262 #[.pointer (some ⟨R, 0, none⟩), .int .i64 e, .int .i64 a] W fun e' w' => e' = .returned (.bool false) ∧ w'.heap[R]? = some (DBox b at' e a) ∧ Only R W w' := by
  have m2 : W.cell? ⟨R, 2, none⟩ = some (.int .i64 bad) := blk_cell h (j := 2) rfl
  have m3 : W.cell? ⟨R, 3, none⟩ = some (.int .i64 pos) := blk_cell h (j := 3) rfl
  have o2 := blk_open h 2
  have o3 := blk_open h 3
  have h1 := blk_set h 2 (.int .i64 e)
  have h2 := blk_set h1 3 (.int .i64 a)
  have n3 : (W.setCell ⟨R, 2, none⟩ (.int .i64 e)).cell? ⟨R, 3, none⟩ = some (.int .i64 pos) := blk_cell h1 (j := 3) rfl
  have o3' := blk_open h1 3
  have HH : Hid (((W.setCell ⟨R, 2, none⟩ (.int .i64 e)).setCell ⟨R, 3, none⟩ (.int .i64 a)).heap[R]? = some (DBox b at' e a)) := h2
  have HO : Hid (Only R W ((W.setCell ⟨R, 2, none⟩ (.int .i64 e)).setCell ⟨R, 3, none⟩ (.int .i64 a))) := ((Only.refl R W).set 2 _).set 3 _
  clear h h1 h2
  go_enter Tryz.func262, Tryz.ntmps262
  go_wp2
  go_ret
  exact ⟨rfl, HH.out, HO.out⟩
end
section
variable {W : World} {R V : Nat} {zb zo zl zc at' : Nat} {bad pos kind : Int} 
set_option maxHeartbeats 4000000 in
set_option maxRecDepth 100000 in
theorem head_short (h : W.heap[R]? = some (DBox (.slice (some ⟨zb, zo, none⟩) zl zc) at' bad pos)) (hl : at' ≤ zl) (h8 : zl - at' < 8) (hz : zl ≤ 140737488351232) :
    Calls Tryz.prog 230 #[.pointer (some ⟨R, 0, none⟩), .pointer (some ⟨V, 0, none⟩), .int .u8 kind] W fun e w' => e = .returned (.tuple #[.int .u8 0, .bool false]) ∧ w'.heap[R]? = some (DBox (.slice (some ⟨zb, zo, none⟩) zl zc) at' 50 at') ∧ Sep (fun b => b = R) W w' := by
  have m0 : W.cell? ⟨R, 0, none⟩ = some (.slice (some ⟨zb, zo, none⟩) zl zc) := blk_cell h (j := 0) rfl
  have m1 : W.cell? ⟨R, 1, none⟩ = some (.int .i64 at') := blk_cell h (j := 1) rfl
  have q1 : decide ((zl : Int) - (at' : Int) < 8) = true := by simp; omega
  have HF : Hid (∀ W', W'.heap[R]? = some (DBox (.slice (some ⟨zb, zo, none⟩) zl zc) at' bad pos) → Calls Tryz.prog 262 #[.pointer (some ⟨R, 0, none⟩), .int .i64 50, .int .i64 at'] W' fun e' w' => e' = .returned (.bool false) ∧ w'.heap[R]? = some (DBox (.slice (some ⟨zb, zo, none⟩) zl zc) at' 50 at') ∧ Only R W' w') := fun W' h' => fail_calls h' 50 at'
  have HB : Hid (W.heap[R]? = some (DBox (.slice (some ⟨zb, zo, none⟩) zl zc) at' bad pos)) := h
  clear h
  go_enter Tryz.func230, Tryz.ntmps230
  go_wp2_with fail
  go_region
  go_wp2_with fail
  refine Calls.mono (HF.out _ HB.out) ?_
  rintro e w' ⟨rfl, hh, ho⟩
  have HH : Hid _ := hh
  have HO : Hid (Sep (fun b => b = R) W w') := (Sep.of_below (Below.refl _ W).drew).trans (Sep.of_only (O := fun b => b = R) ho rfl)
  clear hh ho
  go_wp2
  go_ret2
  exact ⟨rfl, HH.out, HO.out⟩
theorem vs40 {W : World} {b : Nat} {f : F6} {g : G6} {vh vb : Value} (h : W.heap[b]? = some (BV f g vh vb)) (x : Int) : (W.setCell ⟨b, 40, none⟩ (.int .u8 x)).heap[b]? = some (BV { f with proto := x } g vh vb) := by
  rw [blk_set h, vC_set 5]; rfl
end
end Go.Proofs.YtpgnnplpcalbbaaGreat.V6
namespace Go.Proofs.YtpgnnplpcalbbaaGreat.V6
open Go Go.RowKit
section
variable {W : World} {R V zb zo zl zc at' : Nat} {bad pos : Int} {f : F6} {g : G6} {vh vb : Value} {rest : List Int}
set_option maxHeartbeats 8000000 in
set_option maxRecDepth 100000 in
theorem head_frag (h : W.heap[R]? = some (DBox (.slice (some ⟨zb, zo, none⟩) zl zc) at' bad pos)) (hv : W.heap[V]? = some (BV f g vh vb)) (hl : at' ≤ zl) (h8 : 8 ≤ zl - at') (hc : zl ≤ zc) (hz : zl ≤ 140737488351232) (hfit : Fit rest)
    (hrest : ∀ j, j < 8 → W.cell? ⟨zb, zo + at' + j, none⟩ = some (.int .u8 (gz rest j))) (hRV : R ≠ V) (hzR : zb ≠ R) (hzV : zb ≠ V) :
    Calls Tryz.prog 230 #[.pointer (some ⟨R, 0, none⟩), .pointer (some ⟨V, 0, none⟩), .int .u8 44] W fun e w' => e = .returned (.tuple #[.int .u8 0, .bool true]) ∧ w'.heap[R]? = some (DBox (.slice (some ⟨zb, zo, none⟩) zl zc) (at' + 8 : Nat) bad pos) ∧ w'.heap[V]? = some (BV { f with proto := gz rest 0 } ⟨true, gz rest 4 * 16777216 + gz rest 5 * 65536 + gz rest 6 * 256 + gz rest 7, gz rest 2 * 32 + gz rest 3 / 8, decide (gz rest 3 % 2 = 1)⟩ vh vb) ∧ Sep (fun b => b = R ∨ b = V) W w' := by
  have m0 : W.cell? ⟨R, 0, none⟩ = some (.slice (some ⟨zb, zo, none⟩) zl zc) := blk_cell h (j := 0) rfl
  have m1 : W.cell? ⟨R, 1, none⟩ = some (.int .i64 at') := blk_cell h (j := 1) rfl
  have q1 : decide ((zl : Int) - (at' : Int) < 8) = false := by simp; omega
  have i1 : at' ≤ zl := hl
  have i3 : at' < zc := by omega
  have i4 : (zc = at') = False := by simp; omega
  have k36 := vb36 hv
  have k37 := vb37 hv
  have k38 := vb38 hv
  have k39 := vb39 hv
  have k40 := vb40 hv
  have o36 := blk_open hv 36
  have o37 := blk_open hv 37
  have o38 := blk_open hv 38
  have o39 := blk_open hv 39
  have o40 := blk_open hv 40
  have hz0 : ∀ (X : World), X.heap[zb]? = W.heap[zb]? → ∀ j, j < 8 → X.cell? ⟨zb, zo + at' + j, none⟩ = some (.int .u8 (gz rest j)) := fun X hX j hj => by rw [← hrest j hj]; simp [World.cell?, hX]
  have f0 := gz_fit hfit 0
  have f2 := gz_fit hfit 2
  have f3 := gz_fit hfit 3
  have f4 := gz_fit hfit 4
  have f5 := gz_fit hfit 5
  have f6 := gz_fit hfit 6
  have f7 := gz_fit hfit 7
  obtain ⟨W1, hW1⟩ : ∃ W1, W1 = (W.setCell ⟨V, 36, none⟩ (.bool true)).setCell ⟨V, 40, none⟩ (.int .u8 (gz rest 0)) := ⟨_, rfl⟩
  have hn1 : Only V W W1 := by rw [hW1]; exact ((Only.refl V W).set 36 _).set 40 _
  have hv1 : W1.heap[V]? = some (BV { f with proto := gz rest 0 } { g with fr := true } vh vb) := by rw [hW1]; exact vs40 (vs36 hv true) (gz rest 0)
  obtain ⟨W2, hW2⟩ : ∃ W2, W2 = (W1.setCell ⟨V, 38, none⟩ (.int .i64 (gz rest 2 * 32 + gz rest 3 / 8))).setCell ⟨V, 39, none⟩ (.bool ((gz rest 3 % 2 == 1))) := ⟨_, rfl⟩
  have hn2 : Only V W1 W2 := by rw [hW2]; exact ((Only.refl V W1).set 38 _).set 39 _
  have hv2 : W2.heap[V]? = some (BV { f with proto := gz rest 0 } { g with fr := true, off := gz rest 2 * 32 + gz rest 3 / 8, more := (gz rest 3 % 2 == 1) } vh vb) := by rw [hW2]; exact vs39 (vs38 hv1 _) _
  obtain ⟨W3, hW3⟩ : ∃ W3, W3 = W2.setCell ⟨V, 37, none⟩ (.int .u32 (gz rest 4 * 16777216 + gz rest 5 * 65536 + gz rest 6 * 256 + gz rest 7)) := ⟨_, rfl⟩
  have hn3 : Only V W2 W3 := by rw [hW3]; exact (Only.refl V W2).set 37 _
  have hv3 : W3.heap[V]? = some (BV { f with proto := gz rest 0 } ⟨true, gz rest 4 * 16777216 + gz rest 5 * 65536 + gz rest 6 * 256 + gz rest 7, gz rest 2 * 32 + gz rest 3 / 8, (gz rest 3 % 2 == 1)⟩ vh vb) := by rw [hW3]; exact vs37 hv2 _
  have hbe : (gz rest 3 % 2 == 1) = decide (gz rest 3 % 2 = 1) := rfl
  have hr3 : W3.heap[R]? = some (DBox (.slice (some ⟨zb, zo, none⟩) zl zc) at' bad pos) := (hn3.other R hRV).trans ((hn2.other R hRV).trans ((hn1.other R hRV).trans h))
  have hsep3 : Sep (fun b => b = R ∨ b = V) W W3 := ((Sep.of_only (O := fun b => b = R ∨ b = V) hn1 (.inr rfl)).trans (Sep.of_only hn2 (.inr rfl))).trans (Sep.of_only hn3 (.inr rfl))
  have HR4 : Hid ((W3.setCell ⟨R, 1, none⟩ (.int .i64 ((at' : Int) + 8))).heap[R]? = some (DBox (.slice (some ⟨zb, zo, none⟩) zl zc) (at' + 8 : Nat) bad pos)) := by
    have := blk_set hr3 1 (.int .i64 ((at' : Int) + 8))
    rw [show ((at' + 8 : Nat) : Int) = (at' : Int) + 8 by omega]
    exact this
  have HV4 : Hid ((W3.setCell ⟨R, 1, none⟩ (.int .i64 ((at' : Int) + 8))).heap[V]? = some (BV { f with proto := gz rest 0 } ⟨true, gz rest 4 * 16777216 + gz rest 5 * 65536 + gz rest 6 * 256 + gz rest 7, gz rest 2 * 32 + gz rest 3 / 8, decide (gz rest 3 % 2 = 1)⟩ vh vb)) := by rw [← hbe]; exact blk_set_other hv3 (fun e => hRV e.symm) 1 _
  have HS4 : Hid (Sep (fun b => b = R ∨ b = V) W (W3.setCell ⟨R, 1, none⟩ (.int .i64 ((at' : Int) + 8)))) := hsep3.trans (Sep.of_only ((Only.refl R W3).set 1 _) (.inl rfl))
  have h0z : W1.heap[zb]? = W.heap[zb]? := hn1.other zb hzV
  have h1z : W2.heap[zb]? = W.heap[zb]? := (hn2.other zb hzV).trans h0z
  have r0 := hz0 W rfl 0 (by omega)
  rw [Nat.add_zero] at r0
  have HC1 : Hid _ := hz0 W1 h0z
  have HC2 : Hid _ := hz0 W2 h1z
  have HVB1 : Hid _ := hv1
  have HVB2 : Hid _ := hv2
  have HRB3 : Hid _ := hr3
  have hW1' := hW1.symm
  have hW2' := hW2.symm
  have hW3' := hW3.symm
  clear hz0 hrest hfit h hv hn1 hv1 hn2 hv2 hn3 hv3 hr3 hsep3 hbe h0z h1z hW1 hW2 hW3 k37 k38 k39 o37 o38 o39
  have s1 := HC1.out 2 (by omega)
  have s2 := HC1.out 3 (by omega)
  have s4 := HC2.out 4 (by omega)
  have s5 := HC2.out 5 (by omega)
  have s6 := HC2.out 6 (by omega)
  have s7 := HC2.out 7 (by omega)
  generalize gz rest 0 = z0 at *
  generalize gz rest 2 = z2 at *
  generalize gz rest 3 = z3 at *
  generalize gz rest 4 = z4 at *
  generalize gz rest 5 = z5 at *
  generalize gz rest 6 = z6 at *
  generalize gz rest 7 = z7 at *
  have k38 := vb38 HVB1.out
  have k39 := vb39 HVB1.out
  have o38 := blk_open HVB1.out 38
  have o39 := blk_open HVB1.out 39
  have k37 := vb37 HVB2.out
  have o37 := blk_open HVB2.out 37
  have n1 : W3.cell? ⟨R, 1, none⟩ = some (.int .i64 at') := blk_cell HRB3.out (j := 1) rfl
  have p1 := blk_open HRB3.out 1
  clear HC1 HC2 HVB1 HVB2 HRB3
  go_enter Tryz.func230, Tryz.ntmps230
  go_wp2_with fail
  go_region
  go_wp2_with fail
  go_region
  go_wp2_with fail
  go_region
  go_wp2_with fail
  go_region
  go_wp2_with fail
  go_ret2
  exact ⟨rfl, HR4.out, HV4.out, HS4.out.drew.drew.drew.drew⟩
end
end Go.Proofs.YtpgnnplpcalbbaaGreat.V6
namespace Go.Proofs.YtpgnnplpcalbbaaGreat.V6
open Go Go.RowKit
section
variable {W : World} {R V zb zo zl zc at' k1 vn vm : Nat} {bad pos kind : Int} {f : F6} {g : G6} {va : Option Addr} {vb : Value}
set_option maxHeartbeats 8000000 in
set_option maxRecDepth 100000 in
theorem head_short2 (h : W.heap[R]? = some (DBox (.slice (some ⟨zb, zo, none⟩) zl zc) at' bad pos)) (hv : W.heap[V]? = some (BV f g (.slice va vn vm) vb)) (hl : at' ≤ zl) (h8 : 8 ≤ zl - at') (hc : zl ≤ zc) (hz : zl ≤ 140737488351232) (hkind : kind ≠ 44)
    (hr1 : W.cell? ⟨zb, zo + at' + 1, none⟩ = some (.int .u8 (k1 : Int))) (hk1 : k1 < 256) (hs : zl - at' < 8 * (k1 + 1)) :
    Calls Tryz.prog 230 #[.pointer (some ⟨R, 0, none⟩), .pointer (some ⟨V, 0, none⟩), .int .u8 kind] W fun e w' => e = .returned (.tuple #[.int .u8 0, .bool false]) ∧ w'.heap[R]? = some (DBox (.slice (some ⟨zb, zo, none⟩) zl zc) at' 50 at') ∧ Sep (fun b => b = R) W w' := by
  have m0 : W.cell? ⟨R, 0, none⟩ = some (.slice (some ⟨zb, zo, none⟩) zl zc) := blk_cell h (j := 0) rfl
  have m1 : W.cell? ⟨R, 1, none⟩ = some (.int .i64 at') := blk_cell h (j := 1) rfl
  have q1 : decide ((zl : Int) - (at' : Int) < 8) = false := by simp; omega
  have i1 : at' ≤ zl := hl
  have i3 : at' < zc := by omega
  have i4 : (zc = at') = False := by simp; omega
  have q44 : (kind == 44) = false := by simp [hkind]
  have k35 := vb35 hv
  have HF : Hid (∀ W', W'.heap[R]? = some (DBox (.slice (some ⟨zb, zo, none⟩) zl zc) at' bad pos) → Calls Tryz.prog 262 #[.pointer (some ⟨R, 0, none⟩), .int .i64 50, .int .i64 at'] W' fun e' w' => e' = .returned (.bool false) ∧ w'.heap[R]? = some (DBox (.slice (some ⟨zb, zo, none⟩) zl zc) at' 50 at') ∧ Only R W' w') := fun W' h' => fail_calls h' 50 at'
  have HB : Hid (W.heap[R]? = some (DBox (.slice (some ⟨zb, zo, none⟩) zl zc) at' bad pos)) := h
  have q2 : decide (((zl - at' : Nat) : Int) < 8 * ((k1 : Int) + 1)) = true := by simp; omega
  have q2' : decide ((zl : Int) - (at' : Int) < 8 * ((k1 : Int) + 1)) = true := by simp; omega
  clear h hv hkind
  go_enter Tryz.func230, Tryz.ntmps230
  go_wp2_with fail
  go_region
  go_wp2_with fail
  go_region
  go_wp2_with fail
  refine Calls.mono (HF.out _ HB.out) ?_
  rintro e w' ⟨rfl, hh, ho⟩
  have HH : Hid _ := hh
  have HO : Hid (Sep (fun b => b = R) W w') := ((Sep.of_below (O := fun b => b = R) (Below.refl _ W).drew).drew).trans (Sep.of_only (O := fun b => b = R) ho rfl)
  clear hh ho
  go_wp2
  go_ret2
  exact ⟨rfl, HH.out, HO.out⟩
set_option maxHeartbeats 8000000 in
set_option maxRecDepth 100000 in
theorem head_fullA (h : W.heap[R]? = some (DBox (.slice (some ⟨zb, zo, none⟩) zl zc) at' bad pos)) (hv : W.heap[V]? = some (BV f g (.slice va vn vm) vb)) (hl : at' ≤ zl) (h8 : 8 ≤ zl - at') (hc : zl ≤ zc) (hz : zl ≤ 140737488351232) (hkind : kind ≠ 44)
    (hr1 : W.cell? ⟨zb, zo + at' + 1, none⟩ = some (.int .u8 (k1 : Int))) (hk1 : k1 < 256) (hs : 8 * (k1 + 1) ≤ zl - at') (hk0 : kind = 0) (hvn : 0 < vn) :
    Calls Tryz.prog 230 #[.pointer (some ⟨R, 0, none⟩), .pointer (some ⟨V, 0, none⟩), .int .u8 kind] W fun e w' => e = .returned (.tuple #[.int .u8 0, .bool false]) ∧ w'.heap[R]? = some (DBox (.slice (some ⟨zb, zo, none⟩) zl zc) at' 53 at') ∧ Sep (fun b => b = R) W w' := by
  have m0 : W.cell? ⟨R, 0, none⟩ = some (.slice (some ⟨zb, zo, none⟩) zl zc) := blk_cell h (j := 0) rfl
  have m1 : W.cell? ⟨R, 1, none⟩ = some (.int .i64 at') := blk_cell h (j := 1) rfl
  have q1 : decide ((zl : Int) - (at' : Int) < 8) = false := by simp; omega
  have i1 : at' ≤ zl := hl
  have i3 : at' < zc := by omega
  have i4 : (zc = at') = False := by simp; omega
  have q44 : (kind == 44) = false := by simp [hkind]
  have k35 := vb35 hv
  have HF : Hid (∀ W', W'.heap[R]? = some (DBox (.slice (some ⟨zb, zo, none⟩) zl zc) at' bad pos) → Calls Tryz.prog 262 #[.pointer (some ⟨R, 0, none⟩), .int .i64 53, .int .i64 at'] W' fun e' w' => e' = .returned (.bool false) ∧ w'.heap[R]? = some (DBox (.slice (some ⟨zb, zo, none⟩) zl zc) at' 53 at') ∧ Only R W' w') := fun W' h' => fail_calls h' 53 at'
  have HB : Hid (W.heap[R]? = some (DBox (.slice (some ⟨zb, zo, none⟩) zl zc) at' bad pos)) := h
  have q2 : decide (((zl - at' : Nat) : Int) < 8 * ((k1 : Int) + 1)) = false := by simp; omega
  have q2' : decide ((zl : Int) - (at' : Int) < 8 * ((k1 : Int) + 1)) = false := by simp; omega
  subst hk0
  have q3 : decide (0 < vn) = true := by simp [hvn]
  have q3' : decide ((0 : Int) < (vn : Int)) = true := by simp; omega
  clear h hv hkind
  go_enter Tryz.func230, Tryz.ntmps230
  go_wp2_with fail
  go_region
  go_wp2_with fail
  go_region
  go_wp2_with fail
  refine Calls.mono (HF.out _ HB.out) ?_
  rintro e w' ⟨rfl, hh, ho⟩
  have HH : Hid _ := hh
  have HO : Hid (Sep (fun b => b = R) W w') := ((Sep.of_below (O := fun b => b = R) (Below.refl _ W).drew).drew).trans (Sep.of_only (O := fun b => b = R) ho rfl)
  clear hh ho
  go_wp2
  go_ret2
  exact ⟨rfl, HH.out, HO.out⟩
set_option maxHeartbeats 8000000 in
set_option maxRecDepth 100000 in
theorem head_fullB (h : W.heap[R]? = some (DBox (.slice (some ⟨zb, zo, none⟩) zl zc) at' bad pos)) (hv : W.heap[V]? = some (BV f g (.slice va vn vm) vb)) (hl : at' ≤ zl) (h8 : 8 ≤ zl - at') (hc : zl ≤ zc) (hz : zl ≤ 140737488351232) (hkind : kind ≠ 44)
    (hr1 : W.cell? ⟨zb, zo + at' + 1, none⟩ = some (.int .u8 (k1 : Int))) (hk1 : k1 < 256) (hs : 8 * (k1 + 1) ≤ zl - at') (hvn : 8 ≤ vn) (hnn : ¬ (kind = 0 ∧ 0 < vn)) :
    Calls Tryz.prog 230 #[.pointer (some ⟨R, 0, none⟩), .pointer (some ⟨V, 0, none⟩), .int .u8 kind] W fun e w' => e = .returned (.tuple #[.int .u8 0, .bool false]) ∧ w'.heap[R]? = some (DBox (.slice (some ⟨zb, zo, none⟩) zl zc) at' 53 at') ∧ Sep (fun b => b = R) W w' := by
  have m0 : W.cell? ⟨R, 0, none⟩ = some (.slice (some ⟨zb, zo, none⟩) zl zc) := blk_cell h (j := 0) rfl
  have m1 : W.cell? ⟨R, 1, none⟩ = some (.int .i64 at') := blk_cell h (j := 1) rfl
  have q1 : decide ((zl : Int) - (at' : Int) < 8) = false := by simp; omega
  have i1 : at' ≤ zl := hl
  have i3 : at' < zc := by omega
  have i4 : (zc = at') = False := by simp; omega
  have q44 : (kind == 44) = false := by simp [hkind]
  have k35 := vb35 hv
  have HF : Hid (∀ W', W'.heap[R]? = some (DBox (.slice (some ⟨zb, zo, none⟩) zl zc) at' bad pos) → Calls Tryz.prog 262 #[.pointer (some ⟨R, 0, none⟩), .int .i64 53, .int .i64 at'] W' fun e' w' => e' = .returned (.bool false) ∧ w'.heap[R]? = some (DBox (.slice (some ⟨zb, zo, none⟩) zl zc) at' 53 at') ∧ Only R W' w') := fun W' h' => fail_calls h' 53 at'
  have HB : Hid (W.heap[R]? = some (DBox (.slice (some ⟨zb, zo, none⟩) zl zc) at' bad pos)) := h
  have q2 : decide (((zl - at' : Nat) : Int) < 8 * ((k1 : Int) + 1)) = false := by simp; omega
  have q2' : decide ((zl : Int) - (at' : Int) < 8 * ((k1 : Int) + 1)) = false := by simp; omega
  have q0 : (kind == 0) = false := by simp; intro e; exact hnn ⟨e, by omega⟩
  have q3 : decide (8 ≤ vn) = true := by simp [hvn]
  have q3' : decide ((8 : Int) ≤ (vn : Int)) = true := by simp; omega
  clear hnn
  clear h hv hkind
  go_enter Tryz.func230, Tryz.ntmps230
  go_wp2_with fail
  go_region
  go_wp2_with fail
  go_region
  go_wp2_with fail
  refine Calls.mono (HF.out _ HB.out) ?_
  rintro e w' ⟨rfl, hh, ho⟩
  have HH : Hid _ := hh
  have HO : Hid (Sep (fun b => b = R) W w') := ((Sep.of_below (O := fun b => b = R) (Below.refl _ W).drew).drew).trans (Sep.of_only (O := fun b => b = R) ho rfl)
  clear hh ho
  go_wp2
  go_ret2
  exact ⟨rfl, HH.out, HO.out⟩
end
end Go.Proofs.YtpgnnplpcalbbaaGreat.V6
namespace Go.Proofs.YtpgnnplpcalbbaaGreat.V6
open Go Go.RowKit
theorem mid_row {W : World} {rest : List Int} {b off cap n : Nat} (h : RowS W (.slice (some ⟨b, off, none⟩) rest.length cap) rest b off cap) (hn : n ≤ rest.length) (h2 : 2 ≤ n) :
    RowC W (.slice (some ⟨b, off + 2, none⟩) (n - 2) (cap - 2)) ((rest.take n).drop 2) ∧ ((rest.take n).drop 2).length = n - 2 := by
  have hl : ((rest.take n).drop 2).length = n - 2 := by rw [List.length_drop, List.length_take]; omega
  have hroom := h.room
  refine ⟨⟨fun z hz => h.fit z (List.mem_of_mem_take (List.mem_of_mem_drop hz)), by have := h.len; omega, _, cap - 2, by rw [hl], by omega, .inr ⟨b, off + 2, rfl, h.lt, fun j hj => ?_⟩⟩, hl⟩
  rw [hl] at hj
  have := h.cell (2 + j) (by omega)
  rw [show off + (2 + j) = off + 2 + j by omega] at this
  rw [this, List.getElem?_drop, List.getElem?_take, if_pos (by omega)]
  rfl
section
variable {W : World} {R V zb zo zl zc at' k1 bs : Nat} {bad pos kind : Int} {f : F6} {g : G6} {vh vb : Value} {rest : List Int} {hs : Opts} {ds : List Value}
set_option maxHeartbeats 8000000 in
set_option maxRecDepth 100000 in
theorem head_good (h : W.heap[R]? = some (DBox (.slice (some ⟨zb, zo, none⟩) zl zc) at' bad pos)) (hv : W.heap[V]? = some (BV f g vh vb)) (hl : at' ≤ zl) (h8 : 8 ≤ rest.length) (hrl : rest.length = zl - at') (hc : zl ≤ zc) (hz : zl ≤ 1000000000) (hkind : kind ≠ 44) (hkf : 0 ≤ kind ∧ kind < 256)
    (hrs : RowS W (.slice (some ⟨zb, zo + at', none⟩) rest.length (zc - at')) rest zb (zo + at') (zc - at')) (hsz : szH rest ≤ rest.length) (hgood : hs.length < 8 ∧ (kind = 0 → hs.length = 0))
    (hrow : HRow bs W vh hs ds) (hRV : R ≠ V) (hzR : zb ≠ R) (hzV : zb ≠ V) (hzb : zb < bs) (hRb : R < bs) (hVb : V < bs) (hbs : bs ≤ W.heap.size) :
    Calls Tryz.prog 230 #[.pointer (some ⟨R, 0, none⟩), .pointer (some ⟨V, 0, none⟩), .int .u8 kind] W fun e w' => e = .returned (.tuple #[.int .u8 (gz rest 0), .bool true]) ∧ w'.heap[R]? = some (DBox (.slice (some ⟨zb, zo, none⟩) zl zc) (at' + szH rest : Nat) bad pos) ∧ (∃ vh' ds', w'.heap[V]? = some (BV f g vh' vb) ∧ HRow bs w' vh' (hs ++ [(kind, (rest.take (szH rest)).drop 2)]) ds') ∧ Sep (fun b => b = R ∨ b = V ∨ bs ≤ b) W w' := by
  obtain ⟨va, vc, ev⟩ := hrow.slc
  subst ev
  obtain ⟨k1, hk1⟩ : ∃ k1 : Nat, gz rest 1 = (k1 : Int) := ⟨(gz rest 1).toNat, by have := gz_fit hrs.fit 1; omega⟩
  have hk256 : k1 < 256 := by have := gz_fit hrs.fit 1; omega
  obtain ⟨sz, hszd⟩ : ∃ sz, szH rest = sz := ⟨_, rfl⟩
  have hszk : sz = (k1 + 1) * 8 := by rw [← hszd]; unfold szH; rw [hk1]; simp
  rw [hszd] at hsz ⊢
  have hmul : 8 * ((k1 : Int) + 1) = (sz : Int) := by rw [hszk]; omega
  obtain ⟨hm1, hm2⟩ := mid_row hrs hsz (by omega)
  obtain ⟨DD, hDD⟩ : ∃ DD, (rest.take sz).drop 2 = DD := ⟨_, rfl⟩
  rw [hDD] at hm1 hm2 ⊢
  obtain ⟨Wd, hWd⟩ : ∃ Wd, Wd = W.drew.drew := ⟨_, rfl⟩
  have hbd : Below W.heap.size W Wd := by rw [hWd]; exact (Below.refl _ W).drew.drew
  have hsd : Wd.heap.size = W.heap.size := by rw [hWd]; rfl
  have hvd : Wd.heap[V]? = some (BV f g (.slice va hs.length vc) vb) := by rw [hWd]; exact hv
  have hRd : Wd.heap[R]? = some (DBox (.slice (some ⟨zb, zo, none⟩) zl zc) at' bad pos) := by rw [hWd]; exact h
  have hrd := hrow.on hbd
  have hmd := hm1.on hbd
  obtain ⟨A1, hA1⟩ : ∃ A1, A1 = Wd.drew.alloc (.cells #[] 5) := ⟨_, rfl⟩
  have hb1 : Below Wd.heap.size Wd A1 := by rw [hA1]; exact (Below.refl Wd.heap.size Wd).drew.alloc (Nat.le_refl _) _
  have hs1 : A1.heap.size = Wd.heap.size + 1 := by rw [hA1]; simp
  obtain ⟨b2, c2, W2, hrun2, hb2, hc2⟩ := copy_run (B := Wd.heap.size) hmd.bytes hb1 (Nat.le_refl _) (by omega) 25
  rw [hm2] at hrun2
  have hB2 : Below Wd.heap.size Wd W2 := hb1.trans (hb2.mono hb1.size)
  have hbs2 := hc2.bs hm1.fit hm1.len
  rw [hm2] at hbs2
  have hrow2 := hrd.on hB2
  have hob : ∀ b, Value.ownBlock (.slice va hs.length vc) = some b → b < Wd.heap.size := fun b e => (own_lt hrd.own e).2
  obtain ⟨v3, W3, hrun3, hrow3, hsep3⟩ := hrow2.push (u := .slice (some ⟨b2, 0, none⟩) (sz - 2) c2) (D := DD) (K := kind) (by have := hB2.size; omega) (by omega) hkf (hbs2.mono (fun b hb hh => ⟨by omega, fun e => by have := hob b e; omega⟩)) 34
  have hbx : hBox kind (.slice (some ⟨b2, 0, none⟩) (sz - 2) c2) = .cells #[.int .u8 kind, .slice (some ⟨b2, 0, none⟩) (sz - 2) c2] 110 := rfl
  rw [hbx] at hrun3
  have hbA := (Below.refl W2.heap.size W2).alloc (Nat.le_refl _) (.cells #[.int .u8 kind, .slice (some ⟨b2, 0, none⟩) (sz - 2) c2] 110)
  obtain ⟨va3, vc3, ev3⟩ := hrow3.slc
  rw [List.length_append, List.length_singleton] at ev3
  subst ev3
  have hv3 : W3.heap[V]? = some (BV f g (.slice va hs.length vc) vb) := hsep3.blk (blk_on hvd hB2) (by omega)
  have hR3 : W3.heap[R]? = some (DBox (.slice (some ⟨zb, zo, none⟩) zl zc) at' bad pos) := hsep3.blk (blk_on hRd hB2) (by omega)
  -- the store of the row, then of the place
  obtain ⟨W4, hW4⟩ : ∃ W4, W4 = W3.setCell ⟨V, 35, none⟩ (.slice va3 (hs.length + 1) vc3) := ⟨_, rfl⟩
  have hv4 : W4.heap[V]? = some (BV f g (.slice va3 (hs.length + 1) vc3) vb) := by rw [hW4]; exact vs35 hv3 _
  have ho4 : Only V W3 W4 := by rw [hW4]; exact (Only.refl V W3).set 35 _
  have hR4 : W4.heap[R]? = some (DBox (.slice (some ⟨zb, zo, none⟩) zl zc) at' bad pos) := (ho4.other R hRV).trans hR3
  have hrow4 := hrow3.sep (Sep.of_only (O := fun b => b = V) ho4 rfl) (fun b hb e => by omega)
  have hR5 : (W4.setCell ⟨R, 1, none⟩ (.int .i64 ((at' : Int) + (sz : Int)))).heap[R]? = some (DBox (.slice (some ⟨zb, zo, none⟩) zl zc) (at' + sz : Nat) bad pos) := by
    have := blk_set hR4 1 (.int .i64 ((at' : Int) + (sz : Int)))
    rw [show ((at' + sz : Nat) : Int) = (at' : Int) + (sz : Int) by omega]
    exact this
  have ho5 : Only R W4 (W4.setCell ⟨R, 1, none⟩ (.int .i64 ((at' : Int) + (sz : Int)))) := (Only.refl R W4).set 1 _
  have hv5 : (W4.setCell ⟨R, 1, none⟩ (.int .i64 ((at' : Int) + (sz : Int)))).heap[V]? = some (BV f g (.slice va3 (hs.length + 1) vc3) vb) := blk_set_other hv4 (fun e => hRV e.symm) 1 _
  have hrow5 := hrow4.sep (Sep.of_only (O := fun b => b = R) ho5 rfl) (fun b hb e => by omega)
  have hsep5 : Sep (fun b => b = R ∨ b = V ∨ bs ≤ b) W (W4.setCell ⟨R, 1, none⟩ (.int .i64 ((at' : Int) + (sz : Int)))) :=
    (((Sep.of_below (O := fun b => b = R ∨ b = V ∨ bs ≤ b) (hbd.trans (by rw [← hsd]; exact hB2))).trans (hsep3.mono (fun b _ hb => .inr (.inr hb)))).trans (Sep.of_only ho4 (.inr (.inl rfl)))).trans (Sep.of_only ho5 (.inl rfl))
  have HFIN : Hid (∀ w', w' = W4.setCell ⟨R, 1, none⟩ (.int .i64 ((at' : Int) + (sz : Int))) → w'.heap[R]? = some (DBox (.slice (some ⟨zb, zo, none⟩) zl zc) (at' + sz : Nat) bad pos) ∧ (∃ vh' ds', w'.heap[V]? = some (BV f g vh' vb) ∧ HRow bs w' vh' (hs ++ [(kind, DD)]) ds') ∧ Sep (fun b => b = R ∨ b = V ∨ bs ≤ b) W w') := fun w' e => by
    subst e
    exact ⟨hR5, ⟨_, _, hv5, hrow5⟩, hsep5⟩
  have m0 : W.cell? ⟨R, 0, none⟩ = some (.slice (some ⟨zb, zo, none⟩) zl zc) := blk_cell h (j := 0) rfl
  have m1 : W.cell? ⟨R, 1, none⟩ = some (.int .i64 at') := blk_cell h (j := 1) rfl
  have m0d : Wd.cell? ⟨R, 0, none⟩ = some (.slice (some ⟨zb, zo, none⟩) zl zc) := blk_cell hRd (j := 0) rfl
  have m1d : Wd.cell? ⟨R, 1, none⟩ = some (.int .i64 at') := blk_cell hRd (j := 1) rfl
  have q1 : decide ((zl : Int) - (at' : Int) < 8) = false := by simp; omega
  have i1 : at' ≤ zl := hl
  have i3 : at' < zc := by omega
  have i4 : (zc = at') = False := by simp; omega
  have q44 : (kind == 44) = false := by simp [hkind]
  have r1 : Wd.cell? ⟨zb, zo + at' + 1, none⟩ = some (.int .u8 (k1 : Int)) := by rw [← hk1]; exact (hbd.cell (p := ⟨zb, zo + at' + 1, none⟩) hrs.lt).trans (hrs.cell 1 (by omega))
  have k35 : Wd.cell? ⟨V, 35, none⟩ = some (.slice va hs.length vc) := vb35 hvd
  have k35a : A1.cell? ⟨V, 35, none⟩ = some (.slice va hs.length vc) := vb35 (blk_on hvd hb1)
  have k35b : W2.cell? ⟨V, 35, none⟩ = some (.slice va hs.length vc) := vb35 (blk_on hvd hB2)
  have k35c : (W2.alloc (.cells #[.int .u8 kind, .slice (some ⟨b2, 0, none⟩) (sz - 2) c2] 110)).cell? ⟨V, 35, none⟩ = some (.slice va hs.length vc) := vb35 (blk_on (blk_on hvd hB2) hbA)
  have k35d : W3.cell? ⟨V, 35, none⟩ = some (.slice va hs.length vc) := vb35 hv3
  have o35 := blk_open hv3 35
  have n1 : W4.cell? ⟨R, 1, none⟩ = some (.int .i64 at') := blk_cell hR4 (j := 1) rfl
  have p1 := blk_open hR4 1
  have z4 : W4.cell? ⟨zb, zo + at', none⟩ = some (.int .u8 (gz rest 0)) := by
    have e0 : Wd.cell? ⟨zb, zo + at', none⟩ = some (.int .u8 (gz rest 0)) := (hbd.cell (p := ⟨zb, zo + at', none⟩) hrs.lt).trans (hrs.cell 0 (by omega))
    have hzlt : zb < Wd.heap.size := Nat.lt_of_lt_of_le hrs.lt hbd.size
    have e2 : W2.cell? ⟨zb, zo + at', none⟩ = some (.int .u8 (gz rest 0)) := (hB2.cell (p := ⟨zb, zo + at', none⟩) hzlt).trans e0
    have e3 : W3.heap[zb]? = W2.heap[zb]? := hsep3.same zb (Nat.lt_of_lt_of_le hzlt hB2.size) (by omega)
    have e4 : W4.heap[zb]? = W2.heap[zb]? := (ho4.other zb hzV).trans e3
    rw [← e2]
    simp [World.cell?, e4]
  have z5 : (W4.setCell ⟨R, 1, none⟩ (.int .i64 ((at' : Int) + (sz : Int)))).cell? ⟨zb, zo + at', none⟩ = some (.int .u8 (gz rest 0)) := by
    rw [← z4]
    have := ho5.other zb hzR
    simp only [World.cell?, this]
  have q2 : decide (((zl - at' : Nat) : Int) < (sz : Int)) = false := by simp; omega
  have q2' : decide ((zl : Int) - (at' : Int) < (sz : Int)) = false := by simp; omega
  have q2n : decide (zl - at' < sz) = false := by simp; omega
  have q0 : (kind = 0 → decide ((0 : Int) < (hs.length : Int)) = false ∧ decide (0 < hs.length) = false) := fun e => by have := hgood.2 e; simp [this]
  have Q0 : Hid _ := q0
  have qb : decide ((8 : Int) ≤ (hs.length : Int)) = false := by simp; omega
  have qb' : decide (8 ≤ hs.length) = false := by simp; omega
  have hA1' := hA1.symm
  have hW4' := hW4.symm
  have hWd' := hWd.symm
  have t1 : 2 ≤ sz := by omega
  have t2 : sz ≤ zc - at' := by omega
  have t3 : 2 < zc - at' := by omega
  have t4 : (zc - at' = 2) = False := by simp; omega
  have t5 : (2 : Int) ≤ (sz : Int) := by omega
  have t6 : (sz : Int) ≤ ((zc - at' : Nat) : Int) := by omega
  have t8 : sz ≤ 2048 := by omega
  have t9 : at' ≤ 1000000000 := by omega
  have HR2 : Hid _ := hrun2
  have HR3 : Hid _ := hrun3
  clear q0 hrun2 hrun3 hR5 hv5 hrow5 hsep5 ho5 hrow4 hR4 ho4 hv4 hR3 hv3 hbA hbx hsep3 hrow3 hob hrow2 hbs2 hB2 hc2 hb2 hs1 hb1 hmd hrd hRd hvd hsd hbd hDD hm1 hm2 hszd hszk h hv hrow hA1 hW4 hWd hrs hsz hgood
  generalize gz rest 0 = z0 at *
  generalize hs.length = vn at *
  by_cases hk0 : kind = 0
  · have q3 := (Q0.out hk0).1
    have q3' := (Q0.out hk0).2
    subst hk0
    go_enter Tryz.func230, Tryz.ntmps230
    go_wp2_with fail
    go_region
    go_wp2_with fail
    go_region
    go_wp2_with fail
    go_region_law (first | (refine step_appendR (R := fun v w => v = .slice (some ⟨b2, 0, none⟩) (sz - 2) c2 ∧ w = W2) rfl _ _ _ _ rfl rfl rfl ⟨_, _, HR2.out, rfl, rfl⟩ ?_; rintro _ _ ⟨rfl, rfl⟩) | (refine step_appendR (R := fun v w => v = .slice va3 (vn + 1) vc3 ∧ w = W3) rfl _ _ _ _ rfl rfl rfl ⟨_, _, HR3.out, rfl, rfl⟩ ?_; rintro _ _ ⟨rfl, rfl⟩))
    all_goals
      go_wp2_with fail
      go_ret2
      exact ⟨rfl, HFIN.out _ rfl⟩
  · have q0 : (kind == 0) = false := by simp [hk0]
    clear hk0 Q0 hkind
    go_enter Tryz.func230, Tryz.ntmps230
    go_wp2_with fail
    go_region
    go_wp2_with fail
    go_region
    go_wp2_with fail
    go_region_law (first | (refine step_appendR (R := fun v w => v = .slice (some ⟨b2, 0, none⟩) (sz - 2) c2 ∧ w = W2) rfl _ _ _ _ rfl rfl rfl ⟨_, _, HR2.out, rfl, rfl⟩ ?_; rintro _ _ ⟨rfl, rfl⟩) | (refine step_appendR (R := fun v w => v = .slice va3 (vn + 1) vc3 ∧ w = W3) rfl _ _ _ _ rfl rfl rfl ⟨_, _, HR3.out, rfl, rfl⟩ ?_; rintro _ _ ⟨rfl, rfl⟩))
    all_goals
      go_wp2_with fail
      go_ret2
      exact ⟨rfl, HFIN.out _ rfl⟩
end
end Go.Proofs.YtpgnnplpcalbbaaGreat.V6
namespace Go.Proofs.YtpgnnplpcalbbaaGreat.V6
open Go Go.RowKit
/-- The first i bytes of both addresses. -/
def adL (zs : List Int) (i : Nat) : List Int := (List.range 32).map (fun j => if j % 16 < i then gz zs (8 + j) else 0)
theorem adL_len (zs : List Int) (i : Nat) : (adL zs i).length = 32 := by simp [adL]
theorem adL_set (zs : List Int) {i : Nat} (hi : i < 16) : ((u8L (adL zs i)).set i (.int .u8 (gz zs (8 + i)))).set (16 + i) (.int .u8 (gz zs (24 + i))) = u8L (adL zs (i + 1)) := by
  apply List.ext_getElem?
  intro j
  unfold u8L adL
  by_cases hj : j < 32
  · by_cases e1 : j = 16 + i
    · subst e1
      rw [List.getElem?_set_self (by simp; omega)]
      simp [show 16 + i < 32 by omega, show i % 16 < i + 1 by omega, show 8 + (16 + i) = 24 + i by omega]
    · rw [List.getElem?_set_ne (by omega)]
      by_cases e2 : j = i
      · subst e2
        rw [List.getElem?_set_self (by simp; omega)]
        simp [show j < 32 by omega, show j % 16 < j + 1 by omega]
      · rw [List.getElem?_set_ne (by omega)]
        have : (j % 16 < i) ↔ (j % 16 < i + 1) := by omega
        simp [hj, this]
  · rw [List.getElem?_eq_none (by simp; omega), List.getElem?_eq_none (by simp; omega)]
theorem adL_zero (zs : List Int) : u8L (adL zs 0) = List.replicate 32 (.int .u8 0) := by
  unfold adL u8L
  rfl
theorem adL_all {zs : List Int} (h : 40 ≤ zs.length) : adL zs 16 = (zs.drop 8).take 32 := by
  apply List.ext_getElem?
  intro j
  unfold adL
  by_cases hj : j < 32
  · rw [List.getElem?_take, if_pos hj, List.getElem?_drop]
    have hj2 : 8 + j < zs.length := by omega
    simp [hj, show j % 16 < 16 by omega, gz, List.getElem?_eq_getElem hj2]
  · rw [List.getElem?_eq_none (by simp; omega), List.getElem?_eq_none (by simp; omega)]
section
variable {W : World} {b : Nat} {cls lab hop proto : Int} {g : G6} {vh vb : Value} {zs : List Int} {i : Nat}
theorem vC_ad (cls lab hop proto : Int) (L : List Int) (h : L.length = 32) (g : G6) (vh vb : Value) : vC (finF cls lab hop proto L h) g vh vb = [.int .u8 cls, .int .u32 lab, .int .u8 hop] ++ (u8L L ++ [vh, .bool g.fr, .int .u32 g.id, .int .i64 g.off, .bool g.more, .int .u8 proto, vb]) := rfl
theorem set_mid (p l r : List Value) (j : Nat) (x : Value) (hp : p.length = 3) (hj : j < l.length) : (p ++ (l ++ r)).set (3 + j) x = p ++ (l.set j x ++ r) := by
  rw [List.set_append_right _ _ (by omega), hp, show 3 + j - 3 = j by omega, List.set_append_left _ _ hj]
theorem ad_step (h : W.heap[b]? = some (BV (finF cls lab hop proto (adL zs i) (adL_len zs i)) g vh vb)) (hi : i < 16) :
    ((W.setCell ⟨b, 3 + i, none⟩ (.int .u8 (gz zs (8 + i)))).setCell ⟨b, 19 + i, none⟩ (.int .u8 (gz zs (24 + i)))).heap[b]? = some (BV (finF cls lab hop proto (adL zs (i + 1)) (adL_len zs (i + 1))) g vh vb) := by
  have h1 := blk_set h (3 + i) (.int .u8 (gz zs (8 + i)))
  have h2 := blk_set h1 (19 + i) (.int .u8 (gz zs (24 + i)))
  have hl : (u8L (adL zs i)).length = 32 := by simp [u8L, adL_len]
  have key : ((vC (finF cls lab hop proto (adL zs i) (adL_len zs i)) g vh vb).set (3 + i) (.int .u8 (gz zs (8 + i)))).set (19 + i) (.int .u8 (gz zs (24 + i))) = vC (finF cls lab hop proto (adL zs (i + 1)) (adL_len zs (i + 1))) g vh vb := by
    rw [vC_ad, vC_ad]
    rw [set_mid _ _ _ _ _ rfl (by rw [hl]; omega), show 19 + i = 3 + (16 + i) by omega, set_mid _ _ _ _ _ rfl (by rw [List.length_set, hl]; omega), adL_set zs hi]
  rw [h2, key]
theorem ad_cell (h : W.heap[b]? = some (BV (finF cls lab hop proto (adL zs i) (adL_len zs i)) g vh vb)) {j : Nat} (hj : j < 32) : ∃ x : Int, W.cell? ⟨b, 3 + j, none⟩ = some (.int .u8 x) := by
  refine ⟨(adL zs i)[j]'(by rw [adL_len]; exact hj), ?_⟩
  refine blk_cell h ?_
  rw [vC_ad, List.getElem?_append_right (by simp), List.getElem?_append_left (by simp [u8L, adL_len]; omega)]
  simp [u8L, adL_len, hj]
end
end Go.Proofs.YtpgnnplpcalbbaaGreat.V6
namespace Go.Proofs.YtpgnnplpcalbbaaGreat.V6
open Go Go.RowKit
/-- The reader among the heads (fr: a fragment header was read). -/
structure PI (w : World) (R V zb zo zl zc bs : Nat) (F : Int → F6) (zs : List Int) (E0 : PR) (kind : Int) (at' : Nat) (fr : Bool) (W : World) : Prop where
  le : at' ≤ zl
  rb : W.heap[R]? = some (DBox (.slice (some ⟨zb, zo, none⟩) zl zc) at' 0 0)
  bel : Sep (fun b => b = R ∨ b = V ∨ bs ≤ b) w W
  st : if fr = true then (∃ hs ds vh g p, W.heap[V]? = some (BV (F p) g vh (.slice none 0 0)) ∧ g.fr = true ∧ E0 = .ok hs g p (zs.drop at') ∧ HRow bs W vh hs ds ∧ hs.length ≤ 8)
    else (∃ n hs ds vh, W.heap[V]? = some (BV (F 0) zG vh (.slice none 0 0)) ∧ HRow bs W vh hs ds ∧ hs.length + n = 9 ∧ hs.length ≤ 8 ∧ endR (rdH n (zs.drop at') at' kind hs) = E0 ∧ (0 ≤ kind ∧ kind < 256))
def proF (F : Int → F6) : Prop := ∀ p x, { F p with proto := x } = F x
section
variable {w W : World} {R V zb zo zl zc bs at' : Nat} {F : Int → F6} {zs : List Int} {E0 : PR} {kind : Int}
theorem row_at {zs : List Int} {b off cap n : Nat} (h : RowS W (.slice (some ⟨b, off, none⟩) zs.length cap) zs b off cap) (hn : n < zs.length) : RowS W (.slice (some ⟨b, off + n, none⟩) (zs.drop n).length (cap - n)) (zs.drop n) b (off + n) (cap - n) := by
  have h1 := h.rest n (by omega)
  have hr := h.room
  rw [nxt_lt (by omega), restV_eq, nxt_lt (by omega)] at h1
  rw [List.length_drop]
  exact h1
theorem head_all (hF : proF F) (hi : PI w R V zb zo zl zc bs F zs E0 kind at' false W) (hk : isH kind = true ∨ kind = 44) (hrs : RowS W (.slice (some ⟨zb, zo, none⟩) zl zc) zs zb zo zc) (hz : zl ≤ 1000000000) (hzl : zs.length = zl) (hRV : R ≠ V) (hzR : zb ≠ R) (hzV : zb ≠ V) (hzb : zb < bs) (hRb : R < bs) (hVb : V < bs) (hbs : bs ≤ W.heap.size) :
    Calls Tryz.prog 230 #[.pointer (some ⟨R, 0, none⟩), .pointer (some ⟨V, 0, none⟩), .int .u8 kind] W fun e w' =>
      (∃ er : Int, e = .returned (.tuple #[.int .u8 0, .bool false]) ∧ w'.heap[R]? = some (DBox (.slice (some ⟨zb, zo, none⟩) zl zc) at' er at') ∧ E0 = .bad at' er ∧ Sep (fun b => b = R ∨ b = V ∨ bs ≤ b) w w') ∨
      (∃ kind' at2 fr, e = .returned (.tuple #[.int .u8 kind', .bool true]) ∧ PI w R V zb zo zl zc bs F zs E0 kind' at2 fr w' ∧ at' < at2) := by
  obtain ⟨hle, hR, hB, hst⟩ := hi
  simp only [Bool.false_eq_true, if_false] at hst
  obtain ⟨n, hs, ds, vh, hV, hrow, hn9, hn8, hE, hkf⟩ := hst
  have hroom : zl ≤ zc := by have := hrs.room; omega
  obtain ⟨n, rfl⟩ : ∃ m, n = m + 1 := ⟨n - 1, by omega⟩
  have hlen : (zs.drop at').length = zl - at' := by rw [List.length_drop, hzl]
  by_cases h8 : zl - at' < 8
  · refine (head_short hR hle h8 (by omega)).mono ?_
    rintro e w' ⟨rfl, hr, hs'⟩
    refine .inl ⟨50, rfl, hr, ?_, hB.trans (hs'.mono (fun b _ hb => .inl hb))⟩
    rw [← hE]
    rcases hk with hk | hk
    · rw [rdH, if_pos hk, if_pos (by omega), endR]
    · rw [rdH, if_neg (by rw [hk]; decide), endR_short hk (by omega)]
  · have hat : at' < zl := by omega
    have hrow8 := row_at (n := at') (by rw [hzl]; exact hrs) (by omega)
    have hfit := hrow8.fit
    by_cases h44 : kind = 44
    · subst h44
      refine (head_frag hR hV hle (by omega) hroom (by omega) hfit (fun j hj => hrow8.cell j (by omega)) hRV hzR hzV).mono ?_
      rintro e w' ⟨rfl, hr, hv, hs'⟩
      rw [hF] at hv
      refine .inr ⟨0, at' + 8, true, rfl, ⟨by omega, hr, hB.trans (hs'.mono (fun b _ hb => hb.elim .inl (fun h => .inr (.inl h)))), ?_⟩, by omega⟩
      simp only [if_true]
      refine ⟨hs, ds, vh, _, _, hv, rfl, ?_, hrow.sep hs' (fun b hb e => by omega), hn8⟩
      rw [← hE, rdH, if_neg (by decide), endR_frag rfl (by omega), List.drop_drop]
    · have hkk : isH kind = true := hk.resolve_right h44
      obtain ⟨k1, hk1⟩ : ∃ k1 : Nat, gz (zs.drop at') 1 = (k1 : Int) := ⟨(gz (zs.drop at') 1).toNat, by have := gz_fit hfit 1; omega⟩
      have hk256 : k1 < 256 := by have := gz_fit hfit 1; omega
      have hsz : szH (zs.drop at') = 8 * (k1 + 1) := by unfold szH; rw [hk1]; simp; omega
      have hc1 : W.cell? ⟨zb, zo + at' + 1, none⟩ = some (.int .u8 (k1 : Int)) := by rw [← hk1]; exact hrow8.cell 1 (by omega)
      obtain ⟨va, vm, ev⟩ := hrow.slc
      by_cases hs2 : zl - at' < 8 * (k1 + 1)
      · rw [ev] at hV
        refine (head_short2 hR hV hle (by omega) hroom (by omega) h44 hc1 hk256 hs2).mono ?_
        rintro e w' ⟨rfl, hr, hs'⟩
        refine .inl ⟨50, rfl, hr, ?_, hB.trans (hs'.mono (fun b _ hb => .inl hb))⟩
        rw [← hE, rdH, if_pos hkk, if_neg (by omega), if_pos (by omega), endR]
      · by_cases hgood : hs.length < 8 ∧ kindB kind hs.length = true
        · have hkb : kind = 0 → hs.length = 0 := fun e => by
            have := hgood.2
            unfold kindB at this
            rw [e] at this
            have h9 : isH 0 = true ∧ hs = [] := by simpa using this
            rw [h9.2]
            rfl
          refine (head_good (f := F 0) (g := zG) hR hV hle (by omega) hlen hroom hz h44 hkf hrow8 (by omega) ⟨hgood.1, hkb⟩ hrow hRV hzR hzV hzb hRb hVb hbs).mono ?_
          rintro e w' ⟨rfl, hr, ⟨vh', ds', hv, hrow'⟩, hs'⟩
          refine .inr ⟨gz (zs.drop at') 0, at' + szH (zs.drop at'), false, rfl, ⟨by omega, hr, hB.trans hs', ?_⟩, by omega⟩
          simp only [Bool.false_eq_true, if_false]
          refine ⟨n, _, ds', vh', hv, hrow', by simp; omega, by simp; omega, ?_, gz_fit hfit 0⟩
          rw [← hE, rdH_go hkk (by omega) (by omega) hgood, List.drop_drop]
        · have hE' : E0 = .bad at' 53 := by rw [← hE, rdH, if_pos hkk, if_neg (by omega), if_neg (by omega), if_neg hgood, endR]
          rw [ev] at hV
          by_cases h0 : kind = 0 ∧ 0 < hs.length
          · refine (head_fullA hR hV hle (by omega) hroom (by omega) h44 hc1 hk256 (by omega) h0.1 h0.2).mono ?_
            rintro e w' ⟨rfl, hr, hs'⟩
            exact .inl ⟨53, rfl, hr, hE', hB.trans (hs'.mono (fun b _ hb => .inl hb))⟩
          · have h88 : 8 ≤ hs.length := by
              by_cases h9 : hs.length < 8
              · exfalso
                apply hgood
                refine ⟨h9, ?_⟩
                unfold kindB
                rw [hkk]
                by_cases e0 : kind = 0
                · have : hs.length = 0 := by
                    by_cases e1 : 0 < hs.length
                    · exact absurd ⟨e0, e1⟩ h0
                    · omega
                  simp [this]
                · simp [e0]
              · omega
            refine (head_fullB hR hV hle (by omega) hroom (by omega) h44 hc1 hk256 (by omega) h88 h0).mono ?_
            rintro e w' ⟨rfl, hr, hs'⟩
            exact .inl ⟨53, rfl, hr, hE', hB.trans (hs'.mono (fun b _ hb => .inl hb))⟩
end
end Go.Proofs.YtpgnnplpcalbbaaGreat.V6
