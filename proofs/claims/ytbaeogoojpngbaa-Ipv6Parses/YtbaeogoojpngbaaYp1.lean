/-
  The document's reader: fail; the first tests of head.
-/
import Derived.Test.YtbaeogoojpngbaaYo4
import Derived.BigRegion
namespace Go.Proofs.Ytbaeogoojpngbaa
open Go Go.RowKit
set_option linter.unusedVariables false
set_option linter.unusedSimpArgs false

abbrev DBox (b : Value) (at' bad pos : Int) : Obj := .cells [b, .int .i64 at', .int .i64 bad, .int .i64 pos].toArray 84
section
variable {W : World} {R : Nat} {b : Value} {at' bad pos : Int}
set_option maxHeartbeats 1000000 in
set_option maxRecDepth 100000 in
theorem fail_calls (h : W.heap[R]? = some (DBox b at' bad pos)) (e a : Int) :
    Calls Try.prog 52 #[.pointer (some ⟨R, 0, none⟩), .int .i64 e, .int .i64 a] W fun e' w' => e' = .returned (.bool false) ∧ w'.heap[R]? = some (DBox b at' e a) ∧ Only R W w' := by
  have m2 : W.cell? ⟨R, 2, none⟩ = some (.int .i64 bad) := blk_cell h (j := 2) rfl
  have m3 : W.cell? ⟨R, 3, none⟩ = some (.int .i64 pos) := blk_cell h (j := 3) rfl
  have o2 := blk_open h 2
  have o3 := blk_open h 3
  have h1 := blk_set h 2 (.int .i64 e)
  have h2 := blk_set h1 3 (.int .i64 a)
  have n3 : (W.setCell ⟨R, 2, none⟩ (.int .i64 e)).cell? ⟨R, 3, none⟩ = some (.int .i64 pos) := blk_cell h1 (j := 3) rfl
  have o3' := blk_open h1 3
  have HH : Hid (((W.setCell ⟨R, 2, none⟩ (.int .i64 e)).setCell ⟨R, 3, none⟩ (.int .i64 a)).heap[R]? = some (DBox b at' e a)) := h2
  have HO : Hid (Only R W ((W.setCell ⟨R, 2, none⟩ (.int .i64 e)).setCell ⟨R, 3, none⟩ (.int .i64 a))) := ((Only.refl R W).set 2 _).set 3 _
  clear h h1 h2
  go_enter Try.func52, Try.ntmps52
  go_wp2
  go_ret
  exact ⟨rfl, HH.out, HO.out⟩
end
section
variable {W : World} {R V : Nat} {zb zo zl zc at' : Nat} {bad pos kind : Int} 
set_option maxHeartbeats 4000000 in
set_option maxRecDepth 100000 in
theorem head_short (h : W.heap[R]? = some (DBox (.slice (some ⟨zb, zo, none⟩) zl zc) at' bad pos)) (hl : at' ≤ zl) (h8 : zl - at' < 8) (hz : zl ≤ 140737488351232) :
    Calls Try.prog 51 #[.pointer (some ⟨R, 0, none⟩), .pointer (some ⟨V, 0, none⟩), .int .u8 kind] W fun e w' => e = .returned (.tuple #[.int .u8 0, .bool false]) ∧ w'.heap[R]? = some (DBox (.slice (some ⟨zb, zo, none⟩) zl zc) at' 50 at') ∧ Sep (fun b => b = R) W w' := by
  have m0 : W.cell? ⟨R, 0, none⟩ = some (.slice (some ⟨zb, zo, none⟩) zl zc) := blk_cell h (j := 0) rfl
  have m1 : W.cell? ⟨R, 1, none⟩ = some (.int .i64 at') := blk_cell h (j := 1) rfl
  have q1 : decide ((zl : Int) - (at' : Int) < 8) = true := by simp; omega
  have HF : Hid (∀ W', W'.heap[R]? = some (DBox (.slice (some ⟨zb, zo, none⟩) zl zc) at' bad pos) → Calls Try.prog 52 #[.pointer (some ⟨R, 0, none⟩), .int .i64 50, .int .i64 at'] W' fun e' w' => e' = .returned (.bool false) ∧ w'.heap[R]? = some (DBox (.slice (some ⟨zb, zo, none⟩) zl zc) at' 50 at') ∧ Only R W' w') := fun W' h' => fail_calls h' 50 at'
  have HB : Hid (W.heap[R]? = some (DBox (.slice (some ⟨zb, zo, none⟩) zl zc) at' bad pos)) := h
  clear h
  go_enter Try.func51, Try.ntmps51
  go_wp2_with fail
  go_region
  go_wp2_with fail
  refine Calls.mono (HF.out _ HB.out) ?_
  rintro e w' ⟨rfl, hh, ho⟩
  have HH : Hid _ := hh
  have HO : Hid (Sep (fun b => b = R) W w') := (Sep.of_below (Below.refl _ W).drew).trans (Sep.of_only (O := fun b => b = R) ho rfl)
  clear hh ho
  go_wp2
  go_ret2
  exact ⟨rfl, HH.out, HO.out⟩
theorem vs40 {W : World} {b : Nat} {f : F6} {g : G6} {vh vb : Value} (h : W.heap[b]? = some (BV f g vh vb)) (x : Int) : (W.setCell ⟨b, 40, none⟩ (.int .u8 x)).heap[b]? = some (BV { f with proto := x } g vh vb) := by
  rw [blk_set h, vC_set 5]; rfl
end

end Go.Proofs.Ytbaeogoojpngbaa
