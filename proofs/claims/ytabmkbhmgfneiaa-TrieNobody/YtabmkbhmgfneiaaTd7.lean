/-
  An operation on a table as an argument.
-/
import Derived.Test.YtabmkbhmgfneiaaTd6
import Derived.Test.YtabmkbhmgfneiaaAddrArg
namespace Go.Proofs.Ytabmkbhmgfneiaa
open Go Go.RowKit
set_option linter.unusedVariables false
set_option linter.unusedSimpArgs false
open Go.ChangeShapes Go.WideShapes Go.ChangeAt

theorem list6 {α : Type} {l : List α} (h : l.length = 6) : ∃ x0 x1 x2 x3 x4 x5, l = [x0, x1, x2, x3, x4, x5] := by
  match l, h with
  | [x0, x1, x2, x3, x4, x5], _ => exact ⟨x0, x1, x2, x3, x4, x5, rfl⟩
theorem split44 {l : List Value} (h : l.length = 44) : l = (l.drop 0).take 1 ++ ((l.drop 1).take 5 ++ ((l.drop 6).take 17 ++ ((l.drop 23).take 4 ++ ((l.drop 27).take 16 ++ ((l.drop 43).take 1))))) := by
  rw [show (l.drop 43).take 1 = l.drop 43 from List.take_of_length_le (by simp; omega)]
  rw [show (l.drop 27).take 16 ++ l.drop 43 = l.drop 27 by have := List.take_append_drop 16 (l.drop 27); rwa [List.drop_drop] at this]
  rw [show (l.drop 23).take 4 ++ l.drop 27 = l.drop 23 by have := List.take_append_drop 4 (l.drop 23); rwa [List.drop_drop] at this]
  rw [show (l.drop 6).take 17 ++ l.drop 23 = l.drop 6 by have := List.take_append_drop 17 (l.drop 6); rwa [List.drop_drop] at this]
  rw [show (l.drop 1).take 5 ++ l.drop 6 = l.drop 1 by have := List.take_append_drop 5 (l.drop 1); rwa [List.drop_drop] at this]
  rw [show (l.drop 0).take 1 ++ l.drop 1 = l.drop 0 by have := List.take_append_drop 1 (l.drop 0); rwa [List.drop_drop] at this]
  rw [List.drop_zero]
set_option maxRecDepth 100000 in
set_option maxHeartbeats 1000000 in
theorem open_op {H : Type} {enc : TypeId × Value → H} {W : World} {v : Value} {d : DataW H} {p : List MemPlace} (h : DataW.Trod enc Try.prog W 0 (fun _ => true) true 41 v d p) :
    ∃ kd cP cQ a b z, v = .agg (opC kd cP cQ a b z).toArray ∧ cP.length = 5 ∧ cQ.length = 17 ∧ a.length = 4 ∧ b.length = 16 ∧ FitB a ∧ FitB b := by
  obtain ⟨fuel, hf⟩ := h
  obtain ⟨xs, m, _, hx, hl, hxl, hi⟩ := DataW.trod_struct Try.underlying41 hf
  have c44 : Try.prog.cellsOf 41 = 44 := by kernel_rfl
  rw [c44] at hl
  obtain ⟨x0, x1, x2, x3, x4, x5, rfl⟩ := list6 hxl
  have g0 : DataW.trod enc Try.prog W 0 (fun _ => true) true m 3 ((v.cells.toList.drop 0).take 1) = some x0 := by
    have e : DataW.trod enc Try.prog W 0 (fun _ => true) true m 3 ((v.cells.toList.drop 0).take (Try.prog.cellsOf 3)) = some x0 := hi 0 _ rfl
    rwa [show Try.prog.cellsOf 3 = 1 by kernel_rfl] at e
  have g3 : DataW.trod enc Try.prog W 0 (fun _ => true) true m 33 ((v.cells.toList.drop 23).take 4) = some x3 := by
    have e : DataW.trod enc Try.prog W 0 (fun _ => true) true m 33 ((v.cells.toList.drop 23).take (Try.prog.cellsOf 33)) = some x3 := hi 3 _ rfl
    rwa [show Try.prog.cellsOf 33 = 4 by kernel_rfl] at e
  have g4 : DataW.trod enc Try.prog W 0 (fun _ => true) true m 37 ((v.cells.toList.drop 27).take 16) = some x4 := by
    have e : DataW.trod enc Try.prog W 0 (fun _ => true) true m 37 ((v.cells.toList.drop 27).take (Try.prog.cellsOf 37)) = some x4 := hi 4 _ rfl
    rwa [show Try.prog.cellsOf 37 = 16 by kernel_rfl] at e
  have g5 : DataW.trod enc Try.prog W 0 (fun _ => true) true m 3 ((v.cells.toList.drop 43).take 1) = some x5 := by
    have e : DataW.trod enc Try.prog W 0 (fun _ => true) true m 3 ((v.cells.toList.drop 43).take (Try.prog.cellsOf 3)) = some x5 := hi 5 _ rfl
    rwa [show Try.prog.cellsOf 3 = 1 by kernel_rfl] at e
  obtain ⟨kd, e0, _, f0⟩ := DataW.trod_int Try.underlying3 g0
  obtain ⟨A, lA, e3, fA⟩ := cells_arr Try.underlying33 (by kernel_rfl) (by kernel_rfl) g3
  obtain ⟨B, lB, e4, fB⟩ := cells_arr Try.underlying37 (by kernel_rfl) (by kernel_rfl) g4
  obtain ⟨z, e5, _, f5⟩ := DataW.trod_int Try.underlying3 g5
  have hall := split44 hl
  rw [e0, e3, e4, e5] at hall
  have hv := agg_of hall (by simp only [List.length_append, List.length_cons]; omega)
  exact ⟨kd, _, _, A, B, z, hv, by rw [List.length_take, List.length_drop, hl]; rfl, by rw [List.length_take, List.length_drop, hl]; rfl, lA, lB, fA, fB⟩
set_option maxRecDepth 100000 in
theorem trieNobody_open {H : Type} {enc : TypeId × Value → H} {W : World} {base : Nat} (v0 : Value) {d0 : DataW H} {p0 : List MemPlace}
    (o0 : Value.okWide Try.prog W .any base 41 v0) (h0 : DataW.Trod enc Try.prog W 0 (fun _ => true) true 41 v0 d0 p0) (z0 : ∀ k ∈ d0.weights Try.prog 41, k ≤ reachBytes) :
    Calls Try.prog 7 #[v0] W fun e w' => e = .returned (.bool true) ∧ Below W.heap.size W w' := by
  obtain ⟨kd, cP, cQ, a, b, z, rfl, hP, hQ, ha, hb, fa, fb⟩ := open_op h0
  exact trieNobody_walk hP hQ ha hb fa fb

end Go.Proofs.Ytabmkbhmgfneiaa
