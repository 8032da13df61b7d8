/-
  Rules and edges that came in.
-/
import Derived.Test.YtloadmpappjceaaDoorMc2
import Derived.Deep.Strs
namespace Go.Proofs.YtloadmpappjceaaDoor
open Go Go.RowKit
set_option linter.unusedVariables false
set_option linter.unusedSimpArgs false

theorem list3' {α : Type} {l : List α} (h : l.length = 3) : ∃ a b c, l = [a, b, c] := by
  match l, h with
  | [a, b, c], _ => exact ⟨a, b, c, rfl⟩
section
variable {H : Type} {enc : TypeId × Value → H} {W : World} {fuel : Nat} {cs : List Value} {x : DataW H × List MemPlace}
theorem cells_p6 (h : DataW.trod enc Tryd.prog W 0 (fun _ => true) true fuel 25 cs = some x) : ∃ l n, cs = cp6 l n ∧ FitB l ∧ l.length = 16 ∧ In64 n := by
  obtain ⟨y0, y1, m, _, hl, h0, h1⟩ := Go.ChangeShapes.trod_struct2 Tryd.underlying25 h
  have c17 : Tryd.prog.cellsOf 25 = 17 := by kernel_rfl
  rw [c17] at hl
  have h0' : DataW.trod enc Tryd.prog W 0 (fun _ => true) true m 23 ((cs.drop 0).take (Tryd.prog.cellsOf 23)) = some y0 := h0
  have h1' : DataW.trod enc Tryd.prog W 0 (fun _ => true) true m 3 ((cs.drop 16).take (Tryd.prog.cellsOf 3)) = some y1 := h1
  rw [show Tryd.prog.cellsOf 23 = 16 by kernel_rfl] at h0'
  rw [show Tryd.prog.cellsOf 3 = 1 by kernel_rfl] at h1'
  obtain ⟨zs, hzl, hcs, hfit⟩ := cells_arr Tryd.underlying23 (by kernel_rfl) (by kernel_rfl) h0'
  obtain ⟨n, hn, _, wf⟩ := DataW.trod_int Tryd.underlying3 h1'
  refine ⟨zs, n, ?_, hfit, hzl, bounds_i64 wf⟩
  have e : cs = (cs.drop 0).take 16 ++ (cs.drop 16).take 1 := by
    rw [List.take_of_length_le (l := cs.drop 16) (by simp; omega)]
    simp
  rw [e, hcs, hn]
  rfl
theorem cells_p4 (h : DataW.trod enc Tryd.prog W 0 (fun _ => true) true fuel 29 cs = some x) : ∃ l n, cs = cp4 l n ∧ FitB l ∧ l.length = 4 ∧ In64 n := by
  obtain ⟨y0, y1, m, _, hl, h0, h1⟩ := Go.ChangeShapes.trod_struct2 Tryd.underlying29 h
  have c17 : Tryd.prog.cellsOf 29 = 5 := by kernel_rfl
  rw [c17] at hl
  have h0' : DataW.trod enc Tryd.prog W 0 (fun _ => true) true m 27 ((cs.drop 0).take (Tryd.prog.cellsOf 27)) = some y0 := h0
  have h1' : DataW.trod enc Tryd.prog W 0 (fun _ => true) true m 3 ((cs.drop 4).take (Tryd.prog.cellsOf 3)) = some y1 := h1
  rw [show Tryd.prog.cellsOf 27 = 4 by kernel_rfl] at h0'
  rw [show Tryd.prog.cellsOf 3 = 1 by kernel_rfl] at h1'
  obtain ⟨zs, hzl, hcs, hfit⟩ := cells_arr Tryd.underlying27 (by kernel_rfl) (by kernel_rfl) h0'
  obtain ⟨n, hn, _, wf⟩ := DataW.trod_int Tryd.underlying3 h1'
  refine ⟨zs, n, ?_, hfit, hzl, bounds_i64 wf⟩
  have e : cs = (cs.drop 0).take 4 ++ (cs.drop 4).take 1 := by
    rw [List.take_of_length_le (l := cs.drop 4) (by simp; omega)]
    simp
  rw [e, hcs, hn]
  rfl
theorem cells_ps (h : DataW.trod enc Tryd.prog W 0 (fun _ => true) true fuel 34 cs = some x) : ∃ o l p, cs = PSL o l p ∧ In64 o ∧ In64 l ∧ 0 ≤ p ∧ p < 65536 := by
  obtain ⟨y0, y1, y2, m, _, hl, h0, h1, h2⟩ := Go.Deep.trod_struct3 Tryd.underlying34 h
  rw [show Tryd.prog.cellsOf 34 = 3 by kernel_rfl] at hl
  have h0' : DataW.trod enc Tryd.prog W 0 (fun _ => true) true m 3 ((cs.drop 0).take (Tryd.prog.cellsOf 3)) = some y0 := h0
  have h1' : DataW.trod enc Tryd.prog W 0 (fun _ => true) true m 3 ((cs.drop 1).take (Tryd.prog.cellsOf 3)) = some y1 := h1
  have h2' : DataW.trod enc Tryd.prog W 0 (fun _ => true) true m 32 ((cs.drop 2).take (Tryd.prog.cellsOf 32)) = some y2 := h2
  rw [show Tryd.prog.cellsOf 3 = 1 by kernel_rfl] at h0' h1'
  rw [show Tryd.prog.cellsOf 32 = 1 by kernel_rfl] at h2'
  obtain ⟨n0, e0, _, wf0⟩ := DataW.trod_int Tryd.underlying3 h0'
  obtain ⟨n1, e1, _, wf1⟩ := DataW.trod_int Tryd.underlying3 h1'
  obtain ⟨n2, e2, _, wf2⟩ := DataW.trod_int Tryd.underlying32 h2'
  have b2 := bounds_u16 wf2
  refine ⟨n0, n1, n2, ?_, bounds_i64 wf0, bounds_i64 wf1, b2.1, by omega⟩
  clear h h0 h1 h2 h0' h1' h2'
  obtain ⟨x, y, z, rfl⟩ := list3' hl
  simp at e0 e1 e2
  rw [e0, e1, e2]
theorem list5 {α : Type} {l : List α} (h : l.length = 5) : ∃ a b c d e, l = [a, b, c, d, e] := by
  match l, h with
  | [a, b, c, d, e], _ => exact ⟨a, b, c, d, e, rfl⟩
theorem list4' {α : Type} {l : List α} (h : l.length = 4) : ∃ a b c d, l = [a, b, c, d] := by
  match l, h with
  | [a, b, c, d], _ => exact ⟨a, b, c, d, rfl⟩
theorem cut_at (L : List Value) (n k : Nat) : L.drop n = (L.drop n).take k ++ L.drop (n + k) := by
  rw [← List.drop_drop, List.take_append_drop]
end

set_option maxRecDepth 100000 in
theorem open_rule {H : Type} {enc : TypeId × Value → H} {W : World} {v : Value} {d : DataW H} {p : List MemPlace} (h : DataW.Trod enc Tryd.prog W 0 (fun _ => true) true 31 v d p) : ∃ r : Ru, v = RV r ∧ r.In := by
  obtain ⟨fuel, hf⟩ := h
  obtain ⟨xs, m, _, hx, hl, hxl, hi⟩ := DataW.trod_struct Tryd.underlying31 hf
  rw [show Tryd.prog.cellsOf 31 = 25 by kernel_rfl] at hl
  obtain ⟨x0, x1, x2, x3, x4, rfl⟩ := list5 hxl
  have g0 : DataW.trod enc Tryd.prog W 0 (fun _ => true) true m 25 ((v.cells.toList.drop 0).take 17) = some x0 := by
    have e : DataW.trod enc Tryd.prog W 0 (fun _ => true) true m 25 ((v.cells.toList.drop 0).take (Tryd.prog.cellsOf 25)) = some x0 := hi 0 _ rfl
    rwa [show Tryd.prog.cellsOf 25 = 17 by kernel_rfl] at e
  have g1 : DataW.trod enc Tryd.prog W 0 (fun _ => true) true m 29 ((v.cells.toList.drop 17).take 5) = some x1 := by
    have e : DataW.trod enc Tryd.prog W 0 (fun _ => true) true m 29 ((v.cells.toList.drop 17).take (Tryd.prog.cellsOf 29)) = some x1 := hi 1 _ rfl
    rwa [show Tryd.prog.cellsOf 29 = 5 by kernel_rfl] at e
  have g2 : DataW.trod enc Tryd.prog W 0 (fun _ => true) true m 3 ((v.cells.toList.drop 22).take 1) = some x2 := by
    have e : DataW.trod enc Tryd.prog W 0 (fun _ => true) true m 3 ((v.cells.toList.drop 22).take (Tryd.prog.cellsOf 3)) = some x2 := hi 2 _ rfl
    rwa [show Tryd.prog.cellsOf 3 = 1 by kernel_rfl] at e
  have g3 : DataW.trod enc Tryd.prog W 0 (fun _ => true) true m 3 ((v.cells.toList.drop 23).take 1) = some x3 := by
    have e : DataW.trod enc Tryd.prog W 0 (fun _ => true) true m 3 ((v.cells.toList.drop 23).take (Tryd.prog.cellsOf 3)) = some x3 := hi 3 _ rfl
    rwa [show Tryd.prog.cellsOf 3 = 1 by kernel_rfl] at e
  have g4 : DataW.trod enc Tryd.prog W 0 (fun _ => true) true m 4 ((v.cells.toList.drop 24).take 1) = some x4 := by
    have e : DataW.trod enc Tryd.prog W 0 (fun _ => true) true m 4 ((v.cells.toList.drop 24).take (Tryd.prog.cellsOf 4)) = some x4 := hi 4 _ rfl
    rwa [show Tryd.prog.cellsOf 4 = 1 by kernel_rfl] at e
  obtain ⟨l6, n6, c0, f6, k6, b6⟩ := cells_p6 g0
  obtain ⟨l4, n4, c1, f4, k4, b4⟩ := cells_p4 g1
  obtain ⟨ea, c2, _, wf2⟩ := DataW.trod_int Tryd.underlying3 g2
  obtain ⟨off, c3, _, wf3⟩ := DataW.trod_int Tryd.underlying3 g3
  obtain ⟨fmr, c4, _⟩ := DataW.trod_bool Tryd.underlying4 g4
  refine ⟨⟨l6, n6, l4, n4, ea, off, fmr⟩, ?_, ⟨f6, k6, b6, f4, k4, b4, bounds_i64 wf2, bounds_i64 wf3⟩⟩
  refine agg_of ?_ (by rw [rc_length ⟨f6, k6, b6, f4, k4, b4, bounds_i64 wf2, bounds_i64 wf3⟩]; omega)
  generalize v.cells.toList = L at *
  have e : L = (L.drop 0).take 17 ++ ((L.drop 17).take 5 ++ ((L.drop 22).take 1 ++ ((L.drop 23).take 1 ++ (L.drop 24).take 1))) := by
    rw [List.take_of_length_le (l := L.drop 24) (by simp; omega), ← cut_at L 23 1, ← cut_at L 22 1, ← cut_at L 17 5, ← cut_at L 0 17]
    rfl
  rw [e, c0, c1, c2, c3, c4]
  rfl

set_option maxRecDepth 100000 in
theorem open_edge {H : Type} {enc : TypeId × Value → H} {W : World} {v : Value} {d : DataW H} {p : List MemPlace} (h : DataW.Trod enc Tryd.prog W 0 (fun _ => true) true 45 v d p) : ∃ e : Ed, v = EV e ∧ e.In := by
  obtain ⟨fuel, hf⟩ := h
  obtain ⟨xs, m, _, hx, hl, hxl, hi⟩ := DataW.trod_struct Tryd.underlying45 hf
  rw [show Tryd.prog.cellsOf 45 = 41 by kernel_rfl] at hl
  obtain ⟨x0, x1, x2, x3, rfl⟩ := list4' hxl
  have g0 : DataW.trod enc Tryd.prog W 0 (fun _ => true) true m 29 ((v.cells.toList.drop 0).take 5) = some x0 := by
    have e : DataW.trod enc Tryd.prog W 0 (fun _ => true) true m 29 ((v.cells.toList.drop 0).take (Tryd.prog.cellsOf 29)) = some x0 := hi 0 _ rfl
    rwa [show Tryd.prog.cellsOf 29 = 5 by kernel_rfl] at e
  have g1 : DataW.trod enc Tryd.prog W 0 (fun _ => true) true m 34 ((v.cells.toList.drop 5).take 3) = some x1 := by
    have e : DataW.trod enc Tryd.prog W 0 (fun _ => true) true m 34 ((v.cells.toList.drop 5).take (Tryd.prog.cellsOf 34)) = some x1 := hi 1 _ rfl
    rwa [show Tryd.prog.cellsOf 34 = 3 by kernel_rfl] at e
  have g2 : DataW.trod enc Tryd.prog W 0 (fun _ => true) true m 25 ((v.cells.toList.drop 8).take 17) = some x2 := by
    have e : DataW.trod enc Tryd.prog W 0 (fun _ => true) true m 25 ((v.cells.toList.drop 8).take (Tryd.prog.cellsOf 25)) = some x2 := hi 2 _ rfl
    rwa [show Tryd.prog.cellsOf 25 = 17 by kernel_rfl] at e
  have g3 : DataW.trod enc Tryd.prog W 0 (fun _ => true) true m 23 ((v.cells.toList.drop 25).take 16) = some x3 := by
    have e : DataW.trod enc Tryd.prog W 0 (fun _ => true) true m 23 ((v.cells.toList.drop 25).take (Tryd.prog.cellsOf 23)) = some x3 := hi 3 _ rfl
    rwa [show Tryd.prog.cellsOf 23 = 16 by kernel_rfl] at e
  obtain ⟨l4, n4, c0, f4, k4, b4⟩ := cells_p4 g0
  obtain ⟨o, l, q, c1, bo, bl, bp⟩ := cells_ps g1
  obtain ⟨l6, n6, c2, f6, k6, b6⟩ := cells_p6 g2
  obtain ⟨ow, kw, c3, fw⟩ := cells_arr Tryd.underlying23 (by kernel_rfl) (by kernel_rfl) g3
  refine ⟨⟨l4, n4, o, l, q, l6, n6, ow⟩, ?_, ⟨f4, k4, b4, bo, bl, bp, f6, k6, b6, fw, kw⟩⟩
  refine agg_of ?_ (by rw [edC_length k4 k6 kw]; omega)
  generalize v.cells.toList = L at *
  have e : L = (L.drop 0).take 5 ++ ((L.drop 5).take 3 ++ ((L.drop 8).take 17 ++ (L.drop 25).take 16)) := by
    rw [List.take_of_length_le (l := L.drop 25) (by simp; omega), ← cut_at L 8 17, ← cut_at L 5 3, ← cut_at L 0 5]
    rfl
  rw [e, c0, c1, c2, c3]
  rfl

end Go.Proofs.YtloadmpappjceaaDoor
