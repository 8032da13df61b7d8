/-
  Addresses and prefixes that came in, as numbers.
-/
import Derived.Test.YtabmkbhmgfneiaaAddrRcov
import Derived.OpenShut
import Derived.ChangeArms
import Derived.ChangeSame
import Derived.ProofKit
namespace Go.Proofs.Ytabmkbhmgfneiaa
open Go Go.RowKit
set_option linter.unusedVariables false
set_option linter.unusedSimpArgs false

theorem cells_arr {H : Type} {enc : TypeId × Value → H} {w : World} {base : Nat} {spare : Nat → Bool} {held : Bool} {fuel : Nat} {t : TypeId} {cs : List Value} {x : DataW H × List MemPlace} {n : Nat}
    (ht : Try.prog.underlying t = some (.array n 5)) (ct : Try.prog.cellsOf t = n) (ce : Try.prog.cellsOf 5 = 1) (h : DataW.trod enc Try.prog w base spare held fuel t cs = some x) :
    ∃ zs : List Int, zs.length = n ∧ cs = zs.map (fun z => Value.int .u8 z) ∧ FitB zs := by
  obtain ⟨xs, m, _, _, hl, hx, hi⟩ := DataW.trod_array ht h
  rw [ct] at hl
  have each : ∀ i, i < n → ∃ z : Int, cs[i]? = some (.int .u8 z) ∧ 0 ≤ z ∧ z < 256 := by
    intro i hin
    have h1 := hi i hin
    rw [ce, Nat.mul_one, List.getElem?_eq_getElem (by omega)] at h1
    obtain ⟨z, e, _, wf⟩ := DataW.trod_int Try.underlying5 h1
    have hb := bounds_u8 wf
    refine ⟨z, ?_, by omega, by omega⟩
    have e2 := congrArg (fun l : List Value => l[0]?) e
    simpa [List.getElem?_take, List.getElem?_drop] using e2
  refine ⟨cs.map intOf, by simpa using hl, ?_, ?_⟩
  · refine List.ext_getElem? fun i => ?_
    by_cases c : i < n
    · obtain ⟨z, hz, _⟩ := each i c
      simp [hz, intOf]
    · rw [List.getElem?_eq_none (by omega), List.getElem?_eq_none (by simp; omega)]
  · intro z hz
    obtain ⟨v, hv, rfl⟩ := List.mem_map.1 hz
    obtain ⟨i, hi', e⟩ := List.getElem_of_mem hv
    obtain ⟨z, hz2, hb⟩ := each i (by omega)
    rw [List.getElem?_eq_getElem hi', e] at hz2
    cases hz2
    exact hb

theorem agg_of {v : Value} {l : List Value} (h : v.cells.toList = l) (hl : 2 ≤ l.length) : v = .agg l.toArray := by
  cases v
  case agg cs => simp only [Value.cells] at h; rw [← h]
  all_goals (simp [Value.cells] at h; subst h; simp at hl)

theorem open_addr4 {H : Type} {enc : TypeId × Value → H} {W : World} {v : Value} {d : DataW H} {p : List MemPlace} (h : DataW.Trod enc Try.prog W 0 (fun _ => true) true 33 v d p) :
    ∃ a0 a1 a2 a3, v = A4 a0 a1 a2 a3 ∧ (0 ≤ a0 ∧ a0 < 256) ∧ (0 ≤ a1 ∧ a1 < 256) ∧ (0 ≤ a2 ∧ a2 < 256) ∧ (0 ≤ a3 ∧ a3 < 256) := by
  obtain ⟨fuel, hf⟩ := h
  obtain ⟨zs, hl, hcs, hfit⟩ := cells_arr Try.underlying33 (by kernel_rfl) (by kernel_rfl) hf
  have hv := agg_of hcs (by simp; omega)
  obtain ⟨x0, x1, x2, x3, rfl⟩ := list4 hl
  exact ⟨x0, x1, x2, x3, hv, hfit _ (by simp), hfit _ (by simp), hfit _ (by simp), hfit _ (by simp)⟩

set_option maxRecDepth 100000 in
theorem open_prefix4 {H : Type} {enc : TypeId × Value → H} {W : World} {v : Value} {d : DataW H} {p : List MemPlace} (h : DataW.Trod enc Try.prog W 0 (fun _ => true) true 35 v d p) :
    ∃ a0 a1 a2 a3 n, v = P4 a0 a1 a2 a3 n ∧ (0 ≤ a0 ∧ a0 < 256) ∧ (0 ≤ a1 ∧ a1 < 256) ∧ (0 ≤ a2 ∧ a2 < 256) ∧ (0 ≤ a3 ∧ a3 < 256) ∧ (Lit.int .i64 n).wf = true := by
  obtain ⟨fuel, hf⟩ := h
  obtain ⟨y0, y1, m, _, hl, h0, h1⟩ := Go.ChangeShapes.trod_struct2 Try.underlying35 hf
  have c5 : Try.prog.cellsOf 35 = 5 := by kernel_rfl
  rw [c5] at hl
  have h0' : DataW.trod enc Try.prog W 0 (fun _ => true) true m 33 ((v.cells.toList.drop 0).take (Try.prog.cellsOf 33)) = some y0 := h0
  have h1' : DataW.trod enc Try.prog W 0 (fun _ => true) true m 3 ((v.cells.toList.drop 4).take (Try.prog.cellsOf 3)) = some y1 := h1
  have c4 : Try.prog.cellsOf 33 = 4 := by kernel_rfl
  have c1 : Try.prog.cellsOf 3 = 1 := by kernel_rfl
  rw [c4] at h0'
  rw [c1] at h1'
  obtain ⟨zs, hzl, hcs, hfit⟩ := cells_arr Try.underlying33 (by kernel_rfl) (by kernel_rfl) h0'
  obtain ⟨n, hn, _, wf⟩ := DataW.trod_int Try.underlying3 h1'
  obtain ⟨x0, x1, x2, x3, rfl⟩ := list4 hzl
  have hall : v.cells.toList = [.int .u8 x0, .int .u8 x1, .int .u8 x2, .int .u8 x3, .int .i64 n] := by
    have e : v.cells.toList = v.cells.toList.take 4 ++ (v.cells.toList.drop 4).take 1 := by
      rw [List.take_of_length_le (l := v.cells.toList.drop 4) (by simp at hl ⊢; omega), List.take_append_drop]
    rw [e, hn]
    rw [List.drop_zero] at hcs
    rw [hcs]
    rfl
  have hv := agg_of hall (by simp)
  exact ⟨x0, x1, x2, x3, n, hv, hfit _ (by simp), hfit _ (by simp), hfit _ (by simp), hfit _ (by simp), wf⟩

end Go.Proofs.Ytabmkbhmgfneiaa
