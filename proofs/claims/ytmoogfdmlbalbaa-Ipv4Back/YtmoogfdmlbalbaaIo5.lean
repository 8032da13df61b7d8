/-
  Options of package ipv4: what catches, and the walk.
-/
import Derived.Test.YtmoogfdmlbalbaaIo4
namespace Go.Proofs.Ytmoogfdmlbalbaa
open Go Go.RowKit
set_option linter.unusedVariables false
set_option linter.unusedSimpArgs false

theorem BoxO.setV {w0 W : World} {Q : Nat} {v : Value} {x y : Int} (h : BoxO w0 W Q v x y) (u : Value) : BoxO w0 (W.setCell ⟨Q, 0, none⟩ u) Q u x y :=
  ⟨by rw [blk_set h.vb]; rfl, blk_set_other h.xb (by omega) _ _, blk_set_other h.yb (by omega) _ _, h.bel.setCell (by have := h.up; simp; omega) _, h.up⟩
theorem BoxO.setX {w0 W : World} {Q : Nat} {v : Value} {x y : Int} (h : BoxO w0 W Q v x y) (z : Int) : BoxO w0 (W.setCell ⟨Q + 1, 0, none⟩ (.int .i64 z)) Q v z y :=
  ⟨blk_set_other h.vb (by omega) _ _, by rw [blk_set h.xb]; rfl, blk_set_other h.yb (by omega) _ _, h.bel.setCell (by have := h.up; simp; omega) _, h.up⟩
theorem BoxO.setY {w0 W : World} {Q : Nat} {v : Value} {x y : Int} (h : BoxO w0 W Q v x y) (z : Int) : BoxO w0 (W.setCell ⟨Q + 2, 0, none⟩ (.int .i64 z)) Q v x z :=
  ⟨blk_set_other h.vb (by omega) _ _, blk_set_other h.xb (by omega) _ _, by rw [blk_set h.yb]; rfl, h.bel.setCell (by have := h.up; simp; omega) _, h.up⟩
theorem BoxO.drew {w0 W : World} {Q : Nat} {v : Value} {x y : Int} (h : BoxO w0 W Q v x y) : BoxO w0 W.drew Q v x y := ⟨h.vb, h.xb, h.yb, h.bel.drew, h.up⟩

theorem tmps15 (a b c : Value) : (#[a, b, c] ++ Array.replicate (15 - #[a, b, c].size) undef : Array Value) = #[a, b, c, undef, undef, undef, undef, undef, undef, undef, undef, undef, undef, undef, undef] := rfl

set_option maxHeartbeats 2000000 in
set_option maxRecDepth 100000 in
theorem catch_idleO (p q r : Addr) (w : World) :
    CallsD Try.prog 45 #[.pointer (some p), .pointer (some q), .pointer (some r)] .returning w fun e u' w' => e = .returned (.tuple #[]) ∧ u' = .returning ∧ Below w.heap.size w w' := by
  have hB := ((Below.refl w.heap.size w).alloc (Nat.le_refl _) (.cells #[.int .i64 0, .int .i64 0] 59))
  have ht := ta_no w
  refine callsD_of_wpS Try.func45 rfl fun c₀ cs hu => ?_
  apply wpS_seq
  refine wpS_region_rec (v := .nilIface) (cs' := c₀ :: cs) rfl rfl (by simp [recoverD, hu]) ?_
  simp only [Try.ntmps45, tmps15, Act.put, List.setIfInBounds_toArray, List.set_cons_zero, List.set_cons_succ]
  go_wp2
  refine wpS_of_wp ?_
  go_wp2
  cases c₀
  simp_all [bodyPostS, results, Try.results45]

set_option maxHeartbeats 2000000 in
set_option maxRecDepth 100000 in
theorem catch_faultO (w0 : World) (Q : Nat) (v : Value) (x y at' e : Int) (w : World) (h : BoxO w0 w Q v x y) :
    CallsD Try.prog 45 #[.pointer (some ⟨Q, 0, none⟩), .pointer (some ⟨Q + 1, 0, none⟩), .pointer (some ⟨Q + 2, 0, none⟩)] (.panicking [{ v := .iface 59 (.agg #[.int .i64 at', .int .i64 e]), recovered := false }]) w fun e' u' w' => e' = .returned (.tuple #[]) ∧ u' = .panicking [{ v := .iface 59 (.agg #[.int .i64 at', .int .i64 e]), recovered := true }] ∧ BoxO w0 w' Q (.slice none 0 0) at' e := by
  have ht := ta_yes (.agg #[.int .i64 at', .int .i64 e]) w
  refine callsD_of_wpS Try.func45 rfl fun c₀ cs hu => ?_
  apply wpS_seq
  refine wpS_region_rec (v := .iface 59 (.agg #[.int .i64 at', .int .i64 e])) (cs' := { c₀ with mode := .panicking [{ v := .iface 59 (.agg #[.int .i64 at', .int .i64 e]), recovered := true }] } :: cs) rfl rfl (by simp [recoverD, hu]) ?_
  simp only [Try.ntmps45, tmps15, Act.put, List.setIfInBounds_toArray, List.set_cons_zero, List.set_cons_succ]
  go_wp2
  refine wpS_of_wp ?_
  go_wp2
  have h1 := h.on ((Below.refl w.heap.size w).alloc (Nat.le_refl _) (.cells #[.int .i64 at', .int .i64 e] 59))
  have fb := blk_new w (.cells [.int .i64 at', .int .i64 e].toArray 59)
  have hne : Q + 2 < w.heap.size := (Array.getElem?_eq_some_iff.1 h.yb).1
  clear ht h
  generalize w.alloc (.cells #[.int .i64 at', .int .i64 e] 59) = W1 at *
  generalize w.heap.size = F at *
  have k0 := blk_cell fb (j := 0) rfl
  have k1 := blk_cell fb (j := 1) rfl
  have hq0 : ¬ F = Q := by omega
  have hq1 : ¬ F = Q + 1 := by omega
  have hq2 : ¬ F = Q + 2 := by omega
  have HE : Hid _ := (((h1.setV (.slice none 0 0)).setX at').setY e).drew
  have m0 := blk_cell h1.vb (j := 0) rfl
  have n0 := blk_open h1.vb 0
  have m1 := blk_cell h1.xb (j := 0) rfl
  have n1 := blk_open h1.xb 0
  have m2 := blk_cell h1.yb (j := 0) rfl
  have n2 := blk_open h1.yb 0
  clear h1 hne fb
  go_region
  all_goals exact ⟨rfl, _, rfl, _, results_none rfl _ _ _, rfl, rfl, HE.out⟩

theorem BoxO.load {w0 W : World} {Q : Nat} {v : Value} {x y : Int} (h : BoxO w0 W Q v x y) (hv : ∃ a n k, v = .slice a n k) : (loadVar 42 ⟨Q, 0, none⟩).run Try.prog W = .ok v W := by
  obtain ⟨a, n, k, rfl⟩ := hv
  have := blk_cell h.vb (j := 0) rfl
  simp [loadVar, go_sem, this]
theorem BoxO.loadX {w0 W : World} {Q : Nat} {v : Value} {x y : Int} (h : BoxO w0 W Q v x y) : (loadVar 3 ⟨Q + 1, 0, none⟩).run Try.prog W = .ok (.int .i64 x) W := by
  have := blk_cell h.xb (j := 0) rfl
  simp [loadVar, go_sem, this]
theorem BoxO.loadY {w0 W : World} {Q : Nat} {v : Value} {x y : Int} (h : BoxO w0 W Q v x y) : (loadVar 28 ⟨Q + 2, 0, none⟩).run Try.prog W = .ok (.int .i64 y) W := by
  have := blk_cell h.yb (j := 0) rfl
  simp [loadVar, go_sem, this]

end Go.Proofs.Ytmoogfdmlbalbaa
