/-
  A table that nobody made.
-/
import Derived.Test.YtabmkbhmgfneiaaTb7
namespace Go.Proofs.Ytabmkbhmgfneiaa
open Go Go.RowKit Go.Shelf
set_option linter.unusedVariables false
set_option linter.unusedSimpArgs false

/-- None, or one that is zero. -/
def Nob (W : World) (t : Value) : Prop := t = .pointer none ∨ ∃ b, t = .pointer (some ⟨b, 0, none⟩) ∧ W.heap[b]? = some (.cells [Value.bool false, .int .i64 0, .int .i64 0, .nilIface, .nilIface].toArray 76)
theorem Nob.keep {W W' : World} {t : Value} (h : Nob W t) (hb : Below W.heap.size W W') : Nob W' t := by
  rcases h with h | ⟨b, h, g⟩
  · exact .inl h
  · exact .inr ⟨b, h, blk_kept g hb⟩

set_option maxHeartbeats 1000000 in
set_option maxRecDepth 100000 in
theorem check6_nob (t : Value) (c : List Value) (w : World) (h : Nob w t) : Calls Try.prog 54 #[t, .agg c.toArray] w fun e w' => e = .returned (.int .i64 4) ∧ Below w.heap.size w w' := by
  have HB : Hid _ := (Below.refl w.heap.size w).alloc (Nat.le_refl _) (.cells c.toArray 39)
  have h2 := h.keep HB.out
  rcases h with rfl | ⟨b, rfl, g⟩
  · clear h2
    go_enter Try.func54, Try.ntmps54
    go_wp2
    try go_ret
    exact ⟨rfl, HB.out⟩
  · have g2 := blk_alloc g (.cells c.toArray 39)
    have c0 := blk_cell g2 (j := 0) rfl
    clear h2 g g2
    go_enter Try.func54, Try.ntmps54
    go_wp2
    try go_ret
    exact ⟨rfl, HB.out⟩
set_option maxHeartbeats 1000000 in
set_option maxRecDepth 100000 in
theorem check4_nob (t : Value) (c : List Value) (w : World) (h : Nob w t) : Calls Try.prog 52 #[t, .agg c.toArray] w fun e w' => e = .returned (.int .i64 4) ∧ Below w.heap.size w w' := by
  have HB : Hid _ := (Below.refl w.heap.size w).alloc (Nat.le_refl _) (.cells c.toArray 35)
  have h2 := h.keep HB.out
  rcases h with rfl | ⟨b, rfl, g⟩
  · clear h2
    go_enter Try.func52, Try.ntmps52
    go_wp2
    try go_ret
    exact ⟨rfl, HB.out⟩
  · have g2 := blk_alloc g (.cells c.toArray 35)
    have c0 := blk_cell g2 (j := 0) rfl
    clear h2 g g2
    go_enter Try.func52, Try.ntmps52
    go_wp2
    try go_ret
    exact ⟨rfl, HB.out⟩
end Go.Proofs.Ytabmkbhmgfneiaa
