/-
  All6 of a table that nobody made.
-/
import Derived.Test.YtabmkbhmgfneiaaTc0
namespace Go.Proofs.Ytabmkbhmgfneiaa
open Go Go.RowKit Go.Shelf
set_option linter.unusedVariables false
set_option linter.unusedSimpArgs false

set_option maxHeartbeats 1000000 in
set_option maxRecDepth 100000 in
theorem under_nil (c : List Value) (f : FuncId) (lb : Array Value) (w : World) : Calls Try.prog 46 #[.nilIface, .agg c.toArray, .func (.func f) #[] lb] w fun e w' => e = .returned (.tuple #[]) ∧ Below w.heap.size w w' := by
  have HC : Hid _ := fun x y W => each_nil x y W
  go_enter Try.func46, Try.ntmps46
  go_wp2_with fail
  refine Calls.mono (HC.out _ _ _) ?_
  rintro e w1 ⟨rfl, rfl⟩
  go_wp2
  try go_returns
  exact ⟨rfl, ((Below.refl _ w).alloc (Nat.le_refl _) _).alloc (by simp) _⟩
set_option maxHeartbeats 1000000 in
set_option maxRecDepth 100000 in
theorem All6_nob (t : Value) (w : World) (h : Nob w t) : Calls Try.prog 17 #[t] w fun e w' => e = .returned (.slice none 0 0) ∧ Below w.heap.size w w' := by
  have HU : Hid _ := fun f lb W => under_nil zK f lb W
  rcases h with rfl | ⟨b, rfl, g⟩
  · go_enter Try.func17, Try.ntmps17
    go_wp2
    try go_ret
    exact ⟨rfl, Below.refl _ _⟩
  · have c4 := blk_cell (blk_alloc g (.cells #[Value.slice none 0 0] 56)) (j := 4) rfl
    have HB : Hid _ := (Below.refl w.heap.size w).alloc (Nat.le_refl _) (.cells #[Value.slice none 0 0] 56)
    have HN : Hid _ := blk_new w (.cells [Value.slice none 0 0].toArray 56)
    clear g
    go_enter Try.func17, Try.ntmps17
    go_wp2_with fail
    refine Calls.mono (HU.out _ _ _) ?_
    rintro e w1 ⟨rfl, hb1⟩
    have c0 := blk_cell (blk_kept HN.out hb1) (j := 0) rfl
    have HK : Hid _ := HB.out.trans (hb1.mono HB.out.size)
    clear hb1 HU c4
    go_wp2
    try go_ret
    exact ⟨rfl, HK.out⟩
end Go.Proofs.Ytabmkbhmgfneiaa
