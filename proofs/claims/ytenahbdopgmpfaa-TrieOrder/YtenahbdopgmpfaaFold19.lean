/-
  What a table that nobody made answers: Under4, Over4, All4, Len.
  All6 of a table that nobody made.
-/
import Derived.Test.YtenahbdopgmpfaaFold18
namespace Go.Proofs.Ytenahbdopgmpfaa
open Go Go.RowKit Go.Shelf
set_option linter.unusedVariables false
set_option linter.unusedSimpArgs false

theorem Nob.ptr {W : World} {t : Value} (h : Nob W t) : ∃ p, t = .pointer p := by
  rcases h with rfl | ⟨b, rfl, -⟩
  · exact ⟨_, rfl⟩
  · exact ⟨_, rfl⟩
set_option maxHeartbeats 1000000 in
set_option maxRecDepth 100000 in
theorem list4_nob (t : Value) (c : List Value) (hc : c.length = 5) (f : Value) (w : World) (h : Nob w t) : Calls Try.prog 57 #[t, .agg c.toArray, f] w fun e w' => e = .returned (.tuple #[.slice none 0 0, .int .i64 4]) ∧ Below w.heap.size w w' := by
  have HB : Hid _ := (Below.refl w.heap.size w).alloc (Nat.le_refl _) (.cells c.toArray 35)
  have HC : Hid _ := check4_nob t c _ (h.keep HB.out)
  have HL : Hid _ := agg_load (t := 35) (n := 5) (fun w => by kernel_rfl) (fun w => by kernel_rfl) hc (CellsAt.of_blk (blk_new w (.cells c.toArray 35)))
  obtain ⟨p, rfl⟩ := h.ptr
  clear h hc
  go_enter Try.func57, Try.ntmps57
  go_wp2_with first
    | ((with_reducible show wpList _ _ _ _ _ _); refine armLv (.tmp 4) 35 rfl rfl rfl HL.out ?_)
  refine Calls.mono HC.out ?_
  rintro e w1 ⟨rfl, hb1⟩
  have HK : Hid _ := HB.out.trans (hb1.mono HB.out.size)
  clear hb1 HC HL
  go_wp2
  try go_ret2
  exact ⟨rfl, HK.out⟩
set_option maxHeartbeats 1000000 in
set_option maxRecDepth 100000 in
theorem Under4_nob (t : Value) (c : List Value) (hc : c.length = 5) (w : World) (h : Nob w t) : Calls Try.prog 28 #[t, .agg c.toArray] w fun e w' => e = .returned (.tuple #[.slice none 0 0, .int .i64 4]) ∧ Below w.heap.size w w' := by
  have HB : Hid _ := (Below.refl w.heap.size w).alloc (Nat.le_refl _) (.cells c.toArray 35)
  have HC : Hid _ := fun f => list4_nob t c hc f _ (h.keep HB.out)
  have HL : Hid _ := agg_load (t := 35) (n := 5) (fun w => by kernel_rfl) (fun w => by kernel_rfl) hc (CellsAt.of_blk (blk_new w (.cells c.toArray 35)))
  obtain ⟨p, rfl⟩ := h.ptr
  clear h hc
  go_enter Try.func28, Try.ntmps28
  go_wp2_with first
    | ((with_reducible show wpList _ _ _ _ _ _); refine armLv (.tmp 3) 35 rfl rfl rfl HL.out ?_)
  refine Calls.mono (HC.out _) ?_
  rintro e w1 ⟨rfl, hb1⟩
  have HK : Hid _ := HB.out.trans (hb1.mono HB.out.size)
  clear hb1 HC HL
  go_wp2
  try go_ret2
  exact ⟨rfl, HK.out⟩
set_option maxHeartbeats 1000000 in
set_option maxRecDepth 100000 in
theorem Over4_nob (t : Value) (c : List Value) (hc : c.length = 5) (w : World) (h : Nob w t) : Calls Try.prog 29 #[t, .agg c.toArray] w fun e w' => e = .returned (.tuple #[.slice none 0 0, .int .i64 4]) ∧ Below w.heap.size w w' := by
  have HB : Hid _ := (Below.refl w.heap.size w).alloc (Nat.le_refl _) (.cells c.toArray 35)
  have HC : Hid _ := fun f => list4_nob t c hc f _ (h.keep HB.out)
  have HL : Hid _ := agg_load (t := 35) (n := 5) (fun w => by kernel_rfl) (fun w => by kernel_rfl) hc (CellsAt.of_blk (blk_new w (.cells c.toArray 35)))
  obtain ⟨p, rfl⟩ := h.ptr
  clear h hc
  go_enter Try.func29, Try.ntmps29
  go_wp2_with first
    | ((with_reducible show wpList _ _ _ _ _ _); refine armLv (.tmp 3) 35 rfl rfl rfl HL.out ?_)
  refine Calls.mono (HC.out _) ?_
  rintro e w1 ⟨rfl, hb1⟩
  have HK : Hid _ := HB.out.trans (hb1.mono HB.out.size)
  clear hb1 HC HL
  go_wp2
  try go_ret2
  exact ⟨rfl, HK.out⟩
set_option maxHeartbeats 1000000 in
set_option maxRecDepth 100000 in
theorem All4_nob (t : Value) (w : World) (h : Nob w t) : Calls Try.prog 16 #[t] w fun e w' => e = .returned (.slice none 0 0) ∧ Below w.heap.size w w' := by
  have HC : Hid _ := Under4_nob t [.int .u8 0, .int .u8 0, .int .u8 0, .int .u8 0, .int .i64 0] rfl w h
  obtain ⟨p, rfl⟩ := h.ptr
  clear h
  go_enter Try.func16, Try.ntmps16
  go_wp2_with fail
  refine Calls.mono HC.out ?_
  rintro e w1 ⟨rfl, hb1⟩
  have HK : Hid _ := hb1
  clear hb1 HC
  go_wp2
  try go_ret
  exact ⟨rfl, HK.out⟩
set_option maxHeartbeats 1000000 in
set_option maxRecDepth 100000 in
theorem Len_nob (t : Value) (w : World) (h : Nob w t) : Calls Try.prog 30 #[t] w fun e w' => e = .returned (.int .i64 0) ∧ w' = w := by
  rcases h with rfl | ⟨b, rfl, g⟩
  · go_enter Try.func30, Try.ntmps30
    go_wp2
    try go_ret
    exact ⟨rfl, rfl⟩
  · have c2 := blk_cell g (j := 2) rfl
    clear g
    go_enter Try.func30, Try.ntmps30
    go_wp2
    try go_ret
    exact ⟨rfl, rfl⟩
end Go.Proofs.Ytenahbdopgmpfaa

namespace Go.Proofs.Ytenahbdopgmpfaa
open Go Go.RowKit Go.Shelf
set_option linter.unusedVariables false
set_option linter.unusedSimpArgs false

set_option maxHeartbeats 1000000 in
set_option maxRecDepth 100000 in
theorem under_nil (c : List Value) (f : FuncId) (lb : Array Value) (w : World) : Calls Try.prog 46 #[.nilIface, .agg c.toArray, .func (.func f) #[] lb] w fun e w' => e = .returned (.tuple #[]) ∧ Below w.heap.size w w' := by
  have HC : Hid _ := fun x y W => each_nil x y W
  go_enter Try.func46, Try.ntmps46
  go_wp2_with fail
  refine Calls.mono (HC.out _ _ _) ?_
  rintro e w1 ⟨rfl, rfl⟩
  go_wp2
  try go_returns
  exact ⟨rfl, ((Below.refl _ w).alloc (Nat.le_refl _) _).alloc (by simp) _⟩
set_option maxHeartbeats 1000000 in
set_option maxRecDepth 100000 in
theorem All6_nob (t : Value) (w : World) (h : Nob w t) : Calls Try.prog 17 #[t] w fun e w' => e = .returned (.slice none 0 0) ∧ Below w.heap.size w w' := by
  have HU : Hid _ := fun f lb W => under_nil zK f lb W
  rcases h with rfl | ⟨b, rfl, g⟩
  · go_enter Try.func17, Try.ntmps17
    go_wp2
    try go_ret
    exact ⟨rfl, Below.refl _ _⟩
  · have c4 := blk_cell (blk_alloc g (.cells #[Value.slice none 0 0] 56)) (j := 4) rfl
    have HB : Hid _ := (Below.refl w.heap.size w).alloc (Nat.le_refl _) (.cells #[Value.slice none 0 0] 56)
    have HN : Hid _ := blk_new w (.cells [Value.slice none 0 0].toArray 56)
    clear g
    go_enter Try.func17, Try.ntmps17
    go_wp2_with fail
    refine Calls.mono (HU.out _ _ _) ?_
    rintro e w1 ⟨rfl, hb1⟩
    have c0 := blk_cell (blk_kept HN.out hb1) (j := 0) rfl
    have HK : Hid _ := HB.out.trans (hb1.mono HB.out.size)
    clear hb1 HU c4
    go_wp2
    try go_ret
    exact ⟨rfl, HK.out⟩
end Go.Proofs.Ytenahbdopgmpfaa
