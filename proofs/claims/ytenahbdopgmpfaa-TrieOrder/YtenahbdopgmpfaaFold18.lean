/-
  A table that nobody made.
  What a table that nobody made answers: Put, Get, Del.
-/
import Derived.Test.YtenahbdopgmpfaaFold17
namespace Go.Proofs.Ytenahbdopgmpfaa
open Go Go.RowKit Go.Shelf
set_option linter.unusedVariables false
set_option linter.unusedSimpArgs false

/-- None, or one that is zero. -/
def Nob (W : World) (t : Value) : Prop := t = .pointer none ∨ ∃ b, t = .pointer (some ⟨b, 0, none⟩) ∧ W.heap[b]? = some (.cells [Value.bool false, .int .i64 0, .int .i64 0, .nilIface, .nilIface].toArray 76)
theorem Nob.keep {W W' : World} {t : Value} (h : Nob W t) (hb : Below W.heap.size W W') : Nob W' t := by
  rcases h with h | ⟨b, h, g⟩
  · exact .inl h
  · exact .inr ⟨b, h, blk_kept g hb⟩

set_option maxHeartbeats 1000000 in
set_option maxRecDepth 100000 in
theorem check6_nob (t : Value) (c : List Value) (w : World) (h : Nob w t) : Calls Try.prog 54 #[t, .agg c.toArray] w fun e w' => e = .returned (.int .i64 4) ∧ Below w.heap.size w w' := by
  have HB : Hid _ := (Below.refl w.heap.size w).alloc (Nat.le_refl _) (.cells c.toArray 39)
  have h2 := h.keep HB.out
  rcases h with rfl | ⟨b, rfl, g⟩
  · clear h2
    go_enter Try.func54, Try.ntmps54
    go_wp2
    try go_ret
    exact ⟨rfl, HB.out⟩
  · have g2 := blk_alloc g (.cells c.toArray 39)
    have c0 := blk_cell g2 (j := 0) rfl
    clear h2 g g2
    go_enter Try.func54, Try.ntmps54
    go_wp2
    try go_ret
    exact ⟨rfl, HB.out⟩
set_option maxHeartbeats 1000000 in
set_option maxRecDepth 100000 in
theorem check4_nob (t : Value) (c : List Value) (w : World) (h : Nob w t) : Calls Try.prog 52 #[t, .agg c.toArray] w fun e w' => e = .returned (.int .i64 4) ∧ Below w.heap.size w w' := by
  have HB : Hid _ := (Below.refl w.heap.size w).alloc (Nat.le_refl _) (.cells c.toArray 35)
  have h2 := h.keep HB.out
  rcases h with rfl | ⟨b, rfl, g⟩
  · clear h2
    go_enter Try.func52, Try.ntmps52
    go_wp2
    try go_ret
    exact ⟨rfl, HB.out⟩
  · have g2 := blk_alloc g (.cells c.toArray 35)
    have c0 := blk_cell g2 (j := 0) rfl
    clear h2 g g2
    go_enter Try.func52, Try.ntmps52
    go_wp2
    try go_ret
    exact ⟨rfl, HB.out⟩
end Go.Proofs.Ytenahbdopgmpfaa

namespace Go.Proofs.Ytenahbdopgmpfaa
open Go Go.RowKit Go.Shelf
set_option linter.unusedVariables false
set_option linter.unusedSimpArgs false

set_option maxHeartbeats 1000000 in
set_option maxRecDepth 100000 in
theorem Put4_nob (t : Value) (c : List Value) (hc : c.length = 5) (v : Int) (w : World) (h : Nob w t) : Calls Try.prog 20 #[t, .agg c.toArray, .int .i64 v] w fun e w' => e = .returned (.tuple #[.bool false, .int .i64 4]) ∧ Below w.heap.size w w' := by
  have HB : Hid _ := (Below.refl w.heap.size w).alloc (Nat.le_refl _) (.cells c.toArray 35)
  have h2 := h.keep HB.out
  have HC : Hid _ := check4_nob t c _ h2
  have HL : Hid _ := agg_load (t := 35) (n := 5) (fun w => by kernel_rfl) (fun w => by kernel_rfl) hc (CellsAt.of_blk (blk_new w (.cells c.toArray 35)))
  have hp : ∃ p, t = .pointer p := by
    rcases h with rfl | ⟨b, rfl, -⟩
    · exact ⟨_, rfl⟩
    · exact ⟨_, rfl⟩
  obtain ⟨p, rfl⟩ := hp
  clear h h2 hc
  go_enter Try.func20, Try.ntmps20
  go_wp2_with first
    | ((with_reducible show wpList _ _ _ _ _ _); refine armLv (.tmp 2) 35 rfl rfl rfl HL.out ?_)
    | ((with_reducible show wpList _ _ _ _ _ _); refine armLv (.tmp 3) 35 rfl rfl rfl HL.out ?_)
    | ((with_reducible show wpList _ _ _ _ _ _); refine armLv (.tmp 4) 35 rfl rfl rfl HL.out ?_)
    | ((with_reducible show wpList _ _ _ _ _ _); refine armLv (.tmp 5) 35 rfl rfl rfl HL.out ?_)
    | ((with_reducible show wpList _ _ _ _ _ _); refine armLv (.tmp 6) 35 rfl rfl rfl HL.out ?_)
  refine Calls.mono HC.out ?_
  rintro e w1 ⟨rfl, hb1⟩
  have HK : Hid _ := HB.out.trans (hb1.mono HB.out.size)
  clear hb1 HC HL
  go_wp2
  try go_ret2
  exact ⟨rfl, HK.out⟩
set_option maxHeartbeats 1000000 in
set_option maxRecDepth 100000 in
theorem Get4_nob (t : Value) (c : List Value) (hc : c.length = 5) (w : World) (h : Nob w t) : Calls Try.prog 26 #[t, .agg c.toArray] w fun e w' => e = .returned (.tuple #[.int .i64 0, .bool false, .int .i64 4]) ∧ Below w.heap.size w w' := by
  have HB : Hid _ := (Below.refl w.heap.size w).alloc (Nat.le_refl _) (.cells c.toArray 35)
  have h2 := h.keep HB.out
  have HC : Hid _ := check4_nob t c _ h2
  have HL : Hid _ := agg_load (t := 35) (n := 5) (fun w => by kernel_rfl) (fun w => by kernel_rfl) hc (CellsAt.of_blk (blk_new w (.cells c.toArray 35)))
  have hp : ∃ p, t = .pointer p := by
    rcases h with rfl | ⟨b, rfl, -⟩
    · exact ⟨_, rfl⟩
    · exact ⟨_, rfl⟩
  obtain ⟨p, rfl⟩ := hp
  clear h h2 hc
  go_enter Try.func26, Try.ntmps26
  go_wp2_with first
    | ((with_reducible show wpList _ _ _ _ _ _); refine armLv (.tmp 2) 35 rfl rfl rfl HL.out ?_)
    | ((with_reducible show wpList _ _ _ _ _ _); refine armLv (.tmp 3) 35 rfl rfl rfl HL.out ?_)
    | ((with_reducible show wpList _ _ _ _ _ _); refine armLv (.tmp 4) 35 rfl rfl rfl HL.out ?_)
    | ((with_reducible show wpList _ _ _ _ _ _); refine armLv (.tmp 5) 35 rfl rfl rfl HL.out ?_)
    | ((with_reducible show wpList _ _ _ _ _ _); refine armLv (.tmp 6) 35 rfl rfl rfl HL.out ?_)
  refine Calls.mono HC.out ?_
  rintro e w1 ⟨rfl, hb1⟩
  have HK : Hid _ := HB.out.trans (hb1.mono HB.out.size)
  clear hb1 HC HL
  go_wp2
  try go_returns
  exact ⟨rfl, HK.out⟩
set_option maxHeartbeats 1000000 in
set_option maxRecDepth 100000 in
theorem Del4_nob (t : Value) (c : List Value) (hc : c.length = 5) (w : World) (h : Nob w t) : Calls Try.prog 22 #[t, .agg c.toArray] w fun e w' => e = .returned (.int .i64 4) ∧ Below w.heap.size w w' := by
  have HB : Hid _ := (Below.refl w.heap.size w).alloc (Nat.le_refl _) (.cells c.toArray 35)
  have h2 := h.keep HB.out
  have HC : Hid _ := check4_nob t c _ h2
  have HL : Hid _ := agg_load (t := 35) (n := 5) (fun w => by kernel_rfl) (fun w => by kernel_rfl) hc (CellsAt.of_blk (blk_new w (.cells c.toArray 35)))
  have hp : ∃ p, t = .pointer p := by
    rcases h with rfl | ⟨b, rfl, -⟩
    · exact ⟨_, rfl⟩
    · exact ⟨_, rfl⟩
  obtain ⟨p, rfl⟩ := hp
  clear h h2 hc
  go_enter Try.func22, Try.ntmps22
  go_wp2_with first
    | ((with_reducible show wpList _ _ _ _ _ _); refine armLv (.tmp 2) 35 rfl rfl rfl HL.out ?_)
    | ((with_reducible show wpList _ _ _ _ _ _); refine armLv (.tmp 3) 35 rfl rfl rfl HL.out ?_)
    | ((with_reducible show wpList _ _ _ _ _ _); refine armLv (.tmp 4) 35 rfl rfl rfl HL.out ?_)
    | ((with_reducible show wpList _ _ _ _ _ _); refine armLv (.tmp 5) 35 rfl rfl rfl HL.out ?_)
    | ((with_reducible show wpList _ _ _ _ _ _); refine armLv (.tmp 6) 35 rfl rfl rfl HL.out ?_)
  refine Calls.mono HC.out ?_
  rintro e w1 ⟨rfl, hb1⟩
  have HK : Hid _ := HB.out.trans (hb1.mono HB.out.size)
  clear hb1 HC HL
  go_wp2
  try go_ret
  exact ⟨rfl, HK.out⟩
set_option maxHeartbeats 1000000 in
set_option maxRecDepth 100000 in
theorem Put6_nob (t : Value) (c : List Value) (hc : c.length = 17) (v : Int) (w : World) (h : Nob w t) : Calls Try.prog 21 #[t, .agg c.toArray, .int .i64 v] w fun e w' => e = .returned (.tuple #[.bool false, .int .i64 4]) ∧ Below w.heap.size w w' := by
  have HB : Hid _ := (Below.refl w.heap.size w).alloc (Nat.le_refl _) (.cells c.toArray 39)
  have h2 := h.keep HB.out
  have HC : Hid _ := check6_nob t c _ h2
  have HL : Hid _ := agg_load (t := 39) (n := 17) (fun w => by kernel_rfl) (fun w => by kernel_rfl) hc (CellsAt.of_blk (blk_new w (.cells c.toArray 39)))
  have hp : ∃ p, t = .pointer p := by
    rcases h with rfl | ⟨b, rfl, -⟩
    · exact ⟨_, rfl⟩
    · exact ⟨_, rfl⟩
  obtain ⟨p, rfl⟩ := hp
  clear h h2 hc
  go_enter Try.func21, Try.ntmps21
  go_wp2_with first
    | ((with_reducible show wpList _ _ _ _ _ _); refine armLv (.tmp 2) 39 rfl rfl rfl HL.out ?_)
    | ((with_reducible show wpList _ _ _ _ _ _); refine armLv (.tmp 3) 39 rfl rfl rfl HL.out ?_)
    | ((with_reducible show wpList _ _ _ _ _ _); refine armLv (.tmp 4) 39 rfl rfl rfl HL.out ?_)
    | ((with_reducible show wpList _ _ _ _ _ _); refine armLv (.tmp 5) 39 rfl rfl rfl HL.out ?_)
    | ((with_reducible show wpList _ _ _ _ _ _); refine armLv (.tmp 6) 39 rfl rfl rfl HL.out ?_)
  refine Calls.mono HC.out ?_
  rintro e w1 ⟨rfl, hb1⟩
  have HK : Hid _ := HB.out.trans (hb1.mono HB.out.size)
  clear hb1 HC HL
  go_wp2
  try go_ret2
  exact ⟨rfl, HK.out⟩
set_option maxHeartbeats 1000000 in
set_option maxRecDepth 100000 in
theorem Get6_nob (t : Value) (c : List Value) (hc : c.length = 17) (w : World) (h : Nob w t) : Calls Try.prog 27 #[t, .agg c.toArray] w fun e w' => e = .returned (.tuple #[.int .i64 0, .bool false, .int .i64 4]) ∧ Below w.heap.size w w' := by
  have HB : Hid _ := (Below.refl w.heap.size w).alloc (Nat.le_refl _) (.cells c.toArray 39)
  have h2 := h.keep HB.out
  have HC : Hid _ := check6_nob t c _ h2
  have HL : Hid _ := agg_load (t := 39) (n := 17) (fun w => by kernel_rfl) (fun w => by kernel_rfl) hc (CellsAt.of_blk (blk_new w (.cells c.toArray 39)))
  have hp : ∃ p, t = .pointer p := by
    rcases h with rfl | ⟨b, rfl, -⟩
    · exact ⟨_, rfl⟩
    · exact ⟨_, rfl⟩
  obtain ⟨p, rfl⟩ := hp
  clear h h2 hc
  go_enter Try.func27, Try.ntmps27
  go_wp2_with first
    | ((with_reducible show wpList _ _ _ _ _ _); refine armLv (.tmp 2) 39 rfl rfl rfl HL.out ?_)
    | ((with_reducible show wpList _ _ _ _ _ _); refine armLv (.tmp 3) 39 rfl rfl rfl HL.out ?_)
    | ((with_reducible show wpList _ _ _ _ _ _); refine armLv (.tmp 4) 39 rfl rfl rfl HL.out ?_)
    | ((with_reducible show wpList _ _ _ _ _ _); refine armLv (.tmp 5) 39 rfl rfl rfl HL.out ?_)
    | ((with_reducible show wpList _ _ _ _ _ _); refine armLv (.tmp 6) 39 rfl rfl rfl HL.out ?_)
  refine Calls.mono HC.out ?_
  rintro e w1 ⟨rfl, hb1⟩
  have HK : Hid _ := HB.out.trans (hb1.mono HB.out.size)
  clear hb1 HC HL
  go_wp2
  try go_returns
  exact ⟨rfl, HK.out⟩
set_option maxHeartbeats 1000000 in
set_option maxRecDepth 100000 in
theorem Del6_nob (t : Value) (c : List Value) (hc : c.length = 17) (w : World) (h : Nob w t) : Calls Try.prog 24 #[t, .agg c.toArray] w fun e w' => e = .returned (.int .i64 4) ∧ Below w.heap.size w w' := by
  have HB : Hid _ := (Below.refl w.heap.size w).alloc (Nat.le_refl _) (.cells c.toArray 39)
  have h2 := h.keep HB.out
  have HC : Hid _ := check6_nob t c _ h2
  have HL : Hid _ := agg_load (t := 39) (n := 17) (fun w => by kernel_rfl) (fun w => by kernel_rfl) hc (CellsAt.of_blk (blk_new w (.cells c.toArray 39)))
  have hp : ∃ p, t = .pointer p := by
    rcases h with rfl | ⟨b, rfl, -⟩
    · exact ⟨_, rfl⟩
    · exact ⟨_, rfl⟩
  obtain ⟨p, rfl⟩ := hp
  clear h h2 hc
  go_enter Try.func24, Try.ntmps24
  go_wp2_with first
    | ((with_reducible show wpList _ _ _ _ _ _); refine armLv (.tmp 2) 39 rfl rfl rfl HL.out ?_)
    | ((with_reducible show wpList _ _ _ _ _ _); refine armLv (.tmp 3) 39 rfl rfl rfl HL.out ?_)
    | ((with_reducible show wpList _ _ _ _ _ _); refine armLv (.tmp 4) 39 rfl rfl rfl HL.out ?_)
    | ((with_reducible show wpList _ _ _ _ _ _); refine armLv (.tmp 5) 39 rfl rfl rfl HL.out ?_)
    | ((with_reducible show wpList _ _ _ _ _ _); refine armLv (.tmp 6) 39 rfl rfl rfl HL.out ?_)
  refine Calls.mono HC.out ?_
  rintro e w1 ⟨rfl, hb1⟩
  have HK : Hid _ := HB.out.trans (hb1.mono HB.out.size)
  clear hb1 HC HL
  go_wp2
  try go_ret
  exact ⟨rfl, HK.out⟩
end Go.Proofs.Ytenahbdopgmpfaa
