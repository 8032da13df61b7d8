/-
  The text of the known IPv6 address.
  The two tables that the program reads, out of what the statements lay.
  The two texts that are known.
-/
import Derived.Test.YtlpbffcijhgelaaDoorFold04
import Derived.Deep.RegionWith
import Derived.Test.YtlpbffcijhgelaaDoorRows
import Derived.Lib.LaidTab
import Derived.Stop.LaidErr
import Derived.Test.YtlpbffcijhgelaaDoorFold00
namespace Go.Proofs.YtlpbffcijhgelaaDoor
open Go Go.RowKit
set_option linter.unusedVariables false
set_option linter.unusedSimpArgs false

/-- The table of trailing zeros, whatever is laid above. -/
def Tz (w : World) : Prop := 3 < w.heap.size ∧ ∀ w', Below w.heap.size w w' → w'.cell? ⟨3, 15, none⟩ = some (.int .u8 4)

theorem Tz.on {w w' : World} (h : Tz w) (hb : Below w.heap.size w w') : Tz w' := ⟨Nat.lt_of_lt_of_le h.1 hb.size, fun x hx => h.2 x (hb.trans (hx.mono hb.size))⟩

theorem hexA (b c : Nat) (w : World) (ht : Tz w) (hb : b < w.heap.size) (c0 : w.cell? ⟨b, 0, none⟩ = some (.int .u16 8193)) (c1 : w.cell? ⟨b, 1, none⟩ = some (.int .u16 3512)) :
    Calls Tryd.prog 61 #[.slice (some ⟨b, 0, none⟩) 2 c] w fun e w' => e = .returned (.string ⟨#[50, 48, 48, 49, 58, 100, 98, 56]⟩) ∧ Below w.heap.size w w' := by
  have h := hexes_calls [8193, 3512] (by decide) (by decide) b 0 c w ht.2 ht.1 hb (fun j z hj => by
    match j, hj with
    | 0, hj => cases hj; exact c0
    | 1, hj => cases hj; exact c1
    | n + 2, hj => simp at hj)
  have e : Lib.join (([8193, 3512] : List Int).map hexText) [58] = [50, 48, 48, 49, 58, 100, 98, 56] := by kernel_rfl
  rw [e] at h
  exact h

theorem hexB (b c : Nat) (w : World) (ht : Tz w) (hb : b < w.heap.size) (c7 : w.cell? ⟨b, 7, none⟩ = some (.int .u16 1)) :
    Calls Tryd.prog 61 #[.slice (some ⟨b, 7, none⟩) 1 c] w fun e w' => e = .returned (.string ⟨#[49]⟩) ∧ Below w.heap.size w w' := by
  have h := hexes_calls [1] (by decide) (by decide) b 7 c w ht.2 ht.1 hb (fun j z hj => by
    match j, hj with
    | 0, hj => cases hj; exact c7
    | n + 1, hj => simp at hj)
  have e : Lib.join (([1] : List Int).map hexText) [58] = [49] := by kernel_rfl
  rw [e] at h
  exact h

def known6V : Value := .agg #[.int .u8 32, .int .u8 1, .int .u8 13, .int .u8 184, .int .u8 0, .int .u8 0, .int .u8 0, .int .u8 0, .int .u8 0, .int .u8 0, .int .u8 0, .int .u8 0, .int .u8 0, .int .u8 0, .int .u8 0, .int .u8 1]

set_option maxHeartbeats 2000000 in
set_option maxRecDepth 100000 in
theorem text6_known (w : World) (ht : Tz w) : Calls Tryd.prog 20 #[known6V] w fun e w' => e = .returned (.string ⟨#[50, 48, 48, 49, 58, 100, 98, 56, 58, 58, 49]⟩) ∧ Below w.heap.size w w' := by
  unfold known6V
  have HT : Hid _ := ht
  clear ht
  go_enter Tryd.func20, Tryd.ntmps20
  go_wp2_with fail
  refine (groups_known _).mono ?_
  rintro e w1 ⟨rfl, hB1⟩
  have h0 := (Below.refl w.heap.size w).alloc (Nat.le_refl _) (.cells #[.int .u8 32, .int .u8 1, .int .u8 13, .int .u8 184, .int .u8 0, .int .u8 0, .int .u8 0, .int .u8 0, .int .u8 0, .int .u8 0, .int .u8 0, .int .u8 0, .int .u8 0, .int .u8 0, .int .u8 0, .int .u8 1] 31)
  have hB := h0.trans (hB1.mono h0.size)
  clear h0 hB1
  go_wp2_with fail
  have hB2 := hB.alloc hB.size (.cells #[.int .u16 8193, .int .u16 3512, .int .u16 0, .int .u16 0, .int .u16 0, .int .u16 0, .int .u16 0, .int .u16 1] 94)
  have hg : w1.heap.size < (w1.alloc (.cells #[.int .u16 8193, .int .u16 3512, .int .u16 0, .int .u16 0, .int .u16 0, .int .u16 0, .int .u16 0, .int .u16 1] 94)).heap.size := by simp
  have hc : ∀ j v, (#[Value.int .u16 8193, .int .u16 3512, .int .u16 0, .int .u16 0, .int .u16 0, .int .u16 0, .int .u16 0, .int .u16 1] : Array Value)[j]? = some v → (w1.alloc (.cells #[.int .u16 8193, .int .u16 3512, .int .u16 0, .int .u16 0, .int .u16 0, .int .u16 0, .int .u16 0, .int .u16 1] 94)).cell? ⟨w1.heap.size, j, none⟩ = some v := by
    intro j v hj
    rw [World.cell?_alloc_new]
    simpa using hj
  generalize w1.alloc (.cells #[.int .u16 8193, .int .u16 3512, .int .u16 0, .int .u16 0, .int .u16 0, .int .u16 0, .int .u16 0, .int .u16 1] 94) = w2 at *
  generalize w1.heap.size = g at *
  have c0 := hc 0 _ rfl
  have c1 := hc 1 _ rfl
  have c7 := hc 7 _ rfl
  have hgap := gap_known g w2 c0 c1 (hc 2 _ rfl) (hc 3 _ rfl) (hc 4 _ rfl) (hc 5 _ rfl) (hc 6 _ rfl) c7
  have hTz : Tz w2 := Tz.on HT.out hB2
  have hA : ∀ W, Below w2.heap.size w2 W → Calls Tryd.prog 61 #[.slice (some ⟨g, 0, none⟩) 2 8] W fun e w' => e = .returned (.string ⟨#[50, 48, 48, 49, 58, 100, 98, 56]⟩) ∧ Below W.heap.size W w' := fun W hW =>
    hexA g 8 W (hTz.on hW) (Nat.lt_of_lt_of_le hg hW.size) ((hW.cell (p := ⟨g, 0, none⟩) hg).trans c0) ((hW.cell (p := ⟨g, 1, none⟩) hg).trans c1)
  have hD : ∀ W, Below w2.heap.size w2 W → Calls Tryd.prog 61 #[.slice (some ⟨g, 7, none⟩) 1 1] W fun e w' => e = .returned (.string ⟨#[49]⟩) ∧ Below W.heap.size W w' := fun W hW =>
    hexB g 1 W (hTz.on hW) (Nat.lt_of_lt_of_le hg hW.size) ((hW.cell (p := ⟨g, 7, none⟩) hg).trans c7)
  have HG : Hid _ := hgap
  have HA : Hid _ := hA
  have HD : Hid _ := hD
  clear hc c0 c1 c7 hgap hTz hA hD hg hB
  refine Calls.mono HG.out ?_
  rintro e w3 ⟨rfl, rfl⟩
  go_wp2_with fail
  go_region_with (first
    | (go_at_call_of 61 (Value.slice (some { block := g, off := 0 }) 2 8); refine Calls.mono (HA.out _ ?_) ?_; (first | exact BB | exact (Below.refl _ _).drew); rintro e wa ⟨rfl, hBa⟩; (first | have BC := BB.trans (hBa.mono BB.size) | have BB := ((Below.refl _ _).drew).trans hBa))
    | (go_at_call_of 61 (Value.slice (some { block := g, off := 7 }) 1 1); refine Calls.mono (HD.out _ ?_) ?_; (first | exact BB | exact (Below.refl _ _).drew); rintro e wb ⟨rfl, hBb⟩; (first | have BC := BB.trans (hBb.mono BB.size) | have BB := ((Below.refl _ _).drew).trans hBb)))
  all_goals
    go_wp2
    go_ret
    exact ⟨rfl, hB2.trans (BC.mono hB2.size)⟩

end Go.Proofs.YtlpbffcijhgelaaDoor

namespace Go.Proofs.YtlpbffcijhgelaaDoor
open Go Go.RowKit
set_option linter.unusedVariables false

def tab64 : List Int := [0, 1, 56, 2, 57, 49, 28, 3, 61, 58, 42, 50, 38, 29, 17, 4, 62, 47, 59, 36, 45, 43, 51, 22, 53, 39, 33, 30, 24, 18, 12, 5, 63, 55, 48, 27, 60, 41, 37, 16, 46, 35, 44, 21, 52, 32, 23, 11, 54, 26, 40, 15, 34, 20, 31, 10, 25, 14, 19, 9, 13, 8, 7, 6]

theorem g64 : Tryd.prog.globalNamed "math/bits.deBruijn64tab" = some 3 := by kernel_rfl
theorem g64t : (Tryd.prog.globals[3]?).map (·.type) = some 150 := by kernel_rfl
theorem gpow : Tryd.prog.globalNamed "internal/strconv.uint64pow10" = some 0 := by kernel_rfl
theorem gpowt : (Tryd.prog.globals[0]?).map (·.type) = some 143 := by kernel_rfl

theorem tab_below {n : String} {g : Nat} {k : IntKind} {zs : List Int} {w w' : World} (hg : Tryd.prog.globalNamed n = some g) (h : Lib.TabIs Tryd.prog w n k zs) (hb : Below w.heap.size w w') : Lib.TabIs Tryd.prog w' n k zs := by
  unfold Lib.TabIs World.var? at *
  rw [hg] at h ⊢
  simp only [Option.bind_some] at h ⊢
  cases hw : w.heap[g]? with
  | none => rw [hw] at h; simp at h
  | some o =>
    rw [hw] at h
    rw [hb.block g (Array.getElem?_eq_some_iff.1 hw).1, hw]
    exact h

theorem tab_size {n : String} {g : Nat} {k : IntKind} {zs : List Int} {w : World} (hg : Tryd.prog.globalNamed n = some g) (h : Lib.TabIs Tryd.prog w n k zs) : g < w.heap.size := by
  unfold Lib.TabIs World.var? at h
  rw [hg] at h
  simp only [Option.bind_some] at h
  cases hw : w.heap[g]? with
  | none => rw [hw] at h; simp at h
  | some o => exact (Array.getElem?_eq_some_iff.1 hw).1

theorem tables {W : World} (h : laidMetH Tryd.prog [("math/bits.deBruijn32tab", Rows.laid_math_bits_deBruijn32tab), ("math/bits.deBruijn64tab", Rows.laid_math_bits_deBruijn64tab), ("internal/strconv.uint64pow10", Rows.laid_internal_strconv_uint64pow10)] W) : Tabs W ∧ Tz W := by
  have h1 : laidMet Tryd.prog [("math/bits.deBruijn32tab", Rows.laid_math_bits_deBruijn32tab), ("math/bits.deBruijn64tab", Rows.laid_math_bits_deBruijn64tab), ("internal/strconv.uint64pow10", Rows.laid_internal_strconv_uint64pow10)] W := h
  have h2 := h1.tail
  have h3 := h2.tail
  have t64 : Lib.TabIs Tryd.prog W "math/bits.deBruijn64tab" .u8 tab64 := Lib.tabIs_of_head (zs := tab64) g64 g64t Tryd.underlying150 Tryd.underlying5 (by kernel_rfl) (by kernel_rfl) h2
  have tp : Lib.TabIs Tryd.prog W "internal/strconv.uint64pow10" .u64 Lib.pow10Tab := Lib.tabIs_of_head (zs := Lib.pow10Tab) gpow gpowt Tryd.underlying143 Tryd.underlying128 (by kernel_rfl) (by kernel_rfl) h3
  exact ⟨fun w' hb => tab_below gpow tp hb, tab_size g64 t64, fun w' hb => (tab_below g64 t64 hb).cell g64 15 (by decide)⟩

end Go.Proofs.YtlpbffcijhgelaaDoor

namespace Go.Proofs.YtlpbffcijhgelaaDoor
open Go Go.RowKit
set_option linter.unusedVariables false
set_option linter.unusedSimpArgs false

theorem p6_known (w : World) : Calls Tryd.prog 18 #[.string ⟨#[50, 48, 48, 49, 58, 68, 66, 56, 58, 58, 49]⟩] w fun e w' => e = .returned (.tuple #[.agg #[.int .u8 32, .int .u8 1, .int .u8 13, .int .u8 184, .int .u8 0, .int .u8 0, .int .u8 0, .int .u8 0, .int .u8 0, .int .u8 0, .int .u8 0, .int .u8 0, .int .u8 0, .int .u8 0, .int .u8 0, .int .u8 1], .int .i64 0, .int .i64 0]) ∧ Below w.heap.size w w' := by
  have h := parse6_calls ⟨#[50, 48, 48, 49, 58, 68, 66, 56, 58, 58, 49]⟩ (by decide) w
  have e : parse6 (ByteArray.mk #[50, 48, 48, 49, 58, 68, 66, 56, 58, 58, 49]).data.toList = ([32, 1, 13, 184, 0, 0, 0, 0, 0, 0, 0, 0, 0, 0, 0, 1], 0, 0) := known6
  rw [e] at h
  exact h
theorem p4_known (w : World) : Calls Tryd.prog 13 #[.string ⟨#[49, 57, 50, 46, 48, 46, 50, 46, 49]⟩] w fun e w' => e = .returned (.tuple #[.agg #[.int .u8 192, .int .u8 0, .int .u8 2, .int .u8 1], .int .i64 0, .int .i64 0]) ∧ Below w.heap.size w w' := by
  have h := parse4_calls ⟨#[49, 57, 50, 46, 48, 46, 50, 46, 49]⟩ (by decide) w
  have e : parse4 (ByteArray.mk #[49, 57, 50, 46, 48, 46, 50, 46, 49]).data.toList = ([192, 0, 2, 1], 0, 0) := known4
  rw [e] at h
  exact h
theorem t4_known (w : World) (ht : Tabs w) : Calls Tryd.prog 15 #[.agg #[.int .u8 192, .int .u8 0, .int .u8 2, .int .u8 1]] w fun e w' => e = .returned (.string ⟨#[49, 57, 50, 46, 48, 46, 50, 46, 49]⟩) ∧ Below w.heap.size w w' := by
  have h := text4_calls 192 0 2 1 (by unfold Byte; omega) (by unfold Byte; omega) (by unfold Byte; omega) (by unfold Byte; omega) w ht
  have e : text4 [192, 0, 2, 1] = [49, 57, 50, 46, 48, 46, 50, 46, 49] := by kernel_rfl
  rw [e] at h
  exact h

theorem Tabs.on {w w' : World} (h : Tabs w) (hb : Below w.heap.size w w') : Tabs w' := fun x hx => h x (hb.trans (hx.mono hb.size))

set_option maxHeartbeats 2000000 in
set_option maxRecDepth 100000 in
theorem awake_calls (w : World) (ht : Tabs w ∧ Tz w) : Calls Tryd.prog 17 #[] w fun e w' => e = .returned (.bool true) ∧ Below w.heap.size w w' := by
  have HT : Hid _ := ht
  clear ht
  go_enter Tryd.func17, Tryd.ntmps17
  go_wp2_with fail
  refine (p6_known w).mono ?_
  rintro e w1 ⟨rfl, hB1⟩
  go_wp2_with fail
  have hB2 := hB1.alloc hB1.size (.cells #[.int .u8 32, .int .u8 1, .int .u8 13, .int .u8 184, .int .u8 0, .int .u8 0, .int .u8 0, .int .u8 0, .int .u8 0, .int .u8 0, .int .u8 0, .int .u8 0, .int .u8 0, .int .u8 0, .int .u8 0, .int .u8 1] 31)
  have hg6 : w1.heap.size < (w1.alloc (.cells #[.int .u8 32, .int .u8 1, .int .u8 13, .int .u8 184, .int .u8 0, .int .u8 0, .int .u8 0, .int .u8 0, .int .u8 0, .int .u8 0, .int .u8 0, .int .u8 0, .int .u8 0, .int .u8 0, .int .u8 0, .int .u8 1] 31)).heap.size := by simp
  have hc6 : ∀ j v, (#[Value.int .u8 32, Value.int .u8 1, Value.int .u8 13, Value.int .u8 184, Value.int .u8 0, Value.int .u8 0, Value.int .u8 0, Value.int .u8 0, Value.int .u8 0, Value.int .u8 0, Value.int .u8 0, Value.int .u8 0, Value.int .u8 0, Value.int .u8 0, Value.int .u8 0, Value.int .u8 1] : Array Value)[j]? = some v → (w1.alloc (.cells #[.int .u8 32, .int .u8 1, .int .u8 13, .int .u8 184, .int .u8 0, .int .u8 0, .int .u8 0, .int .u8 0, .int .u8 0, .int .u8 0, .int .u8 0, .int .u8 0, .int .u8 0, .int .u8 0, .int .u8 0, .int .u8 1] 31)).cell? ⟨w1.heap.size, j, none⟩ = some v := by
    intro j v hj
    rw [World.cell?_alloc_new]
    simpa using hj
  generalize w1.alloc (.cells #[.int .u8 32, .int .u8 1, .int .u8 13, .int .u8 184, .int .u8 0, .int .u8 0, .int .u8 0, .int .u8 0, .int .u8 0, .int .u8 0, .int .u8 0, .int .u8 0, .int .u8 0, .int .u8 0, .int .u8 0, .int .u8 1] 31) = w2 at *
  generalize w1.heap.size = g6 at *
  refine (p4_known w2).mono ?_
  rintro e w3 ⟨rfl, hB3⟩
  have HC6 : Hid _ := hc6
  clear hc6 hB1
  have hst : ∀ (K : World), K = w3.alloc (.cells #[.int .u8 192, .int .u8 0, .int .u8 2, .int .u8 1] 23) → True := fun _ _ => trivial
  have hB4' := hB3.alloc hB3.size (.cells #[.int .u8 192, .int .u8 0, .int .u8 2, .int .u8 1] 23)
  have hc4 : ∀ j v, (#[Value.int .u8 192, Value.int .u8 0, Value.int .u8 2, Value.int .u8 1] : Array Value)[j]? = some v → (w3.alloc (.cells #[.int .u8 192, .int .u8 0, .int .u8 2, .int .u8 1] 23)).cell? ⟨w3.heap.size, j, none⟩ = some v := by
    intro j v hj
    rw [World.cell?_alloc_new]
    simpa using hj
  have hc6 := HC6.out
  obtain ⟨w4, hw4⟩ : ∃ w4, w4 = w3.alloc (.cells #[.int .u8 192, .int .u8 0, .int .u8 2, .int .u8 1] 23) := ⟨_, rfl⟩
  obtain ⟨g4, hg4⟩ : ∃ g4, g4 = w3.heap.size := ⟨_, rfl⟩
  rw [← hw4, ← hg4] at hc4
  rw [← hw4] at hB4'
  have k0 : w4.cell? ⟨g6, 0, none⟩ = some (.int .u8 32) := (hB4'.cell (p := ⟨g6, 0, none⟩) hg6).trans (hc6 0 _ rfl)
  have k1 : w4.cell? ⟨g6, 1, none⟩ = some (.int .u8 1) := (hB4'.cell (p := ⟨g6, 1, none⟩) hg6).trans (hc6 1 _ rfl)
  have k2 : w4.cell? ⟨g6, 2, none⟩ = some (.int .u8 13) := (hB4'.cell (p := ⟨g6, 2, none⟩) hg6).trans (hc6 2 _ rfl)
  have k3 : w4.cell? ⟨g6, 3, none⟩ = some (.int .u8 184) := (hB4'.cell (p := ⟨g6, 3, none⟩) hg6).trans (hc6 3 _ rfl)
  have k4 : w4.cell? ⟨g6, 4, none⟩ = some (.int .u8 0) := (hB4'.cell (p := ⟨g6, 4, none⟩) hg6).trans (hc6 4 _ rfl)
  have k5 : w4.cell? ⟨g6, 5, none⟩ = some (.int .u8 0) := (hB4'.cell (p := ⟨g6, 5, none⟩) hg6).trans (hc6 5 _ rfl)
  have k6 : w4.cell? ⟨g6, 6, none⟩ = some (.int .u8 0) := (hB4'.cell (p := ⟨g6, 6, none⟩) hg6).trans (hc6 6 _ rfl)
  have k7 : w4.cell? ⟨g6, 7, none⟩ = some (.int .u8 0) := (hB4'.cell (p := ⟨g6, 7, none⟩) hg6).trans (hc6 7 _ rfl)
  have k8 : w4.cell? ⟨g6, 8, none⟩ = some (.int .u8 0) := (hB4'.cell (p := ⟨g6, 8, none⟩) hg6).trans (hc6 8 _ rfl)
  have k9 : w4.cell? ⟨g6, 9, none⟩ = some (.int .u8 0) := (hB4'.cell (p := ⟨g6, 9, none⟩) hg6).trans (hc6 9 _ rfl)
  have k10 : w4.cell? ⟨g6, 10, none⟩ = some (.int .u8 0) := (hB4'.cell (p := ⟨g6, 10, none⟩) hg6).trans (hc6 10 _ rfl)
  have k11 : w4.cell? ⟨g6, 11, none⟩ = some (.int .u8 0) := (hB4'.cell (p := ⟨g6, 11, none⟩) hg6).trans (hc6 11 _ rfl)
  have k12 : w4.cell? ⟨g6, 12, none⟩ = some (.int .u8 0) := (hB4'.cell (p := ⟨g6, 12, none⟩) hg6).trans (hc6 12 _ rfl)
  have k13 : w4.cell? ⟨g6, 13, none⟩ = some (.int .u8 0) := (hB4'.cell (p := ⟨g6, 13, none⟩) hg6).trans (hc6 13 _ rfl)
  have k14 : w4.cell? ⟨g6, 14, none⟩ = some (.int .u8 0) := (hB4'.cell (p := ⟨g6, 14, none⟩) hg6).trans (hc6 14 _ rfl)
  have k15 : w4.cell? ⟨g6, 15, none⟩ = some (.int .u8 1) := (hB4'.cell (p := ⟨g6, 15, none⟩) hg6).trans (hc6 15 _ rfl)
  have f0 : w4.cell? ⟨g4, 0, none⟩ = some (.int .u8 192) := hc4 0 _ rfl
  have f1 : w4.cell? ⟨g4, 1, none⟩ = some (.int .u8 0) := hc4 1 _ rfl
  have f2 : w4.cell? ⟨g4, 2, none⟩ = some (.int .u8 2) := hc4 2 _ rfl
  have f3 : w4.cell? ⟨g4, 3, none⟩ = some (.int .u8 1) := hc4 3 _ rfl
  have hBw := hB2.trans (hB4'.mono hB2.size)
  have q0 := fun j => (w3.alloc (.cells #[.int .u8 192, .int .u8 0, .int .u8 2, .int .u8 1] 23)).cell? ⟨g6, j, none⟩
  rw [hw4] at k0 k1 k2 k3 k4 k5 k6 k7 k8 k9 k10 k11 k12 k13 k14 k15
  rw [hw4, hg4] at f0 f1 f2 f3
  have HW : Hid _ := hBw
  have HW4 : Hid _ := hw4
  clear hc4 hc6 HC6 hst hB2 hB3 hB4' q0 hBw hw4 hg4 hg6
  have hsz : w3.heap.size < (w3.alloc (.cells #[.int .u8 192, .int .u8 0, .int .u8 2, .int .u8 1] 23)).heap.size := by simp
  have hBw : Below w.heap.size w (w3.alloc (.cells #[.int .u8 192, .int .u8 0, .int .u8 2, .int .u8 1] 23)) := by rw [← HW4.out]; exact HW.out
  have h6 := text6_known (w3.alloc (.cells #[.int .u8 192, .int .u8 0, .int .u8 2, .int .u8 1] 23)) (Tz.on HT.out.2 hBw)
  unfold known6V at h6
  have H6 : Hid _ := h6
  have HBW : Hid _ := hBw
  clear h6 hBw
  go_wp2_with fail
  refine Calls.mono H6.out ?_
  rintro e w5 ⟨rfl, hB5⟩
  have e0 := (hB5.cell (p := ⟨w3.heap.size, 0, none⟩) hsz).trans f0
  have e1 := (hB5.cell (p := ⟨w3.heap.size, 1, none⟩) hsz).trans f1
  have e2 := (hB5.cell (p := ⟨w3.heap.size, 2, none⟩) hsz).trans f2
  have e3 := (hB5.cell (p := ⟨w3.heap.size, 3, none⟩) hsz).trans f3
  have hB6 := HBW.out.trans (hB5.mono HBW.out.size)
  have ht4 := t4_known w5 (Tabs.on HT.out.1 hB6)
  have HT4 : Hid _ := ht4
  clear k0 k1 k2 k3 k4 k5 k6 k7 k8 k9 k10 k11 k12 k13 k14 k15 f0 f1 f2 f3 hB5 H6 hsz HW HBW ht4
  go_wp2_with fail
  refine Calls.mono HT4.out ?_
  rintro e w6 ⟨rfl, hB7⟩
  go_wp2
  go_ret
  exact ⟨rfl, hB6.trans (hB7.mono hB6.size)⟩

end Go.Proofs.YtlpbffcijhgelaaDoor
