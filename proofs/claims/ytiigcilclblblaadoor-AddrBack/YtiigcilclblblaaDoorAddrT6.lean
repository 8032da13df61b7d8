/-
  The text of the known IPv6 address.
-/
import Derived.Test.YtiigcilclblblaaDoorAddrKnown
import Derived.Deep.RegionWith
namespace Go.Proofs.YtiigcilclblblaaDoor
open Go Go.RowKit
set_option linter.unusedVariables false
set_option linter.unusedSimpArgs false

/-- The table of trailing zeros, whatever is laid above. -/
def Tz (w : World) : Prop := 3 < w.heap.size ∧ ∀ w', Below w.heap.size w w' → w'.cell? ⟨3, 15, none⟩ = some (.int .u8 4)

theorem Tz.on {w w' : World} (h : Tz w) (hb : Below w.heap.size w w') : Tz w' := ⟨Nat.lt_of_lt_of_le h.1 hb.size, fun x hx => h.2 x (hb.trans (hx.mono hb.size))⟩

theorem hexA (b c : Nat) (w : World) (ht : Tz w) (hb : b < w.heap.size) (c0 : w.cell? ⟨b, 0, none⟩ = some (.int .u16 8193)) (c1 : w.cell? ⟨b, 1, none⟩ = some (.int .u16 3512)) :
    Calls Tryd.prog 61 #[.slice (some ⟨b, 0, none⟩) 2 c] w fun e w' => e = .returned (.string ⟨#[50, 48, 48, 49, 58, 100, 98, 56]⟩) ∧ Below w.heap.size w w' := by
  have h := hexes_calls [8193, 3512] (by decide) (by decide) b 0 c w ht.2 ht.1 hb (fun j z hj => by
    match j, hj with
    | 0, hj => cases hj; exact c0
    | 1, hj => cases hj; exact c1
    | n + 2, hj => simp at hj)
  have e : Lib.join (([8193, 3512] : List Int).map hexText) [58] = [50, 48, 48, 49, 58, 100, 98, 56] := by kernel_rfl
  rw [e] at h
  exact h

theorem hexB (b c : Nat) (w : World) (ht : Tz w) (hb : b < w.heap.size) (c7 : w.cell? ⟨b, 7, none⟩ = some (.int .u16 1)) :
    Calls Tryd.prog 61 #[.slice (some ⟨b, 7, none⟩) 1 c] w fun e w' => e = .returned (.string ⟨#[49]⟩) ∧ Below w.heap.size w w' := by
  have h := hexes_calls [1] (by decide) (by decide) b 7 c w ht.2 ht.1 hb (fun j z hj => by
    match j, hj with
    | 0, hj => cases hj; exact c7
    | n + 1, hj => simp at hj)
  have e : Lib.join (([1] : List Int).map hexText) [58] = [49] := by kernel_rfl
  rw [e] at h
  exact h

def known6V : Value := .agg #[.int .u8 32, .int .u8 1, .int .u8 13, .int .u8 184, .int .u8 0, .int .u8 0, .int .u8 0, .int .u8 0, .int .u8 0, .int .u8 0, .int .u8 0, .int .u8 0, .int .u8 0, .int .u8 0, .int .u8 0, .int .u8 1]

set_option maxHeartbeats 2000000 in
set_option maxRecDepth 100000 in
theorem text6_known (w : World) (ht : Tz w) : Calls Tryd.prog 20 #[known6V] w fun e w' => e = .returned (.string ⟨#[50, 48, 48, 49, 58, 100, 98, 56, 58, 58, 49]⟩) ∧ Below w.heap.size w w' := by
  unfold known6V
  have HT : Hid _ := ht
  clear ht
  go_enter Tryd.func20, Tryd.ntmps20
  go_wp2_with fail
  refine (groups_known _).mono ?_
  rintro e w1 ⟨rfl, hB1⟩
  have h0 := (Below.refl w.heap.size w).alloc (Nat.le_refl _) (.cells #[.int .u8 32, .int .u8 1, .int .u8 13, .int .u8 184, .int .u8 0, .int .u8 0, .int .u8 0, .int .u8 0, .int .u8 0, .int .u8 0, .int .u8 0, .int .u8 0, .int .u8 0, .int .u8 0, .int .u8 0, .int .u8 1] 31)
  have hB := h0.trans (hB1.mono h0.size)
  clear h0 hB1
  go_wp2_with fail
  have hB2 := hB.alloc hB.size (.cells #[.int .u16 8193, .int .u16 3512, .int .u16 0, .int .u16 0, .int .u16 0, .int .u16 0, .int .u16 0, .int .u16 1] 94)
  have hg : w1.heap.size < (w1.alloc (.cells #[.int .u16 8193, .int .u16 3512, .int .u16 0, .int .u16 0, .int .u16 0, .int .u16 0, .int .u16 0, .int .u16 1] 94)).heap.size := by simp
  have hc : ∀ j v, (#[Value.int .u16 8193, .int .u16 3512, .int .u16 0, .int .u16 0, .int .u16 0, .int .u16 0, .int .u16 0, .int .u16 1] : Array Value)[j]? = some v → (w1.alloc (.cells #[.int .u16 8193, .int .u16 3512, .int .u16 0, .int .u16 0, .int .u16 0, .int .u16 0, .int .u16 0, .int .u16 1] 94)).cell? ⟨w1.heap.size, j, none⟩ = some v := by
    intro j v hj
    rw [World.cell?_alloc_new]
    simpa using hj
  generalize w1.alloc (.cells #[.int .u16 8193, .int .u16 3512, .int .u16 0, .int .u16 0, .int .u16 0, .int .u16 0, .int .u16 0, .int .u16 1] 94) = w2 at *
  generalize w1.heap.size = g at *
  have c0 := hc 0 _ rfl
  have c1 := hc 1 _ rfl
  have c7 := hc 7 _ rfl
  have hgap := gap_known g w2 c0 c1 (hc 2 _ rfl) (hc 3 _ rfl) (hc 4 _ rfl) (hc 5 _ rfl) (hc 6 _ rfl) c7
  have hTz : Tz w2 := Tz.on HT.out hB2
  have hA : ∀ W, Below w2.heap.size w2 W → Calls Tryd.prog 61 #[.slice (some ⟨g, 0, none⟩) 2 8] W fun e w' => e = .returned (.string ⟨#[50, 48, 48, 49, 58, 100, 98, 56]⟩) ∧ Below W.heap.size W w' := fun W hW =>
    hexA g 8 W (hTz.on hW) (Nat.lt_of_lt_of_le hg hW.size) ((hW.cell (p := ⟨g, 0, none⟩) hg).trans c0) ((hW.cell (p := ⟨g, 1, none⟩) hg).trans c1)
  have hD : ∀ W, Below w2.heap.size w2 W → Calls Tryd.prog 61 #[.slice (some ⟨g, 7, none⟩) 1 1] W fun e w' => e = .returned (.string ⟨#[49]⟩) ∧ Below W.heap.size W w' := fun W hW =>
    hexB g 1 W (hTz.on hW) (Nat.lt_of_lt_of_le hg hW.size) ((hW.cell (p := ⟨g, 7, none⟩) hg).trans c7)
  have HG : Hid _ := hgap
  have HA : Hid _ := hA
  have HD : Hid _ := hD
  clear hc c0 c1 c7 hgap hTz hA hD hg hB
  refine Calls.mono HG.out ?_
  rintro e w3 ⟨rfl, rfl⟩
  go_wp2_with fail
  go_region_with (first
    | (go_at_call_of 61 (Value.slice (some { block := g, off := 0 }) 2 8); refine Calls.mono (HA.out _ ?_) ?_; (first | exact BB | exact (Below.refl _ _).drew); rintro e wa ⟨rfl, hBa⟩; (first | have BC := BB.trans (hBa.mono BB.size) | have BB := ((Below.refl _ _).drew).trans hBa))
    | (go_at_call_of 61 (Value.slice (some { block := g, off := 7 }) 1 1); refine Calls.mono (HD.out _ ?_) ?_; (first | exact BB | exact (Below.refl _ _).drew); rintro e wb ⟨rfl, hBb⟩; (first | have BC := BB.trans (hBb.mono BB.size) | have BB := ((Below.refl _ _).drew).trans hBb)))
  all_goals
    go_wp2
    go_ret
    exact ⟨rfl, hB2.trans (BC.mono hB2.size)⟩

end Go.Proofs.YtiigcilclblblaaDoor
