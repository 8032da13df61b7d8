/-
  Reading from the front: run, octet, word of package ipv4; must where it is good.
  begin of package ipv4, where it goes on.
  must and begin of package ipv4, where they stop.
  What a datagram's bytes say: plain.
-/
import Derived.Test.YtnjkagopmfenkaaGreatFold04
import Derived.Test.YtnjkagopmfenkaaGreatFold09
import Derived.Recover
import Derived.WalkLawsBesides
import Derived.Laws.BitsAllLaws
namespace Go.Proofs.YtnjkagopmfenkaaGreat.V4
open Go Go.RowKit
set_option linter.unusedVariables false
set_option linter.unusedSimpArgs false

set_option maxHeartbeats 1000000 in
set_option maxRecDepth 100000 in
theorem run_calls (R b off len cap n : Nat) (w : World) (hc : w.cell? ⟨R, 0, none⟩ = some (.slice (some ⟨b, off, none⟩) len cap)) (hf : w.frozen? ⟨R, 0, none⟩ = false) (hn : n ≤ len) (hl : len ≤ cap) :
    Calls Tryz.prog 138 #[.pointer (some ⟨R, 0, none⟩), .int .i64 n] w fun e w' => e = .returned (.slice (some ⟨b, off, none⟩) n cap) ∧ w' = w.setCell ⟨R, 0, none⟩ (restV b off len cap n) := by
  by_cases hcap : cap = n
  · subst hcap
    obtain rfl : len = cap := by omega
    simp only [restV, if_true, Nat.sub_self]
    go_enter Tryz.func138, Tryz.ntmps138
    go_wp2
    go_ret
    exact ⟨rfl, rfl⟩
  · simp only [restV, if_neg hcap]
    go_enter Tryz.func138, Tryz.ntmps138
    go_wp2
    go_ret
    exact ⟨rfl, rfl⟩

set_option maxHeartbeats 1000000 in
theorem must_good (at' e : Int) (w : World) : Calls Tryz.prog 107 #[.bool true, .int .i64 at', .int .i64 e] w fun e w' => e = .returned (.tuple #[]) ∧ w' = w := by
  go_enter Tryz.func107, Tryz.ntmps107
  go_wp2
  go_end0
  exact ⟨rfl, rfl⟩

set_option maxHeartbeats 1000000 in
set_option maxRecDepth 100000 in
theorem octet_calls (R b off len cap : Nat) (z : Int) (w : World) (hc : w.cell? ⟨R, 0, none⟩ = some (.slice (some ⟨b, off, none⟩) len cap)) (hf : w.frozen? ⟨R, 0, none⟩ = false) (hn : 1 ≤ len) (hl : len ≤ cap) (hR : b ≠ R) (h0 : w.cell? ⟨b, off, none⟩ = some (.int .u8 z)) :
    Calls Tryz.prog 112 #[.pointer (some ⟨R, 0, none⟩)] w fun e w' => e = .returned (.int .u8 z) ∧ w' = w.setCell ⟨R, 0, none⟩ (restV b off len cap 1) := by
  have HR : Hid _ := run_calls R b off len cap 1 w hc hf hn hl
  have k0 : (w.setCell ⟨R, 0, none⟩ (restV b off len cap 1)).cell? ⟨b, off, none⟩ = some (.int .u8 z) := (World.cell?_setCell_other _ _ _ _ (by intro c; injection c; omega)).trans h0
  generalize w.setCell ⟨R, 0, none⟩ (restV b off len cap 1) = w2 at *
  clear hc hf h0
  go_enter Tryz.func112, Tryz.ntmps112
  go_wp2_with fail
  refine Calls.mono HR.out ?_
  rintro e w3 ⟨rfl, rfl⟩
  clear HR
  go_wp2
  go_ret
  exact ⟨rfl, rfl⟩

set_option maxHeartbeats 1000000 in
set_option maxRecDepth 100000 in
theorem word_calls (R b off len cap : Nat) (x y : Int) (w : World) (hc : w.cell? ⟨R, 0, none⟩ = some (.slice (some ⟨b, off, none⟩) len cap)) (hf : w.frozen? ⟨R, 0, none⟩ = false) (hn : 2 ≤ len) (hl : len ≤ cap) (hR : b ≠ R) (h0 : w.cell? ⟨b, off, none⟩ = some (.int .u8 x)) (h1 : w.cell? ⟨b, off + 1, none⟩ = some (.int .u8 y)) (bx : 0 ≤ x ∧ x < 256) (by' : 0 ≤ y ∧ y < 256) :
    Calls Tryz.prog 137 #[.pointer (some ⟨R, 0, none⟩)] w fun e w' => e = .returned (.int .u16 (x * 256 + y)) ∧ w' = (w.setCell ⟨R, 0, none⟩ (restV b off len cap 2)).drew := by
  have hor := or_word x y bx.1 bx.2 by'.1 by'.2
  have HR : Hid _ := run_calls R b off len cap 2 w hc hf hn hl
  have k0 : (w.setCell ⟨R, 0, none⟩ (restV b off len cap 2)).cell? ⟨b, off, none⟩ = some (.int .u8 x) := (World.cell?_setCell_other _ _ _ _ (by intro c; injection c; omega)).trans h0
  have k1 : (w.setCell ⟨R, 0, none⟩ (restV b off len cap 2)).cell? ⟨b, off + 1, none⟩ = some (.int .u8 y) := (World.cell?_setCell_other _ _ _ _ (by intro c; injection c; omega)).trans h1
  generalize w.setCell ⟨R, 0, none⟩ (restV b off len cap 2) = w2 at *
  clear hc hf h0 h1
  go_enter Tryz.func137, Tryz.ntmps137
  go_wp2_with fail
  refine Calls.mono HR.out ?_
  rintro e w3 ⟨rfl, rfl⟩
  clear HR
  go_wp2
  go_region
  all_goals
    go_wp2
    go_ret
    exact ⟨rfl, rfl⟩

end Go.Proofs.YtnjkagopmfenkaaGreat.V4

namespace Go.Proofs.YtnjkagopmfenkaaGreat.V4
open Go Go.RowKit
set_option linter.unusedVariables false
set_option linter.unusedSimpArgs false

/-- A reader in its box: what is left, TOS, the header's size, the size of all; every other block is as it was. -/
structure ReadW (w W : World) (R b off len cap : Nat) (tos size all : Int) : Prop where
  blk : W.heap[R]? = some (.cells [.slice (some ⟨b, off, none⟩) len cap, .int .u8 tos, .int .i64 size, .int .i64 all].toArray 160)
  up : w.heap.size ≤ R
  bel : Below w.heap.size w W
theorem ReadW.left {w W : World} {R b off len cap : Nat} {tos size all : Int} (h : ReadW w W R b off len cap tos size all) (n : Nat) (hn : n < cap) : ReadW w (W.setCell ⟨R, 0, none⟩ (restV b off len cap n)) R b (off + n) (len - n) (cap - n) tos size all := by
  refine ⟨?_, h.up, h.bel.setCell h.up _⟩
  rw [blk_set h.blk, restV, if_neg (by omega)]
  rfl
theorem ReadW.set {w W : World} {R b off len cap : Nat} {tos size all : Int} (h : ReadW w W R b off len cap tos size all) (x : Int) :
    ReadW w (W.setCell ⟨R, 1, none⟩ (.int .u8 x)) R b off len cap x size all ∧ ReadW w (W.setCell ⟨R, 2, none⟩ (.int .i64 x)) R b off len cap tos x all ∧ ReadW w (W.setCell ⟨R, 3, none⟩ (.int .i64 x)) R b off len cap tos size x :=
  ⟨⟨by rw [blk_set h.blk]; rfl, h.up, h.bel.setCell h.up _⟩, ⟨by rw [blk_set h.blk]; rfl, h.up, h.bel.setCell h.up _⟩, ⟨by rw [blk_set h.blk]; rfl, h.up, h.bel.setCell h.up _⟩⟩
theorem ReadW.drew {w W : World} {R b off len cap : Nat} {tos size all : Int} (h : ReadW w W R b off len cap tos size all) : ReadW w W.drew R b off len cap tos size all := ⟨h.blk, h.up, h.bel.drew⟩
theorem ReadW.old {w W : World} {R b off len cap : Nat} {tos size all : Int} (h : ReadW w W R b off len cap tos size all) {g o : Nat} {v : Value} (hg : g < w.heap.size) (hv : w.cell? ⟨g, o, none⟩ = some v) : W.cell? ⟨g, o, none⟩ = some v :=
  (h.bel.cell (p := ⟨g, o, none⟩) hg).trans hv

set_option maxHeartbeats 2000000 in
set_option maxRecDepth 100000 in
theorem begin_ok (b off len cap : Nat) (z0 z1 z2 z3 : Int) (w : World) (hb : b < w.heap.size) (hl : 20 ≤ len) (hc : len ≤ cap) (hm : len ≤ 140737488351232)
    (k0 : w.cell? ⟨b, off, none⟩ = some (.int .u8 z0)) (k1 : w.cell? ⟨b, off + 1, none⟩ = some (.int .u8 z1)) (k2 : w.cell? ⟨b, off + 2, none⟩ = some (.int .u8 z2)) (k3 : w.cell? ⟨b, off + 3, none⟩ = some (.int .u8 z3))
    (f0 : 0 ≤ z0 ∧ z0 < 256) (f2 : 0 ≤ z2 ∧ z2 < 256) (f3 : 0 ≤ z3 ∧ z3 < 256) (hv : z0 / 16 = 4) (hs : 20 ≤ z0 % 16 * 4 ∧ z0 % 16 * 4 ≤ len) (ha : bits .and .u8 z0 15 = z0 % 16) :
    Calls Tryz.prog 106 #[.slice (some ⟨b, off, none⟩) len cap] w fun e w' => e = .returned (.pointer (some ⟨w.heap.size, 0, none⟩)) ∧ ReadW w w' w.heap.size b (off + 4) (len - 4) (cap - 4) z1 (z0 % 16 * 4) (z2 * 256 + z3) := by
  have q0 : decide ((20 : Int) ≤ (len : Int)) = true := by simp; omega
  have hR : b ≠ w.heap.size := by omega
  have hS : ReadW w (w.alloc (.cells [.slice (some ⟨b, off, none⟩) len cap, .int .u8 0, .int .i64 0, .int .i64 0].toArray 160)) w.heap.size b off len cap 0 0 0 := ⟨blk_new w _, Nat.le_refl _, (Below.refl _ w).alloc (Nat.le_refl _) _⟩
  have HO : Hid _ := octet_calls w.heap.size b off len cap z0 _ (blk_cell hS.blk rfl) (blk_open hS.blk 0) (by omega) hc hR (hS.old hb k0)
  have HS1 : Hid _ := hS.left 1 (by omega)
  have K1 : Hid _ := k1
  have K2 : Hid _ := k2
  have K3 : Hid _ := k3
  clear hS k0 k1 k2 k3
  go_enter Tryz.func106, Tryz.ntmps106
  go_wp2_with fail
  refine Calls.mono (must_good _ _ _) ?_
  rintro e1 w1 ⟨rfl, hw1⟩
  obtain rfl := hw1.symm
  clear hw1
  go_wp2_with fail
  refine Calls.mono HO.out ?_
  rintro e2 w2 ⟨rfl, e2⟩
  have hS2 := HS1.out
  rw [← e2] at hS2
  have HS2 : Hid _ := hS2
  clear HO HS1 hS2 e2
  have q1 : (z0 / 16 == 4) = true := by simp [hv]
  have c2 := blk_cell HS2.out.blk (j := 2) rfl
  have g2 := blk_open HS2.out.blk 2
  have q2 : decide ((20 : Int) ≤ z0 % 16 * 4) = true := by simp; omega
  have q3 : decide (z0 % 16 * 4 ≤ (len : Int)) = true := by simp; omega
  have hS3 := (HS2.out.set (z0 % 16 * 4)).2.1
  have HO2 : Hid _ := octet_calls w.heap.size b (off + 1) (len - 1) (cap - 1) z1 _ (blk_cell hS3.blk rfl) (blk_open hS3.blk 0) (by omega) (by omega) hR (hS3.old hb K1.out)
  have hS4 := hS3.left 1 (by omega)
  have HS4 : Hid _ := hS4
  clear hS3 hS4 HS2
  go_wp2_with fail
  refine Calls.mono (must_good _ _ _) ?_
  rintro e3 w3 ⟨rfl, hw3⟩
  obtain rfl := hw3.symm
  clear hw3
  go_wp2_with fail
  refine Calls.mono (must_good _ _ _) ?_
  rintro e4 w4 ⟨rfl, hw4⟩
  obtain rfl := hw4.symm
  clear hw4 c2 g2
  go_wp2_with fail
  refine Calls.mono HO2.out ?_
  rintro e5 w5 ⟨rfl, hw5⟩
  have hS5 := HS4.out
  rw [← hw5] at hS5
  clear HO2 HS4 hw5
  have c1 := blk_cell hS5.blk (j := 1) rfl
  have g1 := blk_open hS5.blk 1
  have hS6 := (hS5.set z1).1
  have HW : Hid _ := word_calls w.heap.size b (off + 1 + 1) (len - 1 - 1) (cap - 1 - 1) z2 z3 _ (blk_cell hS6.blk rfl) (blk_open hS6.blk 0) (by omega) (by omega) hR (hS6.old hb K2.out) (hS6.old hb K3.out) f2 f3
  have hS7 := (hS6.left 2 (by omega)).drew
  have HS7 : Hid _ := hS7
  clear hS5 hS6 hS7
  go_wp2_with fail
  refine Calls.mono HW.out ?_
  rintro e6 w6 ⟨rfl, hw6⟩
  have hS8 := HS7.out
  rw [← hw6] at hS8
  clear HW HS7 hw6 c1 g1
  have c3 := blk_cell hS8.blk (j := 3) rfl
  have g3 := blk_open hS8.blk 3
  have hS9 := (hS8.set (z2 * 256 + z3)).2.2
  have HS9 : Hid _ := hS9
  clear hS8 hS9
  go_wp2
  go_ret
  refine ⟨rfl, ?_⟩
  have := HS9.out
  rwa [show off + 1 + 1 + 2 = off + 4 by omega, show len - 1 - 1 - 2 = len - 4 by omega, show cap - 1 - 1 - 2 = cap - 4 by omega] at this

end Go.Proofs.YtnjkagopmfenkaaGreat.V4

namespace Go.Proofs.YtnjkagopmfenkaaGreat.V4
open Go Go.RowKit
set_option linter.unusedVariables false
set_option linter.unusedSimpArgs false

/-- What is thrown. -/
def faultP (at' e : Int) : PanicEntry := { v := .iface 116 (.agg #[.int .i64 at', .int .i64 e]), recovered := false }

set_option maxHeartbeats 1000000 in
theorem must_bad (at' e : Int) (w : World) : Calls Tryz.prog 107 #[.bool false, .int .i64 at', .int .i64 e] w fun e' w' => e' = .panicked [faultP at' e] ∧ w' = w := by
  unfold faultP
  go_enter Tryz.func107, Tryz.ntmps107
  go_wp2
  exact ⟨rfl, rfl, rfl⟩

set_option maxHeartbeats 1000000 in
set_option maxRecDepth 100000 in
theorem begin_short (a : Option Addr) (len cap : Nat) (w : World) (hl : len < 20) :
    Calls Tryz.prog 106 #[.slice a len cap] w fun e w' => e = .panicked [faultP 0 40] ∧ Below w.heap.size w w' := by
  have q0 : decide ((20 : Int) ≤ (len : Int)) = false := by simp; omega
  have HB : Hid _ := Below.refl w.heap.size w
  go_enter Tryz.func106, Tryz.ntmps106
  go_wp2_with fail
  refine Calls.mono (must_bad _ _ _) ?_
  rintro e1 w1 ⟨rfl, hw1⟩
  obtain rfl := hw1.symm
  exact ⟨rfl, rfl, HB.out⟩

set_option maxHeartbeats 2000000 in
set_option maxRecDepth 100000 in
theorem begin_version (b off len cap : Nat) (z0 : Int) (w : World) (hb : b < w.heap.size) (hl : 20 ≤ len) (hc : len ≤ cap) (hm : len ≤ 140737488351232)
    (k0 : w.cell? ⟨b, off, none⟩ = some (.int .u8 z0)) (f0 : 0 ≤ z0 ∧ z0 < 256) (hv : z0 / 16 ≠ 4) :
    Calls Tryz.prog 106 #[.slice (some ⟨b, off, none⟩) len cap] w fun e w' => e = .panicked [faultP 0 41] ∧ Below w.heap.size w w' := by
  have q0 : decide ((20 : Int) ≤ (len : Int)) = true := by simp; omega
  have hR : b ≠ w.heap.size := by omega
  have hS : ReadW w (w.alloc (.cells [.slice (some ⟨b, off, none⟩) len cap, .int .u8 0, .int .i64 0, .int .i64 0].toArray 160)) w.heap.size b off len cap 0 0 0 := ⟨blk_new w _, Nat.le_refl _, (Below.refl _ w).alloc (Nat.le_refl _) _⟩
  have HO : Hid _ := octet_calls w.heap.size b off len cap z0 _ (blk_cell hS.blk rfl) (blk_open hS.blk 0) (by omega) hc hR (hS.old hb k0)
  have HS1 : Hid _ := hS.left 1 (by omega)
  clear hS k0
  go_enter Tryz.func106, Tryz.ntmps106
  go_wp2_with fail
  refine Calls.mono (must_good _ _ _) ?_
  rintro e1 w1 ⟨rfl, hw1⟩
  obtain rfl := hw1.symm
  clear hw1
  go_wp2_with fail
  refine Calls.mono HO.out ?_
  rintro e2 w2 ⟨rfl, e2⟩
  have hS2 := HS1.out
  rw [← e2] at hS2
  have HS2 : Hid _ := hS2
  clear HO HS1 hS2 e2
  have q1 : (z0 / 16 == 4) = false := by simp [hv]
  go_wp2_with fail
  refine Calls.mono (must_bad _ _ _) ?_
  rintro e3 w3 ⟨rfl, hw3⟩
  obtain rfl := hw3.symm
  exact ⟨rfl, rfl, HS2.out.bel⟩

set_option maxHeartbeats 2000000 in
set_option maxRecDepth 100000 in
theorem begin_head (b off len cap : Nat) (z0 : Int) (w : World) (hb : b < w.heap.size) (hl : 20 ≤ len) (hc : len ≤ cap) (hm : len ≤ 140737488351232)
    (k0 : w.cell? ⟨b, off, none⟩ = some (.int .u8 z0)) (f0 : 0 ≤ z0 ∧ z0 < 256) (hv : z0 / 16 = 4) (hs : ¬ (20 ≤ z0 % 16 * 4 ∧ z0 % 16 * 4 ≤ len)) (ha : bits .and .u8 z0 15 = z0 % 16) :
    Calls Tryz.prog 106 #[.slice (some ⟨b, off, none⟩) len cap] w fun e w' => e = .panicked [faultP 0 42] ∧ Below w.heap.size w w' := by
  have q0 : decide ((20 : Int) ≤ (len : Int)) = true := by simp; omega
  have hR : b ≠ w.heap.size := by omega
  have hS : ReadW w (w.alloc (.cells [.slice (some ⟨b, off, none⟩) len cap, .int .u8 0, .int .i64 0, .int .i64 0].toArray 160)) w.heap.size b off len cap 0 0 0 := ⟨blk_new w _, Nat.le_refl _, (Below.refl _ w).alloc (Nat.le_refl _) _⟩
  have HO : Hid _ := octet_calls w.heap.size b off len cap z0 _ (blk_cell hS.blk rfl) (blk_open hS.blk 0) (by omega) hc hR (hS.old hb k0)
  have HS1 : Hid _ := hS.left 1 (by omega)
  clear hS k0
  by_cases h20 : 20 ≤ z0 % 16 * 4
  · have q2 : decide ((20 : Int) ≤ z0 % 16 * 4) = true := by simp; omega
    have q3 : decide (z0 % 16 * 4 ≤ (len : Int)) = false := by simp; omega
    clear hs
    go_enter Tryz.func106, Tryz.ntmps106
    go_wp2_with fail
    refine Calls.mono (must_good _ _ _) ?_
    rintro e1 w1 ⟨rfl, hw1⟩
    obtain rfl := hw1.symm
    clear hw1
    go_wp2_with fail
    refine Calls.mono HO.out ?_
    rintro e2 w2 ⟨rfl, e2⟩
    have hS2 := HS1.out
    rw [← e2] at hS2
    have HS2 : Hid _ := hS2
    clear HO HS1 hS2 e2
    have q1 : (z0 / 16 == 4) = true := by simp [hv]
    have c2 := blk_cell HS2.out.blk (j := 2) rfl
    have g2 := blk_open HS2.out.blk 2
    have HS3 : Hid _ := (HS2.out.set (z0 % 16 * 4)).2.1
    clear HS2
    go_wp2_with fail
    refine Calls.mono (must_good _ _ _) ?_
    rintro e3 w3 ⟨rfl, hw3⟩
    obtain rfl := hw3.symm
    clear hw3
    go_wp2_with fail
    refine Calls.mono (must_bad _ _ _) ?_
    rintro e4 w4 ⟨rfl, hw4⟩
    obtain rfl := hw4.symm
    exact ⟨rfl, rfl, HS3.out.bel⟩
  · have q2 : decide ((20 : Int) ≤ z0 % 16 * 4) = false := by simp; omega
    clear hs
    go_enter Tryz.func106, Tryz.ntmps106
    go_wp2_with fail
    refine Calls.mono (must_good _ _ _) ?_
    rintro e1 w1 ⟨rfl, hw1⟩
    obtain rfl := hw1.symm
    clear hw1
    go_wp2_with fail
    refine Calls.mono HO.out ?_
    rintro e2 w2 ⟨rfl, e2⟩
    have hS2 := HS1.out
    rw [← e2] at hS2
    have HS2 : Hid _ := hS2
    clear HO HS1 hS2 e2
    have q1 : (z0 / 16 == 4) = true := by simp [hv]
    have c2 := blk_cell HS2.out.blk (j := 2) rfl
    have g2 := blk_open HS2.out.blk 2
    have HS3 : Hid _ := (HS2.out.set (z0 % 16 * 4)).2.1
    clear HS2
    go_wp2_with fail
    refine Calls.mono (must_good _ _ _) ?_
    rintro e3 w3 ⟨rfl, hw3⟩
    obtain rfl := hw3.symm
    clear hw3
    go_wp2_with fail
    refine Calls.mono (must_bad _ _ _) ?_
    rintro e4 w4 ⟨rfl, hw4⟩
    obtain rfl := hw4.symm
    exact ⟨rfl, rfl, HS3.out.bel⟩

end Go.Proofs.YtnjkagopmfenkaaGreat.V4

namespace Go.Proofs.YtnjkagopmfenkaaGreat.V4
open Go Go.RowKit
set_option linter.unusedVariables false
set_option linter.unusedSimpArgs false

theorem u16_low13 (z : Int) (h : 0 ≤ z ∧ z < 65536) : bits .and .u16 z 8191 = z % 8192 := by
  obtain ⟨x, rfl⟩ := Int.eq_ofNat_of_zero_le h.1
  have := u16_and_nat x 8191 (by omega) (by omega)
  have e : x &&& 8191 = x % 2 ^ 13 := Nat.and_two_pow_sub_one_eq_mod x 13
  rw [e] at this
  rw [show (8191 : Int) = ((8191 : Nat) : Int) from rfl, this]
  omega
theorem df_bit (x y : Int) (hx : 0 ≤ x ∧ x < 256) (hy : 0 ≤ y ∧ y < 256) : (bits .and .u16 (x * 256 + y) 16384 != 0) = decide (x / 64 % 2 = 1) := by
  have := u16_bit (x * 256 + y) 14 (by omega) (by decide)
  rw [show (((2 ^ 14 : Nat) : Int)) = 16384 from rfl] at this
  rw [this, Bool.eq_iff_iff, bne_iff_ne, decide_eq_true_eq]
  omega
theorem mf_bit (x y : Int) (hx : 0 ≤ x ∧ x < 256) (hy : 0 ≤ y ∧ y < 256) : (bits .and .u16 (x * 256 + y) 8192 != 0) = decide (x / 32 % 2 = 1) := by
  have := u16_bit (x * 256 + y) 13 (by omega) (by decide)
  rw [show (((2 ^ 13 : Nat) : Int)) = 8192 from rfl] at this
  rw [this, Bool.eq_iff_iff, bne_iff_ne, decide_eq_true_eq]
  omega
theorem off_bits (x y : Int) (hx : 0 ≤ x ∧ x < 256) (hy : 0 ≤ y ∧ y < 256) : bits .and .u16 (x * 256 + y) 8191 = x % 32 * 256 + y := by
  rw [u16_low13 _ (by omega)]
  omega
theorem df_ref (x : Int) (hx : 0 ≤ x ∧ x < 256) : (bits .and .u8 x 64 != 0) = decide (x / 64 % 2 = 1) := by
  have := u8_bit x 6 hx (by decide)
  rw [show (((2 ^ 6 : Nat) : Int)) = 64 from rfl] at this
  rw [this, Bool.eq_iff_iff, bne_iff_ne, decide_eq_true_eq]
  omega
theorem mf_ref (x : Int) (hx : 0 ≤ x ∧ x < 256) : (bits .and .u8 x 32 != 0) = decide (x / 32 % 2 = 1) := by
  have := u8_bit x 5 hx (by decide)
  rw [show (((2 ^ 5 : Nat) : Int)) = 32 from rfl] at this
  rw [this, Bool.eq_iff_iff, bne_iff_ne, decide_eq_true_eq]
  omega

def pHead (zs : List Int) : Int := gz zs 0 % 16 * 4
def pAll (zs : List Int) : Int := gz zs 2 * 256 + gz zs 3
/-- Where bytes are none, and by what; 0 and 0 where they are a datagram. -/
def pErr (zs : List Int) (part : Bool) : Int × Int :=
  if zs.length < 20 then (0, 40) else if gz zs 0 / 16 ≠ 4 then (0, 41) else if ¬ (20 ≤ pHead zs ∧ pHead zs ≤ zs.length) then (0, 42)
  else if pAll zs < zs.length ∨ (zs.length < pAll zs ∧ part = false) then (2, 43)
  else if part = false ∧ sumW 0 (wordsL (zs.take (pHead zs).toNat)) ≠ 65535 then (10, 44) else (0, 0)
/-- The datagram that bytes say. -/
def SaysD (zs : List Int) (W : World) (c : List Value) : Prop :=
  Dgram W c (gz zs 1) (gz zs 4 * 256 + gz zs 5) (decide (gz zs 6 / 64 % 2 = 1)) (decide (gz zs 6 / 32 % 2 = 1)) (gz zs 6 % 32 * 256 + gz zs 7) (gz zs 8) (gz zs 9) (gz zs 12) (gz zs 13) (gz zs 14) (gz zs 15) (gz zs 16) (gz zs 17) (gz zs 18) (gz zs 19) ((zs.drop 20).take ((pHead zs).toNat - 20)) (zs.drop (pHead zs).toNat)
def ParD (zs : List Int) (part : Bool) (W : World) (c : List Value) : Prop :=
  if pErr zs part = (0, 0) then SaysD zs W c else Dgram W c 0 0 false false 0 0 0 0 0 0 0 0 0 0 0 [] []
/-- Its lists lie in memory of its own. -/
def Apart (B : Nat) (c : List Value) : Prop := ∀ j, j = 15 ∨ j = 16 → (∃ a k, c[j]? = some (.slice a 0 k)) ∨ ∃ b off n k, c[j]? = some (.slice (some ⟨b, off, none⟩) n k) ∧ B ≤ b
end Go.Proofs.YtnjkagopmfenkaaGreat.V4
