/-
  begin of package ipv4, where it goes on.
-/
import Derived.Test.YtmoogfdmlbalbaaIr1
namespace Go.Proofs.Ytmoogfdmlbalbaa
open Go Go.RowKit
set_option linter.unusedVariables false
set_option linter.unusedSimpArgs false

/-- A reader in its box: what is left, TOS, the header's size, the size of all; every other block is as it was. -/
structure ReadW (w W : World) (R b off len cap : Nat) (tos size all : Int) : Prop where
  blk : W.heap[R]? = some (.cells [.slice (some ⟨b, off, none⟩) len cap, .int .u8 tos, .int .i64 size, .int .i64 all].toArray 67)
  up : w.heap.size ≤ R
  bel : Below w.heap.size w W
theorem ReadW.left {w W : World} {R b off len cap : Nat} {tos size all : Int} (h : ReadW w W R b off len cap tos size all) (n : Nat) (hn : n < cap) : ReadW w (W.setCell ⟨R, 0, none⟩ (restV b off len cap n)) R b (off + n) (len - n) (cap - n) tos size all := by
  refine ⟨?_, h.up, h.bel.setCell h.up _⟩
  rw [blk_set h.blk, restV, if_neg (by omega)]
  rfl
theorem ReadW.set {w W : World} {R b off len cap : Nat} {tos size all : Int} (h : ReadW w W R b off len cap tos size all) (x : Int) :
    ReadW w (W.setCell ⟨R, 1, none⟩ (.int .u8 x)) R b off len cap x size all ∧ ReadW w (W.setCell ⟨R, 2, none⟩ (.int .i64 x)) R b off len cap tos x all ∧ ReadW w (W.setCell ⟨R, 3, none⟩ (.int .i64 x)) R b off len cap tos size x :=
  ⟨⟨by rw [blk_set h.blk]; rfl, h.up, h.bel.setCell h.up _⟩, ⟨by rw [blk_set h.blk]; rfl, h.up, h.bel.setCell h.up _⟩, ⟨by rw [blk_set h.blk]; rfl, h.up, h.bel.setCell h.up _⟩⟩
theorem ReadW.drew {w W : World} {R b off len cap : Nat} {tos size all : Int} (h : ReadW w W R b off len cap tos size all) : ReadW w W.drew R b off len cap tos size all := ⟨h.blk, h.up, h.bel.drew⟩
theorem ReadW.old {w W : World} {R b off len cap : Nat} {tos size all : Int} (h : ReadW w W R b off len cap tos size all) {g o : Nat} {v : Value} (hg : g < w.heap.size) (hv : w.cell? ⟨g, o, none⟩ = some v) : W.cell? ⟨g, o, none⟩ = some v :=
  (h.bel.cell (p := ⟨g, o, none⟩) hg).trans hv

set_option maxHeartbeats 2000000 in
set_option maxRecDepth 100000 in
theorem begin_ok (b off len cap : Nat) (z0 z1 z2 z3 : Int) (w : World) (hb : b < w.heap.size) (hl : 20 ≤ len) (hc : len ≤ cap) (hm : len ≤ 140737488351232)
    (k0 : w.cell? ⟨b, off, none⟩ = some (.int .u8 z0)) (k1 : w.cell? ⟨b, off + 1, none⟩ = some (.int .u8 z1)) (k2 : w.cell? ⟨b, off + 2, none⟩ = some (.int .u8 z2)) (k3 : w.cell? ⟨b, off + 3, none⟩ = some (.int .u8 z3))
    (f0 : 0 ≤ z0 ∧ z0 < 256) (f2 : 0 ≤ z2 ∧ z2 < 256) (f3 : 0 ≤ z3 ∧ z3 < 256) (hv : z0 / 16 = 4) (hs : 20 ≤ z0 % 16 * 4 ∧ z0 % 16 * 4 ≤ len) (ha : bits .and .u8 z0 15 = z0 % 16) :
    Calls Try.prog 37 #[.slice (some ⟨b, off, none⟩) len cap] w fun e w' => e = .returned (.pointer (some ⟨w.heap.size, 0, none⟩)) ∧ ReadW w w' w.heap.size b (off + 4) (len - 4) (cap - 4) z1 (z0 % 16 * 4) (z2 * 256 + z3) := by
  have q0 : decide ((20 : Int) ≤ (len : Int)) = true := by simp; omega
  have hR : b ≠ w.heap.size := by omega
  have hS : ReadW w (w.alloc (.cells [.slice (some ⟨b, off, none⟩) len cap, .int .u8 0, .int .i64 0, .int .i64 0].toArray 67)) w.heap.size b off len cap 0 0 0 := ⟨blk_new w _, Nat.le_refl _, (Below.refl _ w).alloc (Nat.le_refl _) _⟩
  have HO : Hid _ := octet_calls w.heap.size b off len cap z0 _ (blk_cell hS.blk rfl) (blk_open hS.blk 0) (by omega) hc hR (hS.old hb k0)
  have HS1 : Hid _ := hS.left 1 (by omega)
  have K1 : Hid _ := k1
  have K2 : Hid _ := k2
  have K3 : Hid _ := k3
  clear hS k0 k1 k2 k3
  go_enter Try.func37, Try.ntmps37
  go_wp2_with fail
  refine Calls.mono (must_good _ _ _) ?_
  rintro e1 w1 ⟨rfl, hw1⟩
  obtain rfl := hw1.symm
  clear hw1
  go_wp2_with fail
  refine Calls.mono HO.out ?_
  rintro e2 w2 ⟨rfl, e2⟩
  have hS2 := HS1.out
  rw [← e2] at hS2
  have HS2 : Hid _ := hS2
  clear HO HS1 hS2 e2
  have q1 : (z0 / 16 == 4) = true := by simp [hv]
  have c2 := blk_cell HS2.out.blk (j := 2) rfl
  have g2 := blk_open HS2.out.blk 2
  have q2 : decide ((20 : Int) ≤ z0 % 16 * 4) = true := by simp; omega
  have q3 : decide (z0 % 16 * 4 ≤ (len : Int)) = true := by simp; omega
  have hS3 := (HS2.out.set (z0 % 16 * 4)).2.1
  have HO2 : Hid _ := octet_calls w.heap.size b (off + 1) (len - 1) (cap - 1) z1 _ (blk_cell hS3.blk rfl) (blk_open hS3.blk 0) (by omega) (by omega) hR (hS3.old hb K1.out)
  have hS4 := hS3.left 1 (by omega)
  have HS4 : Hid _ := hS4
  clear hS3 hS4 HS2
  go_wp2_with fail
  refine Calls.mono (must_good _ _ _) ?_
  rintro e3 w3 ⟨rfl, hw3⟩
  obtain rfl := hw3.symm
  clear hw3
  go_wp2_with fail
  refine Calls.mono (must_good _ _ _) ?_
  rintro e4 w4 ⟨rfl, hw4⟩
  obtain rfl := hw4.symm
  clear hw4 c2 g2
  go_wp2_with fail
  refine Calls.mono HO2.out ?_
  rintro e5 w5 ⟨rfl, hw5⟩
  have hS5 := HS4.out
  rw [← hw5] at hS5
  clear HO2 HS4 hw5
  have c1 := blk_cell hS5.blk (j := 1) rfl
  have g1 := blk_open hS5.blk 1
  have hS6 := (hS5.set z1).1
  have HW : Hid _ := word_calls w.heap.size b (off + 1 + 1) (len - 1 - 1) (cap - 1 - 1) z2 z3 _ (blk_cell hS6.blk rfl) (blk_open hS6.blk 0) (by omega) (by omega) hR (hS6.old hb K2.out) (hS6.old hb K3.out) f2 f3
  have hS7 := (hS6.left 2 (by omega)).drew
  have HS7 : Hid _ := hS7
  clear hS5 hS6 hS7
  go_wp2_with fail
  refine Calls.mono HW.out ?_
  rintro e6 w6 ⟨rfl, hw6⟩
  have hS8 := HS7.out
  rw [← hw6] at hS8
  clear HW HS7 hw6 c1 g1
  have c3 := blk_cell hS8.blk (j := 3) rfl
  have g3 := blk_open hS8.blk 3
  have hS9 := (hS8.set (z2 * 256 + z3)).2.2
  have HS9 : Hid _ := hS9
  clear hS8 hS9
  go_wp2
  go_ret
  refine ⟨rfl, ?_⟩
  have := HS9.out
  rwa [show off + 1 + 1 + 2 = off + 4 by omega, show len - 1 - 1 - 2 = len - 4 by omega, show cap - 1 - 1 - 2 = cap - 4 by omega] at this

end Go.Proofs.Ytmoogfdmlbalbaa
