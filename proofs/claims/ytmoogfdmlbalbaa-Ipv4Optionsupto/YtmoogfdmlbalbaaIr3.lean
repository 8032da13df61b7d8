/-
  must and begin of package ipv4, where they stop.
-/
import Derived.Test.YtmoogfdmlbalbaaIr2
import Derived.Recover
import Derived.WalkLawsBesides
namespace Go.Proofs.Ytmoogfdmlbalbaa
open Go Go.RowKit
set_option linter.unusedVariables false
set_option linter.unusedSimpArgs false

/-- What is thrown. -/
def faultP (at' e : Int) : PanicEntry := { v := .iface 59 (.agg #[.int .i64 at', .int .i64 e]), recovered := false }

set_option maxHeartbeats 1000000 in
theorem must_bad (at' e : Int) (w : World) : Calls Try.prog 38 #[.bool false, .int .i64 at', .int .i64 e] w fun e' w' => e' = .panicked [faultP at' e] ∧ w' = w := by
  unfold faultP
  go_enter Try.func38, Try.ntmps38
  go_wp2
  exact ⟨rfl, rfl, rfl⟩

set_option maxHeartbeats 1000000 in
set_option maxRecDepth 100000 in
theorem begin_short (a : Option Addr) (len cap : Nat) (w : World) (hl : len < 20) :
    Calls Try.prog 37 #[.slice a len cap] w fun e w' => e = .panicked [faultP 0 40] ∧ Below w.heap.size w w' := by
  have q0 : decide ((20 : Int) ≤ (len : Int)) = false := by simp; omega
  have HB : Hid _ := Below.refl w.heap.size w
  go_enter Try.func37, Try.ntmps37
  go_wp2_with fail
  refine Calls.mono (must_bad _ _ _) ?_
  rintro e1 w1 ⟨rfl, hw1⟩
  obtain rfl := hw1.symm
  exact ⟨rfl, rfl, HB.out⟩

set_option maxHeartbeats 2000000 in
set_option maxRecDepth 100000 in
theorem begin_version (b off len cap : Nat) (z0 : Int) (w : World) (hb : b < w.heap.size) (hl : 20 ≤ len) (hc : len ≤ cap) (hm : len ≤ 140737488351232)
    (k0 : w.cell? ⟨b, off, none⟩ = some (.int .u8 z0)) (f0 : 0 ≤ z0 ∧ z0 < 256) (hv : z0 / 16 ≠ 4) :
    Calls Try.prog 37 #[.slice (some ⟨b, off, none⟩) len cap] w fun e w' => e = .panicked [faultP 0 41] ∧ Below w.heap.size w w' := by
  have q0 : decide ((20 : Int) ≤ (len : Int)) = true := by simp; omega
  have hR : b ≠ w.heap.size := by omega
  have hS : ReadW w (w.alloc (.cells [.slice (some ⟨b, off, none⟩) len cap, .int .u8 0, .int .i64 0, .int .i64 0].toArray 67)) w.heap.size b off len cap 0 0 0 := ⟨blk_new w _, Nat.le_refl _, (Below.refl _ w).alloc (Nat.le_refl _) _⟩
  have HO : Hid _ := octet_calls w.heap.size b off len cap z0 _ (blk_cell hS.blk rfl) (blk_open hS.blk 0) (by omega) hc hR (hS.old hb k0)
  have HS1 : Hid _ := hS.left 1 (by omega)
  clear hS k0
  go_enter Try.func37, Try.ntmps37
  go_wp2_with fail
  refine Calls.mono (must_good _ _ _) ?_
  rintro e1 w1 ⟨rfl, hw1⟩
  obtain rfl := hw1.symm
  clear hw1
  go_wp2_with fail
  refine Calls.mono HO.out ?_
  rintro e2 w2 ⟨rfl, e2⟩
  have hS2 := HS1.out
  rw [← e2] at hS2
  have HS2 : Hid _ := hS2
  clear HO HS1 hS2 e2
  have q1 : (z0 / 16 == 4) = false := by simp [hv]
  go_wp2_with fail
  refine Calls.mono (must_bad _ _ _) ?_
  rintro e3 w3 ⟨rfl, hw3⟩
  obtain rfl := hw3.symm
  exact ⟨rfl, rfl, HS2.out.bel⟩

set_option maxHeartbeats 2000000 in
set_option maxRecDepth 100000 in
theorem begin_head (b off len cap : Nat) (z0 : Int) (w : World) (hb : b < w.heap.size) (hl : 20 ≤ len) (hc : len ≤ cap) (hm : len ≤ 140737488351232)
    (k0 : w.cell? ⟨b, off, none⟩ = some (.int .u8 z0)) (f0 : 0 ≤ z0 ∧ z0 < 256) (hv : z0 / 16 = 4) (hs : ¬ (20 ≤ z0 % 16 * 4 ∧ z0 % 16 * 4 ≤ len)) (ha : bits .and .u8 z0 15 = z0 % 16) :
    Calls Try.prog 37 #[.slice (some ⟨b, off, none⟩) len cap] w fun e w' => e = .panicked [faultP 0 42] ∧ Below w.heap.size w w' := by
  have q0 : decide ((20 : Int) ≤ (len : Int)) = true := by simp; omega
  have hR : b ≠ w.heap.size := by omega
  have hS : ReadW w (w.alloc (.cells [.slice (some ⟨b, off, none⟩) len cap, .int .u8 0, .int .i64 0, .int .i64 0].toArray 67)) w.heap.size b off len cap 0 0 0 := ⟨blk_new w _, Nat.le_refl _, (Below.refl _ w).alloc (Nat.le_refl _) _⟩
  have HO : Hid _ := octet_calls w.heap.size b off len cap z0 _ (blk_cell hS.blk rfl) (blk_open hS.blk 0) (by omega) hc hR (hS.old hb k0)
  have HS1 : Hid _ := hS.left 1 (by omega)
  clear hS k0
  by_cases h20 : 20 ≤ z0 % 16 * 4
  · have q2 : decide ((20 : Int) ≤ z0 % 16 * 4) = true := by simp; omega
    have q3 : decide (z0 % 16 * 4 ≤ (len : Int)) = false := by simp; omega
    clear hs
    go_enter Try.func37, Try.ntmps37
    go_wp2_with fail
    refine Calls.mono (must_good _ _ _) ?_
    rintro e1 w1 ⟨rfl, hw1⟩
    obtain rfl := hw1.symm
    clear hw1
    go_wp2_with fail
    refine Calls.mono HO.out ?_
    rintro e2 w2 ⟨rfl, e2⟩
    have hS2 := HS1.out
    rw [← e2] at hS2
    have HS2 : Hid _ := hS2
    clear HO HS1 hS2 e2
    have q1 : (z0 / 16 == 4) = true := by simp [hv]
    have c2 := blk_cell HS2.out.blk (j := 2) rfl
    have g2 := blk_open HS2.out.blk 2
    have HS3 : Hid _ := (HS2.out.set (z0 % 16 * 4)).2.1
    clear HS2
    go_wp2_with fail
    refine Calls.mono (must_good _ _ _) ?_
    rintro e3 w3 ⟨rfl, hw3⟩
    obtain rfl := hw3.symm
    clear hw3
    go_wp2_with fail
    refine Calls.mono (must_bad _ _ _) ?_
    rintro e4 w4 ⟨rfl, hw4⟩
    obtain rfl := hw4.symm
    exact ⟨rfl, rfl, HS3.out.bel⟩
  · have q2 : decide ((20 : Int) ≤ z0 % 16 * 4) = false := by simp; omega
    clear hs
    go_enter Try.func37, Try.ntmps37
    go_wp2_with fail
    refine Calls.mono (must_good _ _ _) ?_
    rintro e1 w1 ⟨rfl, hw1⟩
    obtain rfl := hw1.symm
    clear hw1
    go_wp2_with fail
    refine Calls.mono HO.out ?_
    rintro e2 w2 ⟨rfl, e2⟩
    have hS2 := HS1.out
    rw [← e2] at hS2
    have HS2 : Hid _ := hS2
    clear HO HS1 hS2 e2
    have q1 : (z0 / 16 == 4) = true := by simp [hv]
    have c2 := blk_cell HS2.out.blk (j := 2) rfl
    have g2 := blk_open HS2.out.blk 2
    have HS3 : Hid _ := (HS2.out.set (z0 % 16 * 4)).2.1
    clear HS2
    go_wp2_with fail
    refine Calls.mono (must_good _ _ _) ?_
    rintro e3 w3 ⟨rfl, hw3⟩
    obtain rfl := hw3.symm
    clear hw3
    go_wp2_with fail
    refine Calls.mono (must_bad _ _ _) ?_
    rintro e4 w4 ⟨rfl, hw4⟩
    obtain rfl := hw4.symm
    exact ⟨rfl, rfl, HS3.out.bel⟩

end Go.Proofs.Ytmoogfdmlbalbaa
