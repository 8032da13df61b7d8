/-
  The document's Cut4 is the program's.
  IPv4 prefixes: the document's Has4.
-/
import Derived.Test.YtgndiblonhgihaaFold04
import Derived.Deep.RegionLaw
namespace Go.Proofs.Ytgndiblonhgihaa
open Go Go.RowKit
set_option linter.unusedVariables false
set_option linter.unusedSimpArgs false

/-- Bits from n on cleared, up to n + k. -/
def clrL (zs : List Int) (n : Nat) : Nat → List Int
  | 0 => zs
  | k + 1 => setL (clrL zs n k) (n + k) 0
@[simp] theorem clrL_length (zs : List Int) (n k : Nat) : (clrL zs n k).length = zs.length := by
  induction k with
  | zero => rfl
  | succ k ih => simp [clrL, ih]
theorem clrL_fit {zs : List Int} (h : FitB zs) (n k : Nat) : FitB (clrL zs n k) := by
  induction k with
  | zero => exact h
  | succ k ih => exact setL_fit ih _ _ (by decide)
theorem bitN_clrL {zs : List Int} (h : FitB zs) (n k q : Nat) (hp : n + k ≤ 8 * zs.length) : bitN (clrL zs n k) q = if n ≤ q ∧ q < n + k then 0 else bitN zs q := by
  induction k with
  | zero => have : ¬ (n ≤ q ∧ q < n + 0) := by omega
            simp [clrL]; omega
  | succ k ih =>
    rw [clrL, bitN_setL (clrL_fit h _ _) _ _ _ (by decide) (by simp; omega), ih (by omega)]
    by_cases c : q = n + k
    · subst c; rw [if_pos rfl, if_pos (by omega)]
    · rw [if_neg c]
      by_cases d : n ≤ q ∧ q < n + k
      · rw [if_pos d, if_pos (by omega)]
      · rw [if_neg d, if_neg (by omega)]
theorem clr_pL {a0 a1 a2 a3 : Int} (n : Nat) (hn : n ≤ 32) (h0 : 0 ≤ a0 ∧ a0 < 256) (h1 : 0 ≤ a1 ∧ a1 < 256) (h2 : 0 ≤ a2 ∧ a2 < 256) (h3 : 0 ≤ a3 ∧ a3 < 256) : clrL [a0, a1, a2, a3] n (32 - n) = pL a0 a1 a2 a3 n := by
  refine row_ext (by simp [pL]) (clrL_fit (fit4 h0 h1 h2 h3) _ _) (pL_fit _ h0 h1 h2 h3) fun p hp => ?_
  have hp' : p < 32 := by simpa using hp
  rw [bitN_clrL (fit4 h0 h1 h2 h3) _ _ _ (by simp; omega), bitN_pL n p hp' h0 h1 h2 h3]
  by_cases c : p < n
  · rw [if_neg (by omega), if_pos c]
  · rw [if_pos (by omega), if_neg c]

theorem wrap_u8 : ∀ k, k < 8 → IntKind.u8.wrap (2 ^ k) = 2 ^ k := by decide
theorem an_one (z : Int) (k : Nat) (hk : k < 8) (h : 0 ≤ z ∧ z < 256) : bits .andNot .u8 z (2 ^ k) = ((setN z.toNat k 0 : Nat) : Int) := by
  have hp : ∀ j, j < 8 → 2 ^ j < 256 := by decide
  have h1 := u8_andNot_nat z.toNat (2 ^ k) (by omega) (hp k hk)
  rw [← tab_an k hk _ (by omega), ← h1, Int.toNat_of_nonneg h.1]
  simp

theorem pow256 : ∀ k, k < 8 → (2 : Int) ^ k % 256 = 2 ^ k := by decide

theorem list4 {l : List Int} (h : l.length = 4) : ∃ x0 x1 x2 x3, l = [x0, x1, x2, x3] := by
  match l, h with
  | [x0, x1, x2, x3], _ => exact ⟨x0, x1, x2, x3, rfl⟩

end Go.Proofs.Ytgndiblonhgihaa

namespace Go.Proofs.Ytgndiblonhgihaa
open Go Go.RowKit
set_option linter.unusedVariables false
set_option linter.unusedSimpArgs false

/-- Has the prefix that address? -/
def hasB (a0 a1 a2 a3 n b0 b1 b2 b3 : Int) : Bool := decide (pL b0 b1 b2 b3 n = [a0, a1, a2, a3])

theorem two_blocks (w : World) (o1 o2 : Obj) {w' : World} (hb : Below ((w.alloc o1).alloc o2).heap.size ((w.alloc o1).alloc o2) w') : w'.heap[w.heap.size]? = some o1 ∧ w'.heap[w.heap.size + 1]? = some o2 := by
  have e1 : ((w.alloc o1).alloc o2).heap[w.heap.size]? = some o1 := by
    rw [Below.heap_alloc _ _ _ (by simp)]
    exact alloc_new _ _
  have e2 : ((w.alloc o1).alloc o2).heap[w.heap.size + 1]? = some o2 := alloc_new2 _ _ _
  exact ⟨(hb.block _ (Array.getElem?_eq_some_iff.1 e1).1).trans e1, (hb.block _ (Array.getElem?_eq_some_iff.1 e2).1).trans e2⟩

end Go.Proofs.Ytgndiblonhgihaa
