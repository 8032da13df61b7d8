/-
  The document's Low4 and Check4: all bits behind the first n are 0.
  A prefix may be just when all bits behind its length are 0: the program's way and the document's are one.
-/
import Derived.Test.YtenahbdopgmpfaaFold00
import Derived.Test.YtenahbdopgmpfaaProg
import Derived.WalkKit
import Derived.Below
import Derived.Laws.BitsAllLaws
import Derived.Test.YtenahbdopgmpfaaFold03
namespace Go.Proofs.Ytenahbdopgmpfaa
open Go Go.RowKit
set_option linter.unusedVariables false
set_option linter.unusedSimpArgs false

theorem lbit_u8 (z : Int) (k : Nat) (h0 : 0 ≤ z) (h1 : z < 256) : bits .and .u8 (z / 2 ^ k) 1 = ((bk z.toNat k : Nat) : Int) := by
  have e : z / 2 ^ k = ((z.toNat / 2 ^ k : Nat) : Int) := by
    obtain ⟨n, rfl⟩ := Int.eq_ofNat_of_zero_le h0
    simp
  have hlt : z.toNat / 2 ^ k < 256 := Nat.lt_of_le_of_lt (Nat.div_le_self _ _) (by omega)
  have h := u8_and_nat (z.toNat / 2 ^ k) 1 hlt (by decide)
  rw [e]
  rw [show ((1 : Nat) : Int) = 1 from rfl] at h
  rw [h, Nat.and_one_is_mod]
  rfl

/-- All bits from n on are 0. -/
def lowB (zs : List Int) (n : Nat) : Bool := decide (∀ i, i < 8 * zs.length → n ≤ i → bitN zs i = 0)

set_option maxHeartbeats 1000000 in
set_option maxRecDepth 100000 in
theorem Low4_calls (a0 a1 a2 a3 : Int) (n : Nat) (w : World) (hf : FitB [a0, a1, a2, a3]) (hn : n ≤ 32) :
    Calls Try.prog 67 #[.agg #[.int .u8 a0, .int .u8 a1, .int .u8 a2, .int .u8 a3], .int .i64 n] w fun e w' => e = .returned (.bool (lowB [a0, a1, a2, a3] n)) ∧ Below w.heap.size w w' := by
  have hB := (Below.refl w.heap.size w).alloc (Nat.le_refl _) (.cells #[.int .u8 a0, .int .u8 a1, .int .u8 a2, .int .u8 a3] 33)
  have hc : ∀ j, j < 4 → (w.alloc (.cells #[.int .u8 a0, .int .u8 a1, .int .u8 a2, .int .u8 a3] 33)).cell? ⟨w.heap.size, j, none⟩ = some (.int .u8 ([a0, a1, a2, a3][j]?.getD 0)) := by
    intro j hj
    rw [World.cell?_alloc_new]
    match j, hj with
    | 0, _ => rfl
    | 1, _ => rfl
    | 2, _ => rfl
    | 3, _ => rfl
    | n + 4, hj => omega
  have HC : Hid _ := hc
  have HB : Hid _ := hB
  clear hc hB
  go_enter Try.func67, Try.ntmps67
  go_wp2
  generalize w.alloc (.cells #[.int .u8 a0, .int .u8 a1, .int .u8 a2, .int .u8 a3] 33) = w1 at *
  go_loopw [5] (fun i wr => ∃ k : Nat, n ≤ k ∧ k ≤ 32 ∧ i = .int .i64 k ∧ (∀ i, n ≤ i → i < k → bitN [a0, a1, a2, a3] i = 0) ∧ wr = w1) (fun i _ => 32 - (intOf i).toNat)
  case atStart => exact ⟨n, Nat.le_refl _, hn, rfl, fun i h1 h2 => by omega, rfl⟩
  case round =>
    obtain ⟨k, hk1, hk2, rfl, hal, rfl⟩ := hrel
    have HA : Hid _ := hal
    clear hal
    by_cases hlt : k < 32
    · have hcc := HC.out (k / 8) (by omega)
      have hfit := fit_at hf (k / 8)
      have hbit := lbit_u8 ([a0, a1, a2, a3][k / 8]?.getD 0) (7 - k % 8) hfit.1 hfit.2
      have hbn : bitN [a0, a1, a2, a3] k = bk ([a0, a1, a2, a3][k / 8]?.getD 0).toNat (7 - k % 8) := rfl
      have hb2 := bitN_lt [a0, a1, a2, a3] k
      have hyes : bitN [a0, a1, a2, a3] k = 0 → ∀ i, n ≤ i → i < k + 1 → bitN [a0, a1, a2, a3] i = 0 := fun h0 i h1 h2 => by
        by_cases c : i = k
        · rw [c]; exact h0
        · exact HA.out i h1 (by omega)
      have hno : bitN [a0, a1, a2, a3] k ≠ 0 → lowB [a0, a1, a2, a3] n = false := fun h0 => by
        unfold lowB
        exact decide_eq_false (fun h => h0 (h k (by simp; omega) hk1))
      rw [← hbn] at hbit
      generalize [a0, a1, a2, a3][k / 8]?.getD 0 = z at *
      generalize bitN [a0, a1, a2, a3] k = bb at *
      have HY : Hid _ := hyes
      have HN : Hid _ := hno
      clear hyes hno hbn HA
      have hbb : bb = 0 ∨ bb = 1 := by omega
      rcases hbb with rfl | rfl
      · go_wp2
        exact ⟨⟨k + 1, by omega, by omega, by simp, HY.out rfl, trivial⟩, by simp [intOf]; omega⟩
      · go_wp2
        go_ret
        rw [HN.out (by decide)]
        exact ⟨rfl, HB.out⟩
    · have hlow : lowB [a0, a1, a2, a3] n = true := by
        unfold lowB
        exact decide_eq_true (fun i hi hn' => HA.out i hn' (by simp at hi; omega))
      have HL : Hid _ := hlow
      clear hlow
      go_wp2
      go_ret
      rw [HL.out]
      exact ⟨rfl, HB.out⟩

end Go.Proofs.Ytenahbdopgmpfaa

namespace Go.Proofs.Ytenahbdopgmpfaa
open Go Go.RowKit
set_option linter.unusedVariables false
set_option linter.unusedSimpArgs false

theorem tab_msk : ∀ r, r < 9 → ∀ j, j < 8 → ∀ z, z < 256 → bk (z &&& (255 - 255 / 2 ^ r)) (7 - j) = if j < r then bk z (7 - j) else 0 := by decide +kernel
theorem bk_bl (z m : Int) (j : Nat) (hj : j < 8) (h : 0 ≤ z ∧ z < 256) : bk (bl z m).toNat (7 - j) = if (j : Int) < m then bk z.toNat (7 - j) else 0 := by
  unfold bl msk
  rw [Int.toNat_natCast, tab_msk (min (max m 0) 8).toNat (by omega) j hj z.toNat (by omega)]
  by_cases c : (j : Int) < m
  · rw [if_pos c, if_pos (by omega)]
  · rw [if_neg c, if_neg (by omega)]

theorem pL_fit {a0 a1 a2 a3 : Int} (n : Int) (h0 : 0 ≤ a0 ∧ a0 < 256) (h1 : 0 ≤ a1 ∧ a1 < 256) (h2 : 0 ≤ a2 ∧ a2 < 256) (h3 : 0 ≤ a3 ∧ a3 < 256) : FitB (pL a0 a1 a2 a3 n) :=
  fit4 (bl_fit _ _ h0) (bl_fit _ _ h1) (bl_fit _ _ h2) (bl_fit _ _ h3)

theorem bitN_pL {a0 a1 a2 a3 : Int} (n i : Nat) (hi : i < 32) (h0 : 0 ≤ a0 ∧ a0 < 256) (h1 : 0 ≤ a1 ∧ a1 < 256) (h2 : 0 ≤ a2 ∧ a2 < 256) (h3 : 0 ≤ a3 ∧ a3 < 256) : bitN (pL a0 a1 a2 a3 n) i = if i < n then bitN [a0, a1, a2, a3] i else 0 := by
  unfold bitN pL
  have hq : i / 8 = 0 ∨ i / 8 = 1 ∨ i / 8 = 2 ∨ i / 8 = 3 := by omega
  rcases hq with q | q | q | q
  all_goals
    rw [q]
    simp only [List.getElem?_cons_zero, List.getElem?_cons_succ, Option.getD_some]
    rw [bk_bl _ _ _ (Nat.mod_lt _ (by decide)) (by assumption)]
    by_cases c : i < n
    · rw [if_pos c, if_pos (by omega)]
    · rw [if_neg c, if_neg (by omega)]

theorem low_ok {a0 a1 a2 a3 : Int} (n : Nat) (hn : n ≤ 32) (h0 : 0 ≤ a0 ∧ a0 < 256) (h1 : 0 ≤ a1 ∧ a1 < 256) (h2 : 0 ≤ a2 ∧ a2 < 256) (h3 : 0 ≤ a3 ∧ a3 < 256) : lowB [a0, a1, a2, a3] n = decide ([a0, a1, a2, a3] = pL a0 a1 a2 a3 n) := by
  unfold lowB
  rw [decide_eq_decide]
  constructor
  · intro h
    refine row_ext rfl (fit4 h0 h1 h2 h3) (pL_fit _ h0 h1 h2 h3) fun p hp => ?_
    have hp' : p < 32 := by simpa using hp
    rw [bitN_pL n p hp' h0 h1 h2 h3]
    by_cases c : p < n
    · rw [if_pos c]
    · rw [if_neg c]; exact h p hp (by omega)
  · intro e i hi hni
    have hi' : i < 32 := by simpa using hi
    rw [e, bitN_pL n i hi' h0 h1 h2 h3, if_neg (by omega)]

set_option maxHeartbeats 2000000 in
set_option maxRecDepth 100000 in
theorem RCheck4_calls (a0 a1 a2 a3 n : Int) (w : World) (h0 : 0 ≤ a0 ∧ a0 < 256) (h1 : 0 ≤ a1 ∧ a1 < 256) (h2 : 0 ≤ a2 ∧ a2 < 256) (h3 : 0 ≤ a3 ∧ a3 < 256) (hb : -9223372036854775808 ≤ n ∧ n ≤ 9223372036854775807) :
    Calls Try.prog 48 #[P4 a0 a1 a2 a3 n] w fun e w' => e = .returned (.int .i64 (if okP4 a0 a1 a2 a3 n then 0 else 22)) ∧ Below w.heap.size w w' := by
  have hB := (Below.refl w.heap.size w).alloc (Nat.le_refl _) (.cells #[.int .u8 a0, .int .u8 a1, .int .u8 a2, .int .u8 a3, .int .i64 n] 35)
  by_cases hn : 0 ≤ n ∧ n ≤ 32
  · obtain ⟨m, rfl⟩ := Int.eq_ofNat_of_zero_le hn.1
    have hlow := Low4_calls a0 a1 a2 a3 m (w.alloc (.cells #[.int .u8 a0, .int .u8 a1, .int .u8 a2, .int .u8 a3, .int .i64 m] 35)) (fit4 h0 h1 h2 h3) (by omega)
    rw [low_ok m (by omega) h0 h1 h2 h3] at hlow
    have hok : okP4 a0 a1 a2 a3 m = decide ([a0, a1, a2, a3] = pL a0 a1 a2 a3 m) := by
      unfold okP4
      rw [decide_eq_true hn, Bool.true_and]
    rw [hok]
    generalize decide ([a0, a1, a2, a3] = pL a0 a1 a2 a3 m) = bb at *
    have HL : Hid _ := hlow
    have HB : Hid _ := hB
    clear hlow hB hok
    go_enter Try.func48, Try.ntmps48
    go_wp2_with fail
    refine Calls.mono HL.out ?_
    rintro e w2 ⟨rfl, hB2⟩
    have hBB := HB.out.trans (hB2.mono HB.out.size)
    clear HL HB hB2
    cases bb
    all_goals
      go_wp2
      go_ret
      exact ⟨rfl, hBB⟩
  · have hok : okP4 a0 a1 a2 a3 n = false := by unfold okP4; rw [decide_eq_false hn, Bool.false_and]
    rw [hok]
    clear hok
    have hn' : n < 0 ∨ 32 < n := by omega
    rcases hn' with hn' | hn'
    all_goals
      go_enter Try.func48, Try.ntmps48
      go_wp2
      go_ret
      exact ⟨rfl, hB⟩

end Go.Proofs.Ytenahbdopgmpfaa
