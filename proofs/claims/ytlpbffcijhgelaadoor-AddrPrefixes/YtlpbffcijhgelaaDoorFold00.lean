/-
  The document's Low4 and Check4: all bits behind the first n are 0.
  A prefix may be just when all bits behind its length are 0: the program's way and the document's are one.
  The document's Cut4 is the program's.
  IPv4 prefixes: the document's Has4.
  grouped as a kind of letters.
  Parse6.
-/
import Derived.Test.YtlpbffcijhgelaaDoorFldPure
import Derived.Test.YtlpbffcijhgelaaDoorProg
import Derived.WalkKit
import Derived.Below
import Derived.Laws.BitsAllLaws
import Derived.Test.YtlpbffcijhgelaaDoorAddrChk2
import Derived.Deep.RegionLaw
import Derived.Test.YtlpbffcijhgelaaDoorAddrLs
import Derived.Test.YtlpbffcijhgelaaDoorAddrGaddr
import Derived.Test.YtlpbffcijhgelaaDoorAddrGgapA
import Derived.Test.YtlpbffcijhgelaaDoorAddrGgapB
import Derived.Test.YtlpbffcijhgelaaDoorAddrGgapC
namespace Go.Proofs.YtlpbffcijhgelaaDoor
open Go Go.RowKit
set_option linter.unusedVariables false
set_option linter.unusedSimpArgs false

theorem lbit_u8 (z : Int) (k : Nat) (h0 : 0 ≤ z) (h1 : z < 256) : bits .and .u8 (z / 2 ^ k) 1 = ((bk z.toNat k : Nat) : Int) := by
  have e : z / 2 ^ k = ((z.toNat / 2 ^ k : Nat) : Int) := by
    obtain ⟨n, rfl⟩ := Int.eq_ofNat_of_zero_le h0
    simp
  have hlt : z.toNat / 2 ^ k < 256 := Nat.lt_of_le_of_lt (Nat.div_le_self _ _) (by omega)
  have h := u8_and_nat (z.toNat / 2 ^ k) 1 hlt (by decide)
  rw [e]
  rw [show ((1 : Nat) : Int) = 1 from rfl] at h
  rw [h, Nat.and_one_is_mod]
  rfl

/-- All bits from n on are 0. -/
def lowB (zs : List Int) (n : Nat) : Bool := decide (∀ i, i < 8 * zs.length → n ≤ i → bitN zs i = 0)

set_option maxHeartbeats 1000000 in
set_option maxRecDepth 100000 in
theorem Low4_calls (a0 a1 a2 a3 : Int) (n : Nat) (w : World) (hf : FitB [a0, a1, a2, a3]) (hn : n ≤ 32) :
    Calls Tryd.prog 69 #[.agg #[.int .u8 a0, .int .u8 a1, .int .u8 a2, .int .u8 a3], .int .i64 n] w fun e w' => e = .returned (.bool (lowB [a0, a1, a2, a3] n)) ∧ Below w.heap.size w w' := by
  have hB := (Below.refl w.heap.size w).alloc (Nat.le_refl _) (.cells #[.int .u8 a0, .int .u8 a1, .int .u8 a2, .int .u8 a3] 23)
  have hc : ∀ j, j < 4 → (w.alloc (.cells #[.int .u8 a0, .int .u8 a1, .int .u8 a2, .int .u8 a3] 23)).cell? ⟨w.heap.size, j, none⟩ = some (.int .u8 ([a0, a1, a2, a3][j]?.getD 0)) := by
    intro j hj
    rw [World.cell?_alloc_new]
    match j, hj with
    | 0, _ => rfl
    | 1, _ => rfl
    | 2, _ => rfl
    | 3, _ => rfl
    | n + 4, hj => omega
  have HC : Hid _ := hc
  have HB : Hid _ := hB
  clear hc hB
  go_enter Tryd.func69, Tryd.ntmps69
  go_wp2
  generalize w.alloc (.cells #[.int .u8 a0, .int .u8 a1, .int .u8 a2, .int .u8 a3] 23) = w1 at *
  go_loopw [5] (fun i wr => ∃ k : Nat, n ≤ k ∧ k ≤ 32 ∧ i = .int .i64 k ∧ (∀ i, n ≤ i → i < k → bitN [a0, a1, a2, a3] i = 0) ∧ wr = w1) (fun i _ => 32 - (intOf i).toNat)
  case atStart => exact ⟨n, Nat.le_refl _, hn, rfl, fun i h1 h2 => by omega, rfl⟩
  case round =>
    obtain ⟨k, hk1, hk2, rfl, hal, rfl⟩ := hrel
    have HA : Hid _ := hal
    clear hal
    by_cases hlt : k < 32
    · have hcc := HC.out (k / 8) (by omega)
      have hfit := fit_at hf (k / 8)
      have hbit := lbit_u8 ([a0, a1, a2, a3][k / 8]?.getD 0) (7 - k % 8) hfit.1 hfit.2
      have hbn : bitN [a0, a1, a2, a3] k = bk ([a0, a1, a2, a3][k / 8]?.getD 0).toNat (7 - k % 8) := rfl
      have hb2 := bitN_lt [a0, a1, a2, a3] k
      have hyes : bitN [a0, a1, a2, a3] k = 0 → ∀ i, n ≤ i → i < k + 1 → bitN [a0, a1, a2, a3] i = 0 := fun h0 i h1 h2 => by
        by_cases c : i = k
        · rw [c]; exact h0
        · exact HA.out i h1 (by omega)
      have hno : bitN [a0, a1, a2, a3] k ≠ 0 → lowB [a0, a1, a2, a3] n = false := fun h0 => by
        unfold lowB
        exact decide_eq_false (fun h => h0 (h k (by simp; omega) hk1))
      rw [← hbn] at hbit
      generalize [a0, a1, a2, a3][k / 8]?.getD 0 = z at *
      generalize bitN [a0, a1, a2, a3] k = bb at *
      have HY : Hid _ := hyes
      have HN : Hid _ := hno
      clear hyes hno hbn HA
      have hbb : bb = 0 ∨ bb = 1 := by omega
      rcases hbb with rfl | rfl
      · go_wp2
        exact ⟨⟨k + 1, by omega, by omega, by simp, HY.out rfl, trivial⟩, by simp [intOf]; omega⟩
      · go_wp2
        go_ret
        rw [HN.out (by decide)]
        exact ⟨rfl, HB.out⟩
    · have hlow : lowB [a0, a1, a2, a3] n = true := by
        unfold lowB
        exact decide_eq_true (fun i hi hn' => HA.out i hn' (by simp at hi; omega))
      have HL : Hid _ := hlow
      clear hlow
      go_wp2
      go_ret
      rw [HL.out]
      exact ⟨rfl, HB.out⟩

end Go.Proofs.YtlpbffcijhgelaaDoor

namespace Go.Proofs.YtlpbffcijhgelaaDoor
open Go Go.RowKit
set_option linter.unusedVariables false
set_option linter.unusedSimpArgs false

theorem tab_msk : ∀ r, r < 9 → ∀ j, j < 8 → ∀ z, z < 256 → bk (z &&& (255 - 255 / 2 ^ r)) (7 - j) = if j < r then bk z (7 - j) else 0 := by decide +kernel
theorem bk_bl (z m : Int) (j : Nat) (hj : j < 8) (h : 0 ≤ z ∧ z < 256) : bk (bl z m).toNat (7 - j) = if (j : Int) < m then bk z.toNat (7 - j) else 0 := by
  unfold bl msk
  rw [Int.toNat_natCast, tab_msk (min (max m 0) 8).toNat (by omega) j hj z.toNat (by omega)]
  by_cases c : (j : Int) < m
  · rw [if_pos c, if_pos (by omega)]
  · rw [if_neg c, if_neg (by omega)]

theorem pL_fit {a0 a1 a2 a3 : Int} (n : Int) (h0 : 0 ≤ a0 ∧ a0 < 256) (h1 : 0 ≤ a1 ∧ a1 < 256) (h2 : 0 ≤ a2 ∧ a2 < 256) (h3 : 0 ≤ a3 ∧ a3 < 256) : FitB (pL a0 a1 a2 a3 n) :=
  fit4 (bl_fit _ _ h0) (bl_fit _ _ h1) (bl_fit _ _ h2) (bl_fit _ _ h3)

theorem bitN_pL {a0 a1 a2 a3 : Int} (n i : Nat) (hi : i < 32) (h0 : 0 ≤ a0 ∧ a0 < 256) (h1 : 0 ≤ a1 ∧ a1 < 256) (h2 : 0 ≤ a2 ∧ a2 < 256) (h3 : 0 ≤ a3 ∧ a3 < 256) : bitN (pL a0 a1 a2 a3 n) i = if i < n then bitN [a0, a1, a2, a3] i else 0 := by
  unfold bitN pL
  have hq : i / 8 = 0 ∨ i / 8 = 1 ∨ i / 8 = 2 ∨ i / 8 = 3 := by omega
  rcases hq with q | q | q | q
  all_goals
    rw [q]
    simp only [List.getElem?_cons_zero, List.getElem?_cons_succ, Option.getD_some]
    rw [bk_bl _ _ _ (Nat.mod_lt _ (by decide)) (by assumption)]
    by_cases c : i < n
    · rw [if_pos c, if_pos (by omega)]
    · rw [if_neg c, if_neg (by omega)]

theorem low_ok {a0 a1 a2 a3 : Int} (n : Nat) (hn : n ≤ 32) (h0 : 0 ≤ a0 ∧ a0 < 256) (h1 : 0 ≤ a1 ∧ a1 < 256) (h2 : 0 ≤ a2 ∧ a2 < 256) (h3 : 0 ≤ a3 ∧ a3 < 256) : lowB [a0, a1, a2, a3] n = decide ([a0, a1, a2, a3] = pL a0 a1 a2 a3 n) := by
  unfold lowB
  rw [decide_eq_decide]
  constructor
  · intro h
    refine row_ext rfl (fit4 h0 h1 h2 h3) (pL_fit _ h0 h1 h2 h3) fun p hp => ?_
    have hp' : p < 32 := by simpa using hp
    rw [bitN_pL n p hp' h0 h1 h2 h3]
    by_cases c : p < n
    · rw [if_pos c]
    · rw [if_neg c]; exact h p hp (by omega)
  · intro e i hi hni
    have hi' : i < 32 := by simpa using hi
    rw [e, bitN_pL n i hi' h0 h1 h2 h3, if_neg (by omega)]

set_option maxHeartbeats 2000000 in
set_option maxRecDepth 100000 in
theorem RCheck4_calls (a0 a1 a2 a3 n : Int) (w : World) (h0 : 0 ≤ a0 ∧ a0 < 256) (h1 : 0 ≤ a1 ∧ a1 < 256) (h2 : 0 ≤ a2 ∧ a2 < 256) (h3 : 0 ≤ a3 ∧ a3 < 256) (hb : -9223372036854775808 ≤ n ∧ n ≤ 9223372036854775807) :
    Calls Tryd.prog 39 #[P4 a0 a1 a2 a3 n] w fun e w' => e = .returned (.int .i64 (if okP4 a0 a1 a2 a3 n then 0 else 22)) ∧ Below w.heap.size w w' := by
  have hB := (Below.refl w.heap.size w).alloc (Nat.le_refl _) (.cells #[.int .u8 a0, .int .u8 a1, .int .u8 a2, .int .u8 a3, .int .i64 n] 38)
  by_cases hn : 0 ≤ n ∧ n ≤ 32
  · obtain ⟨m, rfl⟩ := Int.eq_ofNat_of_zero_le hn.1
    have hlow := Low4_calls a0 a1 a2 a3 m (w.alloc (.cells #[.int .u8 a0, .int .u8 a1, .int .u8 a2, .int .u8 a3, .int .i64 m] 38)) (fit4 h0 h1 h2 h3) (by omega)
    rw [low_ok m (by omega) h0 h1 h2 h3] at hlow
    have hok : okP4 a0 a1 a2 a3 m = decide ([a0, a1, a2, a3] = pL a0 a1 a2 a3 m) := by
      unfold okP4
      rw [decide_eq_true hn, Bool.true_and]
    rw [hok]
    generalize decide ([a0, a1, a2, a3] = pL a0 a1 a2 a3 m) = bb at *
    have HL : Hid _ := hlow
    have HB : Hid _ := hB
    clear hlow hB hok
    go_enter Tryd.func39, Tryd.ntmps39
    go_wp2_with fail
    refine Calls.mono HL.out ?_
    rintro e w2 ⟨rfl, hB2⟩
    have hBB := HB.out.trans (hB2.mono HB.out.size)
    clear HL HB hB2
    cases bb
    all_goals
      go_wp2
      go_ret
      exact ⟨rfl, hBB⟩
  · have hok : okP4 a0 a1 a2 a3 n = false := by unfold okP4; rw [decide_eq_false hn, Bool.false_and]
    rw [hok]
    clear hok
    have hn' : n < 0 ∨ 32 < n := by omega
    rcases hn' with hn' | hn'
    all_goals
      go_enter Tryd.func39, Tryd.ntmps39
      go_wp2
      go_ret
      exact ⟨rfl, hB⟩

end Go.Proofs.YtlpbffcijhgelaaDoor

namespace Go.Proofs.YtlpbffcijhgelaaDoor
open Go Go.RowKit
set_option linter.unusedVariables false
set_option linter.unusedSimpArgs false

/-- Bits from n on cleared, up to n + k. -/
def clrL (zs : List Int) (n : Nat) : Nat → List Int
  | 0 => zs
  | k + 1 => setL (clrL zs n k) (n + k) 0
@[simp] theorem clrL_length (zs : List Int) (n k : Nat) : (clrL zs n k).length = zs.length := by
  induction k with
  | zero => rfl
  | succ k ih => simp [clrL, ih]
theorem clrL_fit {zs : List Int} (h : FitB zs) (n k : Nat) : FitB (clrL zs n k) := by
  induction k with
  | zero => exact h
  | succ k ih => exact setL_fit ih _ _ (by decide)
theorem bitN_clrL {zs : List Int} (h : FitB zs) (n k q : Nat) (hp : n + k ≤ 8 * zs.length) : bitN (clrL zs n k) q = if n ≤ q ∧ q < n + k then 0 else bitN zs q := by
  induction k with
  | zero => have : ¬ (n ≤ q ∧ q < n + 0) := by omega
            simp [clrL]; omega
  | succ k ih =>
    rw [clrL, bitN_setL (clrL_fit h _ _) _ _ _ (by decide) (by simp; omega), ih (by omega)]
    by_cases c : q = n + k
    · subst c; rw [if_pos rfl, if_pos (by omega)]
    · rw [if_neg c]
      by_cases d : n ≤ q ∧ q < n + k
      · rw [if_pos d, if_pos (by omega)]
      · rw [if_neg d, if_neg (by omega)]
theorem clr_pL {a0 a1 a2 a3 : Int} (n : Nat) (hn : n ≤ 32) (h0 : 0 ≤ a0 ∧ a0 < 256) (h1 : 0 ≤ a1 ∧ a1 < 256) (h2 : 0 ≤ a2 ∧ a2 < 256) (h3 : 0 ≤ a3 ∧ a3 < 256) : clrL [a0, a1, a2, a3] n (32 - n) = pL a0 a1 a2 a3 n := by
  refine row_ext (by simp [pL]) (clrL_fit (fit4 h0 h1 h2 h3) _ _) (pL_fit _ h0 h1 h2 h3) fun p hp => ?_
  have hp' : p < 32 := by simpa using hp
  rw [bitN_clrL (fit4 h0 h1 h2 h3) _ _ _ (by simp; omega), bitN_pL n p hp' h0 h1 h2 h3]
  by_cases c : p < n
  · rw [if_neg (by omega), if_pos c]
  · rw [if_pos (by omega), if_neg c]

theorem wrap_u8 : ∀ k, k < 8 → IntKind.u8.wrap (2 ^ k) = 2 ^ k := by decide
theorem an_one (z : Int) (k : Nat) (hk : k < 8) (h : 0 ≤ z ∧ z < 256) : bits .andNot .u8 z (2 ^ k) = ((setN z.toNat k 0 : Nat) : Int) := by
  have hp : ∀ j, j < 8 → 2 ^ j < 256 := by decide
  have h1 := u8_andNot_nat z.toNat (2 ^ k) (by omega) (hp k hk)
  rw [← tab_an k hk _ (by omega), ← h1, Int.toNat_of_nonneg h.1]
  simp

theorem pow256 : ∀ k, k < 8 → (2 : Int) ^ k % 256 = 2 ^ k := by decide

theorem list4 {l : List Int} (h : l.length = 4) : ∃ x0 x1 x2 x3, l = [x0, x1, x2, x3] := by
  match l, h with
  | [x0, x1, x2, x3], _ => exact ⟨x0, x1, x2, x3, rfl⟩

set_option maxHeartbeats 4000000 in
set_option maxRecDepth 100000 in
theorem RCut4_yes (a0 a1 a2 a3 : Int) (n : Nat) (w : World) (h0 : 0 ≤ a0 ∧ a0 < 256) (h1 : 0 ≤ a1 ∧ a1 < 256) (h2 : 0 ≤ a2 ∧ a2 < 256) (h3 : 0 ≤ a3 ∧ a3 < 256) (hn : n ≤ 32) :
    Calls Tryd.prog 35 #[A4 a0 a1 a2 a3, .int .i64 n] w fun e w' => e = .returned (.tuple #[P4 (bl a0 n) (bl a1 (n - 8)) (bl a2 (n - 16)) (bl a3 (n - 24)) n, .int .i64 0]) ∧ Below w.heap.size w w' := by
  have hG : OwnG ((w.alloc (.cells #[.int .u8 a0, .int .u8 a1, .int .u8 a2, .int .u8 a3] 23)).alloc (.cells #[.int .u8 0, .int .u8 0, .int .u8 0, .int .u8 0, .int .i64 0] 38)) w.heap.size [a0, a1, a2, a3] := by
    have e1 : ((w.alloc (.cells #[.int .u8 a0, .int .u8 a1, .int .u8 a2, .int .u8 a3] 23)).alloc (.cells #[.int .u8 0, .int .u8 0, .int .u8 0, .int .u8 0, .int .i64 0] 38)).heap[w.heap.size]? = some (.cells #[.int .u8 a0, .int .u8 a1, .int .u8 a2, .int .u8 a3] 23) := by
      rw [Below.heap_alloc _ _ _ (by simp)]
      exact alloc_new _ _
    refine ⟨⟨_, _, e1⟩, fun j hj => ?_⟩
    simp only [World.cell?, e1]
    match j, hj with
    | 0, _ => rfl
    | 1, _ => rfl
    | 2, _ => rfl
    | 3, _ => rfl
    | n + 4, hj => simp at hj; omega
  have hR : ((w.alloc (.cells #[.int .u8 a0, .int .u8 a1, .int .u8 a2, .int .u8 a3] 23)).alloc (.cells #[.int .u8 0, .int .u8 0, .int .u8 0, .int .u8 0, .int .i64 0] 38)).heap[w.heap.size + 1]? = some (.cells #[.int .u8 0, .int .u8 0, .int .u8 0, .int .u8 0, .int .i64 0] 38) := alloc_new2 _ _ _
  have hB : Below w.heap.size w ((w.alloc (.cells #[.int .u8 a0, .int .u8 a1, .int .u8 a2, .int .u8 a3] 23)).alloc (.cells #[.int .u8 0, .int .u8 0, .int .u8 0, .int .u8 0, .int .i64 0] 38)) := ((Below.refl _ w).alloc (Nat.le_refl _) _).alloc (by simp) _
  have hf := fit4 h0 h1 h2 h3
  have hend := clr_pL n hn h0 h1 h2 h3
  have HE : Hid _ := hend
  have HR : Hid _ := hR
  have HB : Hid _ := hB
  have HG : Hid _ := hG
  clear hend hR hB hG
  go_enter Tryd.func35, Tryd.ntmps35
  go_wp2
  generalize (w.alloc (.cells #[.int .u8 a0, .int .u8 a1, .int .u8 a2, .int .u8 a3] 23)).alloc (.cells #[.int .u8 0, .int .u8 0, .int .u8 0, .int .u8 0, .int .i64 0] 38) = w1 at *
  go_loopw [6] (fun i wr => ∃ k : Nat, n + k ≤ 32 ∧ i = .int .i64 (n + k : Nat) ∧ OwnG wr w.heap.size (clrL [a0, a1, a2, a3] n k) ∧ Only w.heap.size w1 wr) (fun i _ => 32 - (intOf i).toNat)
  case atStart => exact ⟨0, by omega, rfl, HG.out, Only.refl _ _⟩
  case round =>
    obtain ⟨k, hk, rfl, ho, hO⟩ := hrel
    by_cases hlt : n + k < 32
    · have hset : clrL [a0, a1, a2, a3] n (k + 1) = (clrL [a0, a1, a2, a3] n k).set ((n + k) / 8) ((setN ((clrL [a0, a1, a2, a3] n k)[(n + k) / 8]?.getD 0).toNat (7 - (n + k) % 8) 0 : Nat) : Int) := rfl
      have hfit := fit_at (clrL_fit hf n k) ((n + k) / 8)
      have hlen : (clrL [a0, a1, a2, a3] n k).length = 4 := by simp
      have hcc := ho.cell ((n + k) / 8) (by omega)
      have hop := ho.open ((n + k) / 8)
      have hos := ho.set ((n + k) / 8) (by omega)
      have han := an_one ((clrL [a0, a1, a2, a3] n k)[(n + k) / 8]?.getD 0) (7 - (n + k) % 8) (by omega) hfit
      have hwr := wrap_u8 (7 - (n + k) % 8) (by omega)
      have h256 := pow256 (7 - (n + k) % 8) (by omega)
      generalize hy : clrL [a0, a1, a2, a3] n (k + 1) = y at *
      generalize clrL [a0, a1, a2, a3] n k = x at *
      generalize x[(n + k) / 8]?.getD 0 = z at *
      generalize setN z.toNat (7 - (n + k) % 8) 0 = s at *
      generalize hK : n + k = K at *
      have HY : Hid _ := hy
      have HS : Hid _ := hset
      have HO : Hid _ := hos
      have HK : Hid _ := hK
      clear hy hset hos hK
      go_wp2
      go_region
      go_wp2
      refine ⟨⟨k + 1, by have := HK.out; omega, by have := HK.out; simp; omega, ?_, (hO.set _ _).drew⟩, by simp [intOf]; omega⟩
      rw [HY.out, HS.out]
      have ho2 := HO.out (s : Int)
      exact ⟨ho2.typed, ho2.cell⟩
    · obtain rfl : k = 32 - n := by omega
      have hke : n + (32 - n) = 32 := by omega
      rw [HE.out] at ho
      unfold pL at ho
      have hR2 := (hO.other (w.heap.size + 1) (by omega)).trans HR.out
      have hB2 := HB.out.trans (hO.below (Nat.le_refl _))
      have c0 := ho.cell 0 (by simp)
      have c1 := ho.cell 1 (by simp)
      have c2 := ho.cell 2 (by simp)
      have c3 := ho.cell 3 (by simp)
      simp only [List.getElem?_cons_zero, List.getElem?_cons_succ, Option.getD_some] at c0 c1 c2 c3
      obtain ⟨hfz, r0, r1, r2, r3, r4⟩ := Slot.of hR2 (Below.refl _ _)
      generalize hx0 : bl a0 n = x0 at *
      generalize hx1 : bl a1 (n - 8) = x1 at *
      generalize hx2 : bl a2 (n - 16) = x2 at *
      generalize hx3 : bl a3 (n - 24) = x3 at *
      have HX0 : Hid _ := hx0
      have HX1 : Hid _ := hx1
      have HX2 : Hid _ := hx2
      have HX3 : Hid _ := hx3
      clear hx0 hx1 hx2 hx3 ho hR2 hO HE HR HB HG
      rw [hke]
      clear hke
      go_wp2
      obtain ⟨d0, d1, d2, d3, d4⟩ := set5 wr (w.heap.size + 1) (.int .u8 x0) (.int .u8 x1) (.int .u8 x2) (.int .u8 x3) (.int .i64 n) (by rw [r0]; rfl) (by rw [r1]; rfl) (by rw [r2]; rfl) (by rw [r3]; rfl) (by rw [r4]; rfl)
      have hB3 := hB2.trans (((((((Only.refl (w.heap.size + 1) wr).set 0 (.int .u8 x0)).set 1 (.int .u8 x1)).set 2 (.int .u8 x2)).set 3 (.int .u8 x3)).set 4 (.int .i64 n)).below (show w.heap.size ≤ w.heap.size + 1 by omega))
      generalize ((((wr.setCell ⟨w.heap.size + 1, 0, none⟩ (.int .u8 x0)).setCell ⟨w.heap.size + 1, 1, none⟩ (.int .u8 x1)).setCell ⟨w.heap.size + 1, 2, none⟩ (.int .u8 x2)).setCell ⟨w.heap.size + 1, 3, none⟩ (.int .u8 x3)).setCell ⟨w.heap.size + 1, 4, none⟩ (.int .i64 n) = w5 at *
      refine bodyPost_ret (res_cell2 rfl rfl (loadP4 d0 d1 d2 d3 d4)) rfl ?_
      refine ⟨?_, hB3⟩
      rw [HX0.out, HX1.out, HX2.out, HX3.out]
      rfl

end Go.Proofs.YtlpbffcijhgelaaDoor

namespace Go.Proofs.YtlpbffcijhgelaaDoor
open Go Go.RowKit
set_option linter.unusedVariables false
set_option linter.unusedSimpArgs false

/-- Has the prefix that address? -/
def hasB (a0 a1 a2 a3 n b0 b1 b2 b3 : Int) : Bool := decide (pL b0 b1 b2 b3 n = [a0, a1, a2, a3])

theorem two_blocks (w : World) (o1 o2 : Obj) {w' : World} (hb : Below ((w.alloc o1).alloc o2).heap.size ((w.alloc o1).alloc o2) w') : w'.heap[w.heap.size]? = some o1 ∧ w'.heap[w.heap.size + 1]? = some o2 := by
  have e1 : ((w.alloc o1).alloc o2).heap[w.heap.size]? = some o1 := by
    rw [Below.heap_alloc _ _ _ (by simp)]
    exact alloc_new _ _
  have e2 : ((w.alloc o1).alloc o2).heap[w.heap.size + 1]? = some o2 := alloc_new2 _ _ _
  exact ⟨(hb.block _ (Array.getElem?_eq_some_iff.1 e1).1).trans e1, (hb.block _ (Array.getElem?_eq_some_iff.1 e2).1).trans e2⟩

set_option maxHeartbeats 4000000 in
set_option maxRecDepth 100000 in
theorem RHas4_calls (a0 a1 a2 a3 n b0 b1 b2 b3 : Int) (w : World) (h0 : 0 ≤ a0 ∧ a0 < 256) (h1 : 0 ≤ a1 ∧ a1 < 256) (h2 : 0 ≤ a2 ∧ a2 < 256) (h3 : 0 ≤ a3 ∧ a3 < 256) (hb : -9223372036854775808 ≤ n ∧ n ≤ 9223372036854775807)
    (g0 : 0 ≤ b0 ∧ b0 < 256) (g1 : 0 ≤ b1 ∧ b1 < 256) (g2 : 0 ≤ b2 ∧ b2 < 256) (g3 : 0 ≤ b3 ∧ b3 < 256) :
    Calls Tryd.prog 31 #[P4 a0 a1 a2 a3 n, A4 b0 b1 b2 b3] w fun e w' => e = .returned (.tuple #[.bool (okP4 a0 a1 a2 a3 n && hasB a0 a1 a2 a3 n b0 b1 b2 b3), .int .i64 (if okP4 a0 a1 a2 a3 n then 0 else 22)]) ∧ Below w.heap.size w w' := by
  have hB : Below w.heap.size w ((w.alloc (.cells #[.int .u8 a0, .int .u8 a1, .int .u8 a2, .int .u8 a3, .int .i64 n] 38)).alloc (.cells #[.int .u8 b0, .int .u8 b1, .int .u8 b2, .int .u8 b3] 23)) := ((Below.refl _ w).alloc (Nat.le_refl _) _).alloc (by simp) _
  have hchk := RCheck4_calls a0 a1 a2 a3 n ((w.alloc (.cells #[.int .u8 a0, .int .u8 a1, .int .u8 a2, .int .u8 a3, .int .i64 n] 38)).alloc (.cells #[.int .u8 b0, .int .u8 b1, .int .u8 b2, .int .u8 b3] 23)) h0 h1 h2 h3 hb
  have htwo := fun (w' : World) => @two_blocks w (.cells #[.int .u8 a0, .int .u8 a1, .int .u8 a2, .int .u8 a3, .int .i64 n] 38) (.cells #[.int .u8 b0, .int .u8 b1, .int .u8 b2, .int .u8 b3] 23) w'
  have HB : Hid _ := hB
  have HT : Hid _ := htwo
  cases hok : okP4 a0 a1 a2 a3 n
  · rw [hok] at hchk
    have HC : Hid _ := hchk
    clear hchk hok hB htwo
    go_enter Tryd.func31, Tryd.ntmps31
    go_wp2_with fail
    refine Calls.mono HC.out ?_
    rintro e w2 ⟨rfl, hB2⟩
    go_wp2
    go_ret2
    exact ⟨rfl, HB.out.trans (hB2.mono HB.out.size)⟩
  · rw [hok] at hchk
    have hn : 0 ≤ n ∧ n ≤ 32 := by simp [okP4] at hok; exact hok.1
    obtain ⟨m, rfl⟩ := Int.eq_ofNat_of_zero_le hn.1
    have hcut := fun w => RCut4_yes b0 b1 b2 b3 m w g0 g1 g2 g3 (by omega)
    have f0 := bl_fit b0 m g0
    have f1 := bl_fit b1 (m - 8) g1
    have f2 := bl_fit b2 (m - 16) g2
    have f3 := bl_fit b3 (m - 24) g3
    have hhas : hasB a0 a1 a2 a3 m b0 b1 b2 b3 = decide ([bl b0 m, bl b1 (m - 8), bl b2 (m - 16), bl b3 (m - 24)] = [a0, a1, a2, a3]) := rfl
    rw [hhas, Bool.true_and]
    generalize bl b0 m = x0 at *
    generalize bl b1 (m - 8) = x1 at *
    generalize bl b2 (m - 16) = x2 at *
    generalize bl b3 (m - 24) = x3 at *
    have heq : ∀ W, (Op.equalIn 9999 23 (.agg #[.int .u8 x0, .int .u8 x1, .int .u8 x2, .int .u8 x3]) (.agg #[.int .u8 a0, .int .u8 a1, .int .u8 a2, .int .u8 a3])).run Tryd.prog W = .ok (decide ([x0, x1, x2, x3] = [a0, a1, a2, a3])) W :=
      fun W => eq_arr4 9997 [x0, x1, x2, x3] [a0, a1, a2, a3] (fit4 f0 f1 f2 f3) (fit4 h0 h1 h2 h3) rfl rfl W
    generalize decide ([x0, x1, x2, x3] = [a0, a1, a2, a3]) = bb at *
    have HC : Hid _ := hchk
    have HU : Hid _ := hcut
    clear hchk hok hB htwo hcut hhas f0 f1 f2 f3
    go_enter Tryd.func31, Tryd.ntmps31
    go_wp2_with fail
    refine Calls.mono HC.out ?_
    rintro e w2 ⟨rfl, hB2⟩
    have hBB := HB.out.trans (hB2.mono HB.out.size)
    obtain ⟨t1, t2⟩ := HT.out w2 hB2
    have k0 : w2.cell? ⟨w.heap.size + 1, 0, none⟩ = some (.int .u8 b0) := by simp [World.cell?, t2]
    have k1 : w2.cell? ⟨w.heap.size + 1, 1, none⟩ = some (.int .u8 b1) := by simp [World.cell?, t2]
    have k2 : w2.cell? ⟨w.heap.size + 1, 2, none⟩ = some (.int .u8 b2) := by simp [World.cell?, t2]
    have k3 : w2.cell? ⟨w.heap.size + 1, 3, none⟩ = some (.int .u8 b3) := by simp [World.cell?, t2]
    have k4 : w2.cell? ⟨w.heap.size, 4, none⟩ = some (.int .i64 m) := by simp [World.cell?, t1]
    have HT1 : Hid _ := t1
    clear t1 t2
    go_wp2_with fail
    refine Calls.mono (HU.out _) ?_
    rintro e w3 ⟨rfl, hB3⟩
    have hBC := hBB.trans (hB3.mono hBB.size)
    have hall : ∀ o : Obj, (w3.alloc o).heap[w.heap.size]? = some (.cells #[.int .u8 a0, .int .u8 a1, .int .u8 a2, .int .u8 a3, .int .i64 m] 38) := fun o =>
      ((hB3.alloc hB3.size o).block _ (Array.getElem?_eq_some_iff.1 HT1.out).1).trans HT1.out
    have c0 : ∀ o, (w3.alloc o).cell? ⟨w.heap.size, 0, none⟩ = some (.int .u8 a0) := fun o => by simp [World.cell?, hall o]
    have c1 : ∀ o, (w3.alloc o).cell? ⟨w.heap.size, 1, none⟩ = some (.int .u8 a1) := fun o => by simp [World.cell?, hall o]
    have c2 : ∀ o, (w3.alloc o).cell? ⟨w.heap.size, 2, none⟩ = some (.int .u8 a2) := fun o => by simp [World.cell?, hall o]
    have c3 : ∀ o, (w3.alloc o).cell? ⟨w.heap.size, 3, none⟩ = some (.int .u8 a3) := fun o => by simp [World.cell?, hall o]
    have c4 : ∀ o, (w3.alloc o).cell? ⟨w.heap.size, 4, none⟩ = some (.int .i64 m) := fun o => by simp [World.cell?, hall o]
    clear hall k0 k1 k2 k3 k4 hB2 hB3 HC HU HT
    cases bb
    all_goals
      go_wp2
      go_ret2
      exact ⟨rfl, hBC.alloc hBC.size _⟩

end Go.Proofs.YtlpbffcijhgelaaDoor

namespace Go.Proofs.YtlpbffcijhgelaaDoor
open Go Go.RowKit
set_option linter.unusedVariables false
set_option linter.unusedSimpArgs false

/-- What is whole has all its bytes. -/
theorem Grp.whole_full {g : Grp} (hk : g.Ok) (hw : g.whole = true) (hgp : g.gapped = false) : g.given.length = 16 := by
  unfold Grp.whole at hw
  unfold Grp.given
  by_cases hd : g.dots = true
  · rw [if_pos hd]
    have := hk.full hd hgp
    simp [Dot.addr, this]
  · rw [if_neg hd] at hw ⊢
    rw [hgp] at hw
    simp at hw
    rw [if_pos hw.1]
    have := hw.2
    unfold Grp.room at this
    rw [hgp] at this
    simp at this
    simp
    omega

theorem Grp.addr_len {g : Grp} (hk : g.Ok) (hw : g.whole = true) : g.addr.length = 16 := by
  have hm := hk.most
  unfold Grp.addr
  by_cases hgp : g.gapped = true
  · rw [if_pos hgp]
    have hgl := hk.gap
    have hl : g.given.length ≤ 14 ∧ g.ended.length ≤ g.given.length := by
      unfold Grp.given
      rw [hgp, if_pos rfl] at hm
      split
      · rename_i hd
        rw [if_pos hd] at hm
        simp [Dot.addr]
        omega
      · rename_i hd
        rw [if_neg hd] at hm
        split
        · rename_i hp
          rw [if_neg (by simpa using hp)] at hm
          simp
          omega
        · omega
    simp
    omega
  · rw [if_neg hgp]
    exact Grp.whole_full hk hw (by simpa using hgp)

/-- A grouped in a block of its own. -/
structure GrpIn (B b : Nat) (g : Grp) (w : World) : Prop where
  cells : GrpAt B b g w
  ok : g.Ok

theorem GrpAt.move {B b : Nat} {g : Grp} {w w' : World} (h : GrpAt B b g w) (hb : w'.heap[b]? = w.heap[b]?) (hrow : ∀ (G : Nat) (cs : Array Value), w.heap[G]? = some (Obj.cells cs 5 (0, 0)) → w'.heap[G]? = w.heap[G]?) : GrpAt B b g w' := by
  have e := fun i => World.cell?_of_block (a := ⟨b, i, none⟩) hb
  obtain ⟨v, h0, hown⟩ := h.row
  obtain ⟨cs, hc⟩ := h.typed
  refine ⟨⟨cs, hb.trans hc⟩, h.hB, ⟨v, (e 0).trans h0, hown.1, hown.2.imp id ?_⟩, (e _).trans h.c1, (e _).trans h.c2, (e _).trans h.c3, (e _).trans h.c4, (e _).trans h.c5, (e _).trans h.c6,
    ⟨(e _).trans h.tail.c0, (e _).trans h.tail.c1, (e _).trans h.tail.c2, (e _).trans h.tail.c3, (e _).trans h.tail.c4, (e _).trans h.tail.c5⟩⟩
  rintro ⟨G, cap, cur, rfl, hB, hg, r⟩
  exact ⟨G, cap, cur, rfl, hB, (hrow G cur hg).trans hg, r⟩

theorem grp_kind {B b : Nat} : Kind grpReader B (fun j => j = b) 85 (.pointer (some ⟨b, 0, none⟩)) 123 124 (GrpIn B b) where
  findT := fun w => by kernel_rfl
  findW := fun w => by kernel_rfl
  entT := fun args w => by kernel_rfl
  entW := fun args w => by kernel_rfl
  take := fun g w r h hr => (grp_take h.cells h.ok hr).mono fun e w' hT => ⟨hT.1, hT.2.1, fun g' hg' => ⟨hT.2.2 g' hg', Grp.take_ok hg' h.ok⟩⟩
  whole := fun g w h => grp_whole h.cells h.ok.len
  step := fun g w k s pos pos' h hk => by
    obtain ⟨h1, h2⟩ := h.cells.typed.iterAt hk pos'
    refine ⟨h.cells.move (Lib.iterAt_other w k b s pos' h2) (fun G cs hG => Lib.iterAt_other w k G s pos' (fun e => ?_)), h.ok⟩
    subst e
    rw [hG] at hk
    cases hk
  alloc := fun g w o h => ⟨h.cells.move (Below.heap_alloc w o b (by obtain ⟨cs, hc⟩ := h.cells.typed; exact (Array.getElem?_eq_some_iff.1 hc).1)) (fun G cs hG => Below.heap_alloc w o G (Array.getElem?_eq_some_iff.1 hG).1), h.ok⟩

theorem read_good {σ : Type} {R : Reader σ} : ∀ (l : List UInt8) (pos : Nat) (st st' : σ), R.read l pos st = .good st' → R.whole st' = true
  | [], pos, st, st', h => by
    unfold Reader.read at h
    split at h
    · rename_i hw
      injection h with h
      rw [← h]
      exact hw
    · cases h
  | c :: l, pos, st, st', h => by
    unfold Reader.read at h
    split at h
    · cases h
    · exact read_good l _ _ _ h

end Go.Proofs.YtlpbffcijhgelaaDoor

namespace Go.Proofs.YtlpbffcijhgelaaDoor
open Go Go.RowKit
set_option linter.unusedVariables false
set_option linter.unusedSimpArgs false

theorem store_zero {w : World} {R : Nat} (hc : ∀ i, i < 16 → (w.cell? ⟨R, i, none⟩).isSome = true) (hf : ∀ i, w.frozen? ⟨R, i, none⟩ = false) :
    (Instr.storeAt 31 (.pointer (some ⟨R, 0, none⟩)) (.agg #[.int .u8 0, .int .u8 0, .int .u8 0, .int .u8 0, .int .u8 0, .int .u8 0, .int .u8 0, .int .u8 0, .int .u8 0, .int .u8 0, .int .u8 0, .int .u8 0, .int .u8 0, .int .u8 0, .int .u8 0, .int .u8 0])).run Tryd.prog w = .ok () (w.setCells R 0 ((List.replicate 16 (0 : Int)).map (fun z => Value.int .u8 z))) := store16 (List.replicate 16 0) rfl hc hf

theorem grp_addr {B b : Nat} {g : Grp} {w : World} (h : GrpAt B b g w) (hk : g.Ok) (hfull : g.gapped = false → g.given.length = 16) :
    Calls Tryd.prog 56 #[.pointer (some ⟨b, 0, none⟩)] w fun e w' => e = .returned (addrV g.addr) ∧ Below w.heap.size w w' := by
  by_cases hgp : g.gapped = true
  · by_cases hd : g.dots = true
    · exact grp_addr_gapA h hk hgp hd
    · by_cases hp : g.part = []
      · exact grp_addr_gapB h hk hgp hd hp
      · exact grp_addr_gapC h hk hgp hd hp
  · have hgp' : g.gapped = false := by simpa using hgp
    exact grp_addr_full h hk hgp' (hfull hgp')

set_option maxHeartbeats 2000000 in
set_option maxRecDepth 100000 in
theorem parse6_calls (s : ByteArray) (hs : s.size ≤ 140737488355328) (w : World) :
    Calls Tryd.prog 18 #[.string s] w fun e w' => e = .returned (.tuple #[addrV (parse6 s.data.toList).1, .int .i64 (parse6 s.data.toList).2.1, .int .i64 (parse6 s.data.toList).2.2]) ∧ Below w.heap.size w w' := by
  have hh : ((w.alloc (.cells #[.int .u8 0, .int .u8 0, .int .u8 0, .int .u8 0, .int .u8 0, .int .u8 0, .int .u8 0, .int .u8 0, .int .u8 0, .int .u8 0, .int .u8 0, .int .u8 0, .int .u8 0, .int .u8 0, .int .u8 0, .int .u8 0] 31)).alloc (.cells #[.slice none 0 0, .string ⟨#[]⟩, .int .u16 0, .int .i64 0, .bool false, .int .i64 0, .bool false, .int .u8 0, .int .u8 0, .int .u8 0, .int .i64 0, .int .i64 0, .bool false] 84)).heap[w.heap.size + 1]? = some (.cells #[.slice none 0 0, .string ⟨#[]⟩, .int .u16 0, .int .i64 0, .bool false, .int .i64 0, .bool false, .int .u8 0, .int .u8 0, .int .u8 0, .int .i64 0, .int .i64 0, .bool false] 84) := by
    have := heap_alloc_new (w.alloc (.cells #[.int .u8 0, .int .u8 0, .int .u8 0, .int .u8 0, .int .u8 0, .int .u8 0, .int .u8 0, .int .u8 0, .int .u8 0, .int .u8 0, .int .u8 0, .int .u8 0, .int .u8 0, .int .u8 0, .int .u8 0, .int .u8 0] 31)) (.cells #[.slice none 0 0, .string ⟨#[]⟩, .int .u16 0, .int .i64 0, .bool false, .int .i64 0, .bool false, .int .u8 0, .int .u8 0, .int .u8 0, .int .i64 0, .int .i64 0, .bool false] 84)
    simpa using this
  have hnew : GrpIn (w.heap.size + 1) (w.heap.size + 1) Grp.new ((w.alloc (.cells #[.int .u8 0, .int .u8 0, .int .u8 0, .int .u8 0, .int .u8 0, .int .u8 0, .int .u8 0, .int .u8 0, .int .u8 0, .int .u8 0, .int .u8 0, .int .u8 0, .int .u8 0, .int .u8 0, .int .u8 0, .int .u8 0] 31)).alloc (.cells #[.slice none 0 0, .string ⟨#[]⟩, .int .u16 0, .int .i64 0, .bool false, .int .i64 0, .bool false, .int .u8 0, .int .u8 0, .int .u8 0, .int .i64 0, .int .i64 0, .bool false] 84)) := by
    refine ⟨⟨⟨_, hh⟩, Nat.le_refl _, ⟨.slice none 0 0, ?_, World.ownsRow_nil _ _ _ _⟩, ?_, ?_, ?_, ?_, ?_, ?_, ⟨?_, ?_, ?_, ?_, ?_, ?_⟩⟩, Grp.ok_new⟩ <;> (unfold World.cell?; rw [hh]; rfl)
  have hB0 : Below w.heap.size w ((w.alloc (.cells #[.int .u8 0, .int .u8 0, .int .u8 0, .int .u8 0, .int .u8 0, .int .u8 0, .int .u8 0, .int .u8 0, .int .u8 0, .int .u8 0, .int .u8 0, .int .u8 0, .int .u8 0, .int .u8 0, .int .u8 0, .int .u8 0] 31)).alloc (.cells #[.slice none 0 0, .string ⟨#[]⟩, .int .u16 0, .int .i64 0, .bool false, .int .i64 0, .bool false, .int .u8 0, .int .u8 0, .int .u8 0, .int .i64 0, .int .i64 0, .bool false] 84)) := ((Below.refl _ w).alloc (Nat.le_refl _) _).alloc (by simp) _
  have hty : Typed ((w.alloc (.cells #[.int .u8 0, .int .u8 0, .int .u8 0, .int .u8 0, .int .u8 0, .int .u8 0, .int .u8 0, .int .u8 0, .int .u8 0, .int .u8 0, .int .u8 0, .int .u8 0, .int .u8 0, .int .u8 0, .int .u8 0, .int .u8 0] 31)).alloc (.cells #[.slice none 0 0, .string ⟨#[]⟩, .int .u16 0, .int .i64 0, .bool false, .int .i64 0, .bool false, .int .u8 0, .int .u8 0, .int .u8 0, .int .i64 0, .int .i64 0, .bool false] 84)) w.heap.size 31 := Typed.alloc ⟨_, heap_alloc_new w _⟩ _
  have harr : ∀ i, i < 16 → (((w.alloc (.cells #[.int .u8 0, .int .u8 0, .int .u8 0, .int .u8 0, .int .u8 0, .int .u8 0, .int .u8 0, .int .u8 0, .int .u8 0, .int .u8 0, .int .u8 0, .int .u8 0, .int .u8 0, .int .u8 0, .int .u8 0, .int .u8 0] 31)).alloc (.cells #[.slice none 0 0, .string ⟨#[]⟩, .int .u16 0, .int .i64 0, .bool false, .int .i64 0, .bool false, .int .u8 0, .int .u8 0, .int .u8 0, .int .i64 0, .int .i64 0, .bool false] 84)).cell? ⟨w.heap.size, i, none⟩).isSome = true := fun i hi => by
    rw [World.cell?_alloc_lt _ _ _ (by simp)]
    have := (arr_new w).cell i 0 (by rw [List.getElem?_replicate, if_pos hi])
    rw [this]
    rfl
  have hC := read_calls (grp_kind (B := w.heap.size + 1) (b := w.heap.size + 1)) s hs Grp.new _ hnew (by simp) (by simp)
  unfold parse6
  have hgood := read_good (R := grpReader) s.data.toList 0 Grp.new
  generalize grpReader.read s.data.toList 0 Grp.new = x at hC hgood
  have HG : Hid _ := hgood
  clear hgood hh
  go_enter Tryd.func18, Tryd.ntmps18
  go_wp2_with fail
  generalize (w.alloc (.cells #[.int .u8 0, .int .u8 0, .int .u8 0, .int .u8 0, .int .u8 0, .int .u8 0, .int .u8 0, .int .u8 0, .int .u8 0, .int .u8 0, .int .u8 0, .int .u8 0, .int .u8 0, .int .u8 0, .int .u8 0, .int .u8 0] 31)).alloc (.cells #[.slice none 0 0, .string ⟨#[]⟩, .int .u16 0, .int .i64 0, .bool false, .int .i64 0, .bool false, .int .u8 0, .int .u8 0, .int .u8 0, .int .i64 0, .int .i64 0, .bool false] 84) = W0 at hC hnew hB0 hty harr ⊢
  refine hC.mono ?_
  rintro e W1 ⟨hT, hx⟩
  clear hC hnew
  have hty1 : Typed W1 w.heap.size 31 := by
    obtain ⟨cs, hc⟩ := hty
    exact ⟨cs, (hT.below.block w.heap.size (Nat.lt_succ_self _)).trans hc⟩
  have harr1 : ∀ i, i < 16 → (W1.cell? ⟨w.heap.size, i, none⟩).isSome = true := fun i hi => by
    rw [hT.below.cell (p := ⟨w.heap.size, i, none⟩) (Nat.lt_succ_self _)]
    exact harr i hi
  have hB1 : Below w.heap.size w W1 := hB0.trans (hT.below.mono (Nat.le_succ _))
  clear hT hB0 hty harr
  cases x with
  | bad n =>
    subst hx
    have hfz := hty1.open
    have H1 : Hid _ := harr1
    have hst : (Instr.storeAt 31 (.pointer (some ⟨w.heap.size, 0, none⟩)) _).run Tryd.prog W1 = _ := store_zero harr1 hfz
    have HV : Hid _ := Below.setCells (Nat.le_refl _) ((List.replicate 16 (0 : Int)).map (fun z => Value.int .u8 z)) 0 W1 hB1
    have HA5 : Hid _ := arr_stored (l := List.replicate 16 0) rfl harr1 hty1
    generalize W1.setCells w.heap.size 0 ((List.replicate 16 (0 : Int)).map (fun z => Value.int .u8 z)) = V at hst HV HA5
    clear harr1 hfz
    have HST : Hid _ := hst
    clear hst
    go_wp2_with ((with_reducible show wpList _ _ _ _ _ _); refine wpList_store_run rfl (.tmp 2) (.tmp 16) 31 rfl rfl rfl HST.out ?_)
    exact bodyPost_ret (results_cell3 Tryd.results18 rfl (loadVar16 HA5.out)) rfl ⟨rfl, HV.out⟩
  | good g =>
    obtain ⟨rfl, hD⟩ := hx
    have hA := grp_addr hD.cells hD.ok (fun e => Grp.whole_full hD.ok (HG.out g rfl) e)
    go_wp2_with fail
    refine hA.mono ?_
    rintro e W2 ⟨rfl, hB2⟩
    clear hA
    have hlt : w.heap.size < W1.heap.size := by obtain ⟨cs, hc⟩ := hty1; exact (Array.getElem?_eq_some_iff.1 hc).1
    have hty2 : Typed W2 w.heap.size 31 := by
      obtain ⟨cs, hc⟩ := hty1
      exact ⟨cs, (hB2.block w.heap.size hlt).trans hc⟩
    have harr2 : ∀ i, i < 16 → (W2.cell? ⟨w.heap.size, i, none⟩).isSome = true := fun i hi => by
      rw [hB2.cell (p := ⟨w.heap.size, i, none⟩) hlt]
      exact harr1 i hi
    have hB3 : Below w.heap.size w W2 := hB1.trans (hB2.mono hB1.size)
    have hl16 : g.addr.length = 16 := Grp.addr_len hD.ok (HG.out g rfl)
    have hfz := hty2.open
    go_wp2_with (refine wpList_store_run rfl (.tmp 2) (.tmp 18) 31 rfl rfl rfl (store16 g.addr hl16 harr2 hfz) ?_)
    have hV := Below.setCells (Nat.le_refl _) (g.addr.map (fun z => Value.int .u8 z)) 0 W2 hB3
    have hA5 := arr_stored (l := g.addr) hl16 harr2 hty2
    exact bodyPost_ret (results_cell3 Tryd.results18 rfl (loadVar16 hA5)) rfl ⟨rfl, hV⟩

end Go.Proofs.YtlpbffcijhgelaaDoor
