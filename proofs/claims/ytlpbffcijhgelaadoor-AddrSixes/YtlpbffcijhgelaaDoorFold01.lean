/-
  A prefix may be just when all bits behind its length are 0: the program's way and the document's are one.
  The document's Cut4 is the program's.
  IPv4 prefixes: the document's Has4.
-/
import Derived.Test.YtlpbffcijhgelaaDoorAddrChk2
import Derived.Test.YtlpbffcijhgelaaDoorFold00
import Derived.Deep.RegionLaw
namespace Go.Proofs.YtlpbffcijhgelaaDoor
open Go Go.RowKit
set_option linter.unusedVariables false
set_option linter.unusedSimpArgs false

theorem tab_msk : ∀ r, r < 9 → ∀ j, j < 8 → ∀ z, z < 256 → bk (z &&& (255 - 255 / 2 ^ r)) (7 - j) = if j < r then bk z (7 - j) else 0 := by decide +kernel
theorem bk_bl (z m : Int) (j : Nat) (hj : j < 8) (h : 0 ≤ z ∧ z < 256) : bk (bl z m).toNat (7 - j) = if (j : Int) < m then bk z.toNat (7 - j) else 0 := by
  unfold bl msk
  rw [Int.toNat_natCast, tab_msk (min (max m 0) 8).toNat (by omega) j hj z.toNat (by omega)]
  by_cases c : (j : Int) < m
  · rw [if_pos c, if_pos (by omega)]
  · rw [if_neg c, if_neg (by omega)]

theorem pL_fit {a0 a1 a2 a3 : Int} (n : Int) (h0 : 0 ≤ a0 ∧ a0 < 256) (h1 : 0 ≤ a1 ∧ a1 < 256) (h2 : 0 ≤ a2 ∧ a2 < 256) (h3 : 0 ≤ a3 ∧ a3 < 256) : FitB (pL a0 a1 a2 a3 n) :=
  fit4 (bl_fit _ _ h0) (bl_fit _ _ h1) (bl_fit _ _ h2) (bl_fit _ _ h3)

theorem bitN_pL {a0 a1 a2 a3 : Int} (n i : Nat) (hi : i < 32) (h0 : 0 ≤ a0 ∧ a0 < 256) (h1 : 0 ≤ a1 ∧ a1 < 256) (h2 : 0 ≤ a2 ∧ a2 < 256) (h3 : 0 ≤ a3 ∧ a3 < 256) : bitN (pL a0 a1 a2 a3 n) i = if i < n then bitN [a0, a1, a2, a3] i else 0 := by
  unfold bitN pL
  have hq : i / 8 = 0 ∨ i / 8 = 1 ∨ i / 8 = 2 ∨ i / 8 = 3 := by omega
  rcases hq with q | q | q | q
  all_goals
    rw [q]
    simp only [List.getElem?_cons_zero, List.getElem?_cons_succ, Option.getD_some]
    rw [bk_bl _ _ _ (Nat.mod_lt _ (by decide)) (by assumption)]
    by_cases c : i < n
    · rw [if_pos c, if_pos (by omega)]
    · rw [if_neg c, if_neg (by omega)]

theorem low_ok {a0 a1 a2 a3 : Int} (n : Nat) (hn : n ≤ 32) (h0 : 0 ≤ a0 ∧ a0 < 256) (h1 : 0 ≤ a1 ∧ a1 < 256) (h2 : 0 ≤ a2 ∧ a2 < 256) (h3 : 0 ≤ a3 ∧ a3 < 256) : lowB [a0, a1, a2, a3] n = decide ([a0, a1, a2, a3] = pL a0 a1 a2 a3 n) := by
  unfold lowB
  rw [decide_eq_decide]
  constructor
  · intro h
    refine row_ext rfl (fit4 h0 h1 h2 h3) (pL_fit _ h0 h1 h2 h3) fun p hp => ?_
    have hp' : p < 32 := by simpa using hp
    rw [bitN_pL n p hp' h0 h1 h2 h3]
    by_cases c : p < n
    · rw [if_pos c]
    · rw [if_neg c]; exact h p hp (by omega)
  · intro e i hi hni
    have hi' : i < 32 := by simpa using hi
    rw [e, bitN_pL n i hi' h0 h1 h2 h3, if_neg (by omega)]

set_option maxHeartbeats 2000000 in
set_option maxRecDepth 100000 in
theorem RCheck4_calls (a0 a1 a2 a3 n : Int) (w : World) (h0 : 0 ≤ a0 ∧ a0 < 256) (h1 : 0 ≤ a1 ∧ a1 < 256) (h2 : 0 ≤ a2 ∧ a2 < 256) (h3 : 0 ≤ a3 ∧ a3 < 256) (hb : -9223372036854775808 ≤ n ∧ n ≤ 9223372036854775807) :
    Calls Tryd.prog 39 #[P4 a0 a1 a2 a3 n] w fun e w' => e = .returned (.int .i64 (if okP4 a0 a1 a2 a3 n then 0 else 22)) ∧ Below w.heap.size w w' := by
  have hB := (Below.refl w.heap.size w).alloc (Nat.le_refl _) (.cells #[.int .u8 a0, .int .u8 a1, .int .u8 a2, .int .u8 a3, .int .i64 n] 38)
  by_cases hn : 0 ≤ n ∧ n ≤ 32
  · obtain ⟨m, rfl⟩ := Int.eq_ofNat_of_zero_le hn.1
    have hlow := Low4_calls a0 a1 a2 a3 m (w.alloc (.cells #[.int .u8 a0, .int .u8 a1, .int .u8 a2, .int .u8 a3, .int .i64 m] 38)) (fit4 h0 h1 h2 h3) (by omega)
    rw [low_ok m (by omega) h0 h1 h2 h3] at hlow
    have hok : okP4 a0 a1 a2 a3 m = decide ([a0, a1, a2, a3] = pL a0 a1 a2 a3 m) := by
      unfold okP4
      rw [decide_eq_true hn, Bool.true_and]
    rw [hok]
    generalize decide ([a0, a1, a2, a3] = pL a0 a1 a2 a3 m) = bb at *
    have HL : Hid _ := hlow
    have HB : Hid _ := hB
    clear hlow hB hok
    go_enter Tryd.func39, Tryd.ntmps39
    go_wp2_with fail
    refine Calls.mono HL.out ?_
    rintro e w2 ⟨rfl, hB2⟩
    have hBB := HB.out.trans (hB2.mono HB.out.size)
    clear HL HB hB2
    cases bb
    all_goals
      go_wp2
      go_ret
      exact ⟨rfl, hBB⟩
  · have hok : okP4 a0 a1 a2 a3 n = false := by unfold okP4; rw [decide_eq_false hn, Bool.false_and]
    rw [hok]
    clear hok
    have hn' : n < 0 ∨ 32 < n := by omega
    rcases hn' with hn' | hn'
    all_goals
      go_enter Tryd.func39, Tryd.ntmps39
      go_wp2
      go_ret
      exact ⟨rfl, hB⟩

end Go.Proofs.YtlpbffcijhgelaaDoor

namespace Go.Proofs.YtlpbffcijhgelaaDoor
open Go Go.RowKit
set_option linter.unusedVariables false
set_option linter.unusedSimpArgs false

/-- Bits from n on cleared, up to n + k. -/
def clrL (zs : List Int) (n : Nat) : Nat → List Int
  | 0 => zs
  | k + 1 => setL (clrL zs n k) (n + k) 0
@[simp] theorem clrL_length (zs : List Int) (n k : Nat) : (clrL zs n k).length = zs.length := by
  induction k with
  | zero => rfl
  | succ k ih => simp [clrL, ih]
theorem clrL_fit {zs : List Int} (h : FitB zs) (n k : Nat) : FitB (clrL zs n k) := by
  induction k with
  | zero => exact h
  | succ k ih => exact setL_fit ih _ _ (by decide)
theorem bitN_clrL {zs : List Int} (h : FitB zs) (n k q : Nat) (hp : n + k ≤ 8 * zs.length) : bitN (clrL zs n k) q = if n ≤ q ∧ q < n + k then 0 else bitN zs q := by
  induction k with
  | zero => have : ¬ (n ≤ q ∧ q < n + 0) := by omega
            simp [clrL]; omega
  | succ k ih =>
    rw [clrL, bitN_setL (clrL_fit h _ _) _ _ _ (by decide) (by simp; omega), ih (by omega)]
    by_cases c : q = n + k
    · subst c; rw [if_pos rfl, if_pos (by omega)]
    · rw [if_neg c]
      by_cases d : n ≤ q ∧ q < n + k
      · rw [if_pos d, if_pos (by omega)]
      · rw [if_neg d, if_neg (by omega)]
theorem clr_pL {a0 a1 a2 a3 : Int} (n : Nat) (hn : n ≤ 32) (h0 : 0 ≤ a0 ∧ a0 < 256) (h1 : 0 ≤ a1 ∧ a1 < 256) (h2 : 0 ≤ a2 ∧ a2 < 256) (h3 : 0 ≤ a3 ∧ a3 < 256) : clrL [a0, a1, a2, a3] n (32 - n) = pL a0 a1 a2 a3 n := by
  refine row_ext (by simp [pL]) (clrL_fit (fit4 h0 h1 h2 h3) _ _) (pL_fit _ h0 h1 h2 h3) fun p hp => ?_
  have hp' : p < 32 := by simpa using hp
  rw [bitN_clrL (fit4 h0 h1 h2 h3) _ _ _ (by simp; omega), bitN_pL n p hp' h0 h1 h2 h3]
  by_cases c : p < n
  · rw [if_neg (by omega), if_pos c]
  · rw [if_pos (by omega), if_neg c]

theorem wrap_u8 : ∀ k, k < 8 → IntKind.u8.wrap (2 ^ k) = 2 ^ k := by decide
theorem an_one (z : Int) (k : Nat) (hk : k < 8) (h : 0 ≤ z ∧ z < 256) : bits .andNot .u8 z (2 ^ k) = ((setN z.toNat k 0 : Nat) : Int) := by
  have hp : ∀ j, j < 8 → 2 ^ j < 256 := by decide
  have h1 := u8_andNot_nat z.toNat (2 ^ k) (by omega) (hp k hk)
  rw [← tab_an k hk _ (by omega), ← h1, Int.toNat_of_nonneg h.1]
  simp

theorem pow256 : ∀ k, k < 8 → (2 : Int) ^ k % 256 = 2 ^ k := by decide

theorem list4 {l : List Int} (h : l.length = 4) : ∃ x0 x1 x2 x3, l = [x0, x1, x2, x3] := by
  match l, h with
  | [x0, x1, x2, x3], _ => exact ⟨x0, x1, x2, x3, rfl⟩

set_option maxHeartbeats 4000000 in
set_option maxRecDepth 100000 in
theorem RCut4_yes (a0 a1 a2 a3 : Int) (n : Nat) (w : World) (h0 : 0 ≤ a0 ∧ a0 < 256) (h1 : 0 ≤ a1 ∧ a1 < 256) (h2 : 0 ≤ a2 ∧ a2 < 256) (h3 : 0 ≤ a3 ∧ a3 < 256) (hn : n ≤ 32) :
    Calls Tryd.prog 35 #[A4 a0 a1 a2 a3, .int .i64 n] w fun e w' => e = .returned (.tuple #[P4 (bl a0 n) (bl a1 (n - 8)) (bl a2 (n - 16)) (bl a3 (n - 24)) n, .int .i64 0]) ∧ Below w.heap.size w w' := by
  have hG : OwnG ((w.alloc (.cells #[.int .u8 a0, .int .u8 a1, .int .u8 a2, .int .u8 a3] 23)).alloc (.cells #[.int .u8 0, .int .u8 0, .int .u8 0, .int .u8 0, .int .i64 0] 38)) w.heap.size [a0, a1, a2, a3] := by
    have e1 : ((w.alloc (.cells #[.int .u8 a0, .int .u8 a1, .int .u8 a2, .int .u8 a3] 23)).alloc (.cells #[.int .u8 0, .int .u8 0, .int .u8 0, .int .u8 0, .int .i64 0] 38)).heap[w.heap.size]? = some (.cells #[.int .u8 a0, .int .u8 a1, .int .u8 a2, .int .u8 a3] 23) := by
      rw [Below.heap_alloc _ _ _ (by simp)]
      exact alloc_new _ _
    refine ⟨⟨_, _, e1⟩, fun j hj => ?_⟩
    simp only [World.cell?, e1]
    match j, hj with
    | 0, _ => rfl
    | 1, _ => rfl
    | 2, _ => rfl
    | 3, _ => rfl
    | n + 4, hj => simp at hj; omega
  have hR : ((w.alloc (.cells #[.int .u8 a0, .int .u8 a1, .int .u8 a2, .int .u8 a3] 23)).alloc (.cells #[.int .u8 0, .int .u8 0, .int .u8 0, .int .u8 0, .int .i64 0] 38)).heap[w.heap.size + 1]? = some (.cells #[.int .u8 0, .int .u8 0, .int .u8 0, .int .u8 0, .int .i64 0] 38) := alloc_new2 _ _ _
  have hB : Below w.heap.size w ((w.alloc (.cells #[.int .u8 a0, .int .u8 a1, .int .u8 a2, .int .u8 a3] 23)).alloc (.cells #[.int .u8 0, .int .u8 0, .int .u8 0, .int .u8 0, .int .i64 0] 38)) := ((Below.refl _ w).alloc (Nat.le_refl _) _).alloc (by simp) _
  have hf := fit4 h0 h1 h2 h3
  have hend := clr_pL n hn h0 h1 h2 h3
  have HE : Hid _ := hend
  have HR : Hid _ := hR
  have HB : Hid _ := hB
  have HG : Hid _ := hG
  clear hend hR hB hG
  go_enter Tryd.func35, Tryd.ntmps35
  go_wp2
  generalize (w.alloc (.cells #[.int .u8 a0, .int .u8 a1, .int .u8 a2, .int .u8 a3] 23)).alloc (.cells #[.int .u8 0, .int .u8 0, .int .u8 0, .int .u8 0, .int .i64 0] 38) = w1 at *
  go_loopw [6] (fun i wr => ∃ k : Nat, n + k ≤ 32 ∧ i = .int .i64 (n + k : Nat) ∧ OwnG wr w.heap.size (clrL [a0, a1, a2, a3] n k) ∧ Only w.heap.size w1 wr) (fun i _ => 32 - (intOf i).toNat)
  case atStart => exact ⟨0, by omega, rfl, HG.out, Only.refl _ _⟩
  case round =>
    obtain ⟨k, hk, rfl, ho, hO⟩ := hrel
    by_cases hlt : n + k < 32
    · have hset : clrL [a0, a1, a2, a3] n (k + 1) = (clrL [a0, a1, a2, a3] n k).set ((n + k) / 8) ((setN ((clrL [a0, a1, a2, a3] n k)[(n + k) / 8]?.getD 0).toNat (7 - (n + k) % 8) 0 : Nat) : Int) := rfl
      have hfit := fit_at (clrL_fit hf n k) ((n + k) / 8)
      have hlen : (clrL [a0, a1, a2, a3] n k).length = 4 := by simp
      have hcc := ho.cell ((n + k) / 8) (by omega)
      have hop := ho.open ((n + k) / 8)
      have hos := ho.set ((n + k) / 8) (by omega)
      have han := an_one ((clrL [a0, a1, a2, a3] n k)[(n + k) / 8]?.getD 0) (7 - (n + k) % 8) (by omega) hfit
      have hwr := wrap_u8 (7 - (n + k) % 8) (by omega)
      have h256 := pow256 (7 - (n + k) % 8) (by omega)
      generalize hy : clrL [a0, a1, a2, a3] n (k + 1) = y at *
      generalize clrL [a0, a1, a2, a3] n k = x at *
      generalize x[(n + k) / 8]?.getD 0 = z at *
      generalize setN z.toNat (7 - (n + k) % 8) 0 = s at *
      generalize hK : n + k = K at *
      have HY : Hid _ := hy
      have HS : Hid _ := hset
      have HO : Hid _ := hos
      have HK : Hid _ := hK
      clear hy hset hos hK
      go_wp2
      go_region
      go_wp2
      refine ⟨⟨k + 1, by have := HK.out; omega, by have := HK.out; simp; omega, ?_, (hO.set _ _).drew⟩, by simp [intOf]; omega⟩
      rw [HY.out, HS.out]
      have ho2 := HO.out (s : Int)
      exact ⟨ho2.typed, ho2.cell⟩
    · obtain rfl : k = 32 - n := by omega
      have hke : n + (32 - n) = 32 := by omega
      rw [HE.out] at ho
      unfold pL at ho
      have hR2 := (hO.other (w.heap.size + 1) (by omega)).trans HR.out
      have hB2 := HB.out.trans (hO.below (Nat.le_refl _))
      have c0 := ho.cell 0 (by simp)
      have c1 := ho.cell 1 (by simp)
      have c2 := ho.cell 2 (by simp)
      have c3 := ho.cell 3 (by simp)
      simp only [List.getElem?_cons_zero, List.getElem?_cons_succ, Option.getD_some] at c0 c1 c2 c3
      obtain ⟨hfz, r0, r1, r2, r3, r4⟩ := Slot.of hR2 (Below.refl _ _)
      generalize hx0 : bl a0 n = x0 at *
      generalize hx1 : bl a1 (n - 8) = x1 at *
      generalize hx2 : bl a2 (n - 16) = x2 at *
      generalize hx3 : bl a3 (n - 24) = x3 at *
      have HX0 : Hid _ := hx0
      have HX1 : Hid _ := hx1
      have HX2 : Hid _ := hx2
      have HX3 : Hid _ := hx3
      clear hx0 hx1 hx2 hx3 ho hR2 hO HE HR HB HG
      rw [hke]
      clear hke
      go_wp2
      obtain ⟨d0, d1, d2, d3, d4⟩ := set5 wr (w.heap.size + 1) (.int .u8 x0) (.int .u8 x1) (.int .u8 x2) (.int .u8 x3) (.int .i64 n) (by rw [r0]; rfl) (by rw [r1]; rfl) (by rw [r2]; rfl) (by rw [r3]; rfl) (by rw [r4]; rfl)
      have hB3 := hB2.trans (((((((Only.refl (w.heap.size + 1) wr).set 0 (.int .u8 x0)).set 1 (.int .u8 x1)).set 2 (.int .u8 x2)).set 3 (.int .u8 x3)).set 4 (.int .i64 n)).below (show w.heap.size ≤ w.heap.size + 1 by omega))
      generalize ((((wr.setCell ⟨w.heap.size + 1, 0, none⟩ (.int .u8 x0)).setCell ⟨w.heap.size + 1, 1, none⟩ (.int .u8 x1)).setCell ⟨w.heap.size + 1, 2, none⟩ (.int .u8 x2)).setCell ⟨w.heap.size + 1, 3, none⟩ (.int .u8 x3)).setCell ⟨w.heap.size + 1, 4, none⟩ (.int .i64 n) = w5 at *
      refine bodyPost_ret (res_cell2 rfl rfl (loadP4 d0 d1 d2 d3 d4)) rfl ?_
      refine ⟨?_, hB3⟩
      rw [HX0.out, HX1.out, HX2.out, HX3.out]
      rfl

end Go.Proofs.YtlpbffcijhgelaaDoor

namespace Go.Proofs.YtlpbffcijhgelaaDoor
open Go Go.RowKit
set_option linter.unusedVariables false
set_option linter.unusedSimpArgs false

/-- Has the prefix that address? -/
def hasB (a0 a1 a2 a3 n b0 b1 b2 b3 : Int) : Bool := decide (pL b0 b1 b2 b3 n = [a0, a1, a2, a3])

theorem two_blocks (w : World) (o1 o2 : Obj) {w' : World} (hb : Below ((w.alloc o1).alloc o2).heap.size ((w.alloc o1).alloc o2) w') : w'.heap[w.heap.size]? = some o1 ∧ w'.heap[w.heap.size + 1]? = some o2 := by
  have e1 : ((w.alloc o1).alloc o2).heap[w.heap.size]? = some o1 := by
    rw [Below.heap_alloc _ _ _ (by simp)]
    exact alloc_new _ _
  have e2 : ((w.alloc o1).alloc o2).heap[w.heap.size + 1]? = some o2 := alloc_new2 _ _ _
  exact ⟨(hb.block _ (Array.getElem?_eq_some_iff.1 e1).1).trans e1, (hb.block _ (Array.getElem?_eq_some_iff.1 e2).1).trans e2⟩

set_option maxHeartbeats 4000000 in
set_option maxRecDepth 100000 in
theorem RHas4_calls (a0 a1 a2 a3 n b0 b1 b2 b3 : Int) (w : World) (h0 : 0 ≤ a0 ∧ a0 < 256) (h1 : 0 ≤ a1 ∧ a1 < 256) (h2 : 0 ≤ a2 ∧ a2 < 256) (h3 : 0 ≤ a3 ∧ a3 < 256) (hb : -9223372036854775808 ≤ n ∧ n ≤ 9223372036854775807)
    (g0 : 0 ≤ b0 ∧ b0 < 256) (g1 : 0 ≤ b1 ∧ b1 < 256) (g2 : 0 ≤ b2 ∧ b2 < 256) (g3 : 0 ≤ b3 ∧ b3 < 256) :
    Calls Tryd.prog 31 #[P4 a0 a1 a2 a3 n, A4 b0 b1 b2 b3] w fun e w' => e = .returned (.tuple #[.bool (okP4 a0 a1 a2 a3 n && hasB a0 a1 a2 a3 n b0 b1 b2 b3), .int .i64 (if okP4 a0 a1 a2 a3 n then 0 else 22)]) ∧ Below w.heap.size w w' := by
  have hB : Below w.heap.size w ((w.alloc (.cells #[.int .u8 a0, .int .u8 a1, .int .u8 a2, .int .u8 a3, .int .i64 n] 38)).alloc (.cells #[.int .u8 b0, .int .u8 b1, .int .u8 b2, .int .u8 b3] 23)) := ((Below.refl _ w).alloc (Nat.le_refl _) _).alloc (by simp) _
  have hchk := RCheck4_calls a0 a1 a2 a3 n ((w.alloc (.cells #[.int .u8 a0, .int .u8 a1, .int .u8 a2, .int .u8 a3, .int .i64 n] 38)).alloc (.cells #[.int .u8 b0, .int .u8 b1, .int .u8 b2, .int .u8 b3] 23)) h0 h1 h2 h3 hb
  have htwo := fun (w' : World) => @two_blocks w (.cells #[.int .u8 a0, .int .u8 a1, .int .u8 a2, .int .u8 a3, .int .i64 n] 38) (.cells #[.int .u8 b0, .int .u8 b1, .int .u8 b2, .int .u8 b3] 23) w'
  have HB : Hid _ := hB
  have HT : Hid _ := htwo
  cases hok : okP4 a0 a1 a2 a3 n
  · rw [hok] at hchk
    have HC : Hid _ := hchk
    clear hchk hok hB htwo
    go_enter Tryd.func31, Tryd.ntmps31
    go_wp2_with fail
    refine Calls.mono HC.out ?_
    rintro e w2 ⟨rfl, hB2⟩
    go_wp2
    go_ret2
    exact ⟨rfl, HB.out.trans (hB2.mono HB.out.size)⟩
  · rw [hok] at hchk
    have hn : 0 ≤ n ∧ n ≤ 32 := by simp [okP4] at hok; exact hok.1
    obtain ⟨m, rfl⟩ := Int.eq_ofNat_of_zero_le hn.1
    have hcut := fun w => RCut4_yes b0 b1 b2 b3 m w g0 g1 g2 g3 (by omega)
    have f0 := bl_fit b0 m g0
    have f1 := bl_fit b1 (m - 8) g1
    have f2 := bl_fit b2 (m - 16) g2
    have f3 := bl_fit b3 (m - 24) g3
    have hhas : hasB a0 a1 a2 a3 m b0 b1 b2 b3 = decide ([bl b0 m, bl b1 (m - 8), bl b2 (m - 16), bl b3 (m - 24)] = [a0, a1, a2, a3]) := rfl
    rw [hhas, Bool.true_and]
    generalize bl b0 m = x0 at *
    generalize bl b1 (m - 8) = x1 at *
    generalize bl b2 (m - 16) = x2 at *
    generalize bl b3 (m - 24) = x3 at *
    have heq : ∀ W, (Op.equalIn 9999 23 (.agg #[.int .u8 x0, .int .u8 x1, .int .u8 x2, .int .u8 x3]) (.agg #[.int .u8 a0, .int .u8 a1, .int .u8 a2, .int .u8 a3])).run Tryd.prog W = .ok (decide ([x0, x1, x2, x3] = [a0, a1, a2, a3])) W :=
      fun W => eq_arr4 9997 [x0, x1, x2, x3] [a0, a1, a2, a3] (fit4 f0 f1 f2 f3) (fit4 h0 h1 h2 h3) rfl rfl W
    generalize decide ([x0, x1, x2, x3] = [a0, a1, a2, a3]) = bb at *
    have HC : Hid _ := hchk
    have HU : Hid _ := hcut
    clear hchk hok hB htwo hcut hhas f0 f1 f2 f3
    go_enter Tryd.func31, Tryd.ntmps31
    go_wp2_with fail
    refine Calls.mono HC.out ?_
    rintro e w2 ⟨rfl, hB2⟩
    have hBB := HB.out.trans (hB2.mono HB.out.size)
    obtain ⟨t1, t2⟩ := HT.out w2 hB2
    have k0 : w2.cell? ⟨w.heap.size + 1, 0, none⟩ = some (.int .u8 b0) := by simp [World.cell?, t2]
    have k1 : w2.cell? ⟨w.heap.size + 1, 1, none⟩ = some (.int .u8 b1) := by simp [World.cell?, t2]
    have k2 : w2.cell? ⟨w.heap.size + 1, 2, none⟩ = some (.int .u8 b2) := by simp [World.cell?, t2]
    have k3 : w2.cell? ⟨w.heap.size + 1, 3, none⟩ = some (.int .u8 b3) := by simp [World.cell?, t2]
    have k4 : w2.cell? ⟨w.heap.size, 4, none⟩ = some (.int .i64 m) := by simp [World.cell?, t1]
    have HT1 : Hid _ := t1
    clear t1 t2
    go_wp2_with fail
    refine Calls.mono (HU.out _) ?_
    rintro e w3 ⟨rfl, hB3⟩
    have hBC := hBB.trans (hB3.mono hBB.size)
    have hall : ∀ o : Obj, (w3.alloc o).heap[w.heap.size]? = some (.cells #[.int .u8 a0, .int .u8 a1, .int .u8 a2, .int .u8 a3, .int .i64 m] 38) := fun o =>
      ((hB3.alloc hB3.size o).block _ (Array.getElem?_eq_some_iff.1 HT1.out).1).trans HT1.out
    have c0 : ∀ o, (w3.alloc o).cell? ⟨w.heap.size, 0, none⟩ = some (.int .u8 a0) := fun o => by simp [World.cell?, hall o]
    have c1 : ∀ o, (w3.alloc o).cell? ⟨w.heap.size, 1, none⟩ = some (.int .u8 a1) := fun o => by simp [World.cell?, hall o]
    have c2 : ∀ o, (w3.alloc o).cell? ⟨w.heap.size, 2, none⟩ = some (.int .u8 a2) := fun o => by simp [World.cell?, hall o]
    have c3 : ∀ o, (w3.alloc o).cell? ⟨w.heap.size, 3, none⟩ = some (.int .u8 a3) := fun o => by simp [World.cell?, hall o]
    have c4 : ∀ o, (w3.alloc o).cell? ⟨w.heap.size, 4, none⟩ = some (.int .i64 m) := fun o => by simp [World.cell?, hall o]
    clear hall k0 k1 k2 k3 k4 hB2 hB3 HC HU HT
    cases bb
    all_goals
      go_wp2
      go_ret2
      exact ⟨rfl, hBC.alloc hBC.size _⟩

end Go.Proofs.YtlpbffcijhgelaaDoor
