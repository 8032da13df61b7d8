/-
  IPv4 prefixes: Cover4 and Has4 of the program.
-/
import Derived.Test.YtlpbffcijhgelaaDoorAddrChk2
namespace Go.Proofs.YtlpbffcijhgelaaDoor
open Go Go.RowKit
set_option linter.unusedVariables false
set_option linter.unusedSimpArgs false

def covB (a0 a1 a2 a3 n b0 b1 b2 b3 m : Int) : Bool := decide (n ≤ m) && decide ([a0, a1, a2, a3] = pL b0 b1 b2 b3 n)
def bothOk (a0 a1 a2 a3 n b0 b1 b2 b3 m : Int) : Bool := okP4 a0 a1 a2 a3 n && okP4 b0 b1 b2 b3 m

structure Fits (a0 a1 a2 a3 n : Int) : Prop where
  h0 : 0 ≤ a0 ∧ a0 < 256
  h1 : 0 ≤ a1 ∧ a1 < 256
  h2 : 0 ≤ a2 ∧ a2 < 256
  h3 : 0 ≤ a3 ∧ a3 < 256
  hn : -9223372036854775808 ≤ n ∧ n ≤ 9223372036854775807

set_option maxHeartbeats 4000000 in
set_option maxRecDepth 100000 in
theorem Cover4_calls (a0 a1 a2 a3 n b0 b1 b2 b3 m : Int) (w : World) (ha : Fits a0 a1 a2 a3 n) (hb : Fits b0 b1 b2 b3 m) :
    Calls Tryd.prog 32 #[P4 a0 a1 a2 a3 n, P4 b0 b1 b2 b3 m] w fun e w' => e = .returned (.tuple #[.bool (bothOk a0 a1 a2 a3 n b0 b1 b2 b3 m && covB a0 a1 a2 a3 n b0 b1 b2 b3 m), .int .i64 (if bothOk a0 a1 a2 a3 n b0 b1 b2 b3 m then 0 else 22)]) ∧ Below w.heap.size w w' := by
  have hc1 := fun w => Check4_calls a0 a1 a2 a3 n w ha.h0 ha.h1 ha.h2 ha.h3 ha.hn
  have hc2 := fun w => Check4_calls b0 b1 b2 b3 m w hb.h0 hb.h1 hb.h2 hb.h3 hb.hn
  have HC1 : Hid _ := hc1
  have HC2 : Hid _ := hc2
  clear hc1 hc2
  have hB0 := (Below.refl w.heap.size w).alloc (Nat.le_refl _) (.cells #[.int .u8 a0, .int .u8 a1, .int .u8 a2, .int .u8 a3, .int .i64 n] 38)
  have hB1 := hB0.alloc hB0.size (.cells #[.int .u8 b0, .int .u8 b1, .int .u8 b2, .int .u8 b3, .int .i64 m] 38)
  have hl1 : ((w.alloc (.cells #[.int .u8 a0, .int .u8 a1, .int .u8 a2, .int .u8 a3, .int .i64 n] 38)).alloc (.cells #[.int .u8 b0, .int .u8 b1, .int .u8 b2, .int .u8 b3, .int .i64 m] 38)).heap[w.heap.size]? = some (.cells #[.int .u8 a0, .int .u8 a1, .int .u8 a2, .int .u8 a3, .int .i64 n] 38) := by
    rw [Below.heap_alloc _ _ _ (by simp)]
    exact alloc_new _ _
  have hl2 : ((w.alloc (.cells #[.int .u8 a0, .int .u8 a1, .int .u8 a2, .int .u8 a3, .int .i64 n] 38)).alloc (.cells #[.int .u8 b0, .int .u8 b1, .int .u8 b2, .int .u8 b3, .int .i64 m] 38)).heap[w.heap.size + 1]? = some (.cells #[.int .u8 b0, .int .u8 b1, .int .u8 b2, .int .u8 b3, .int .i64 m] 38) := alloc_new2 _ _ _
  have HB1 : Hid _ := hB1
  have HL1 : Hid _ := hl1
  have HL2 : Hid _ := hl2
  clear hB0 hB1 hl1 hl2
  cases ok1 : okP4 a0 a1 a2 a3 n
  · have e : bothOk a0 a1 a2 a3 n b0 b1 b2 b3 m = false := by simp [bothOk, ok1]
    rw [e]
    rw [ok1] at HC1
    clear e ok1
    go_enter Tryd.func32, Tryd.ntmps32
    go_wp2_with fail
    refine Calls.mono (HC1.out _) ?_
    rintro e w2 ⟨rfl, hB2⟩
    have hBB := HB1.out.trans (hB2.mono HB1.out.size)
    go_wp2
    go_ret2
    exact ⟨rfl, hBB⟩
  · cases ok2 : okP4 b0 b1 b2 b3 m
    · have e : bothOk a0 a1 a2 a3 n b0 b1 b2 b3 m = false := by simp [bothOk, ok2]
      rw [e]
      rw [ok1] at HC1
      rw [ok2] at HC2
      clear e ok1 ok2
      go_enter Tryd.func32, Tryd.ntmps32
      go_wp2_with fail
      refine Calls.mono (HC1.out _) ?_
      rintro e w2 ⟨rfl, hB2⟩
      have hBB := HB1.out.trans (hB2.mono HB1.out.size)
      have hq := (hB2.block (w.heap.size + 1) (Array.getElem?_eq_some_iff.1 HL2.out).1).trans HL2.out
      have k0 : w2.cell? ⟨w.heap.size + 1, 0, none⟩ = some (.int .u8 b0) := by simp [World.cell?, hq]
      have k1 : w2.cell? ⟨w.heap.size + 1, 1, none⟩ = some (.int .u8 b1) := by simp [World.cell?, hq]
      have k2 : w2.cell? ⟨w.heap.size + 1, 2, none⟩ = some (.int .u8 b2) := by simp [World.cell?, hq]
      have k3 : w2.cell? ⟨w.heap.size + 1, 3, none⟩ = some (.int .u8 b3) := by simp [World.cell?, hq]
      have k4 : w2.cell? ⟨w.heap.size + 1, 4, none⟩ = some (.int .i64 m) := by simp [World.cell?, hq]
      clear hq hB2
      go_wp2_with fail
      refine Calls.mono (HC2.out _) ?_
      rintro e w3 ⟨rfl, hB3⟩
      go_wp2
      go_ret2
      exact ⟨rfl, hBB.trans (hB3.mono hBB.size)⟩
    · have e : bothOk a0 a1 a2 a3 n b0 b1 b2 b3 m = true := by simp [bothOk, ok1, ok2]
      rw [e, Bool.true_and]
      have hn : 0 ≤ n ∧ n ≤ 32 := by simp [okP4] at ok1; exact ok1.1
      rw [ok1] at HC1
      rw [ok2] at HC2
      clear e ok1 ok2
      have hcut := fun w => cut4_calls b0 b1 b2 b3 n w hb.h0 hb.h1 hb.h2 hb.h3 (by omega)
      have f0 := bl_fit b0 n hb.h0
      have f1 := bl_fit b1 (n - 8) hb.h1
      have f2 := bl_fit b2 (n - 16) hb.h2
      have f3 := bl_fit b3 (n - 24) hb.h3
      have hcov : covB a0 a1 a2 a3 n b0 b1 b2 b3 m = (decide (n ≤ m) && decide ([a0, a1, a2, a3] = [bl b0 n, bl b1 (n - 8), bl b2 (n - 16), bl b3 (n - 24)])) := rfl
      rw [hcov]
      generalize bl b0 n = x0 at *
      generalize bl b1 (n - 8) = x1 at *
      generalize bl b2 (n - 16) = x2 at *
      generalize bl b3 (n - 24) = x3 at *
      have heq : ∀ W, (Op.equalIn 9999 23 (.agg #[.int .u8 a0, .int .u8 a1, .int .u8 a2, .int .u8 a3]) (.agg #[.int .u8 x0, .int .u8 x1, .int .u8 x2, .int .u8 x3])).run Tryd.prog W = .ok (decide ([a0, a1, a2, a3] = [x0, x1, x2, x3])) W :=
        fun W => eq_arr4 9997 [a0, a1, a2, a3] [x0, x1, x2, x3] (fit4 ha.h0 ha.h1 ha.h2 ha.h3) (fit4 f0 f1 f2 f3) rfl rfl W
      generalize decide ([a0, a1, a2, a3] = [x0, x1, x2, x3]) = bb at *
      generalize hdd : decide (n ≤ m) = dd at *
      have HCU : Hid _ := hcut
      clear hcut hcov f0 f1 f2 f3
      go_enter Tryd.func32, Tryd.ntmps32
      go_wp2_with fail
      refine Calls.mono (HC1.out _) ?_
      rintro e w2 ⟨rfl, hB2⟩
      have hBB := HB1.out.trans (hB2.mono HB1.out.size)
      have hp := (hB2.block w.heap.size (Array.getElem?_eq_some_iff.1 HL1.out).1).trans HL1.out
      have hq := (hB2.block (w.heap.size + 1) (Array.getElem?_eq_some_iff.1 HL2.out).1).trans HL2.out
      have k0 : w2.cell? ⟨w.heap.size + 1, 0, none⟩ = some (.int .u8 b0) := by simp [World.cell?, hq]
      have k1 : w2.cell? ⟨w.heap.size + 1, 1, none⟩ = some (.int .u8 b1) := by simp [World.cell?, hq]
      have k2 : w2.cell? ⟨w.heap.size + 1, 2, none⟩ = some (.int .u8 b2) := by simp [World.cell?, hq]
      have k3 : w2.cell? ⟨w.heap.size + 1, 3, none⟩ = some (.int .u8 b3) := by simp [World.cell?, hq]
      have k4 : w2.cell? ⟨w.heap.size + 1, 4, none⟩ = some (.int .i64 m) := by simp [World.cell?, hq]
      go_wp2_with fail
      refine Calls.mono (HC2.out _) ?_
      rintro e w3 ⟨rfl, hB3⟩
      have hBC := hBB.trans (hB3.mono hBB.size)
      have hp3 := (hB3.block w.heap.size (Array.getElem?_eq_some_iff.1 hp).1).trans hp
      have hq3 := (hB3.block (w.heap.size + 1) (Array.getElem?_eq_some_iff.1 hq).1).trans hq
      have cell : ∀ W : World, (W.heap[w.heap.size]? = w3.heap[w.heap.size]? ∧ W.heap[w.heap.size + 1]? = w3.heap[w.heap.size + 1]?) →
          (W.cell? ⟨w.heap.size, 0, none⟩ = some (.int .u8 a0) ∧ W.cell? ⟨w.heap.size, 1, none⟩ = some (.int .u8 a1) ∧ W.cell? ⟨w.heap.size, 2, none⟩ = some (.int .u8 a2) ∧ W.cell? ⟨w.heap.size, 3, none⟩ = some (.int .u8 a3) ∧ W.cell? ⟨w.heap.size, 4, none⟩ = some (.int .i64 n) ∧
           W.cell? ⟨w.heap.size + 1, 0, none⟩ = some (.int .u8 b0) ∧ W.cell? ⟨w.heap.size + 1, 1, none⟩ = some (.int .u8 b1) ∧ W.cell? ⟨w.heap.size + 1, 2, none⟩ = some (.int .u8 b2) ∧ W.cell? ⟨w.heap.size + 1, 3, none⟩ = some (.int .u8 b3) ∧ W.cell? ⟨w.heap.size + 1, 4, none⟩ = some (.int .i64 m)) := by
        intro W ⟨e1, e2⟩
        rw [hp3] at e1
        rw [hq3] at e2
        simp [World.cell?, e1, e2]
      obtain ⟨c0, c1, c2, c3, c4, d0, d1, d2, d3, d4⟩ := cell w3 ⟨rfl, rfl⟩
      have hs3 := (Array.getElem?_eq_some_iff.1 hq3).1
      have CELL : Hid _ := cell
      clear k0 k1 k2 k3 k4 hp hq hp3 hq3 hB2 hB3 HC1 HC2 HL1 HL2 HB1 cell hBB
      cases dd
      · go_wp2_with fail
        go_region
        all_goals
          go_wp2
          go_ret2
          exact ⟨rfl, hBC.drew⟩
      · cases bb
        all_goals
          go_wp2_with fail
          go_region_with (go_at_call 67; refine Calls.mono (HCU.out _) ?_; rintro e w4 ⟨rfl, hB4⟩; obtain ⟨q0, q1, q2, q3, q4, s0, s1, s2, s3, s4⟩ := CELL.out w4 ⟨hB4.block w.heap.size (Nat.lt_trans (Nat.lt_succ_self _) hs3), hB4.block (w.heap.size + 1) hs3⟩)
        all_goals
          go_wp2
          go_ret2
          exact ⟨rfl, (hBC.drew).trans (hB4.mono hBC.size)⟩

end Go.Proofs.YtlpbffcijhgelaaDoor
