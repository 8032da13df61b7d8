/-
  IPv4 prefixes: Check4 of the program.
-/
import Derived.Test.YtlpbffcijhgelaaDoorAddrChk
import Derived.Test.YtlpbffcijhgelaaDoorAddrEq
namespace Go.Proofs.YtlpbffcijhgelaaDoor
open Go Go.RowKit
set_option linter.unusedVariables false
set_option linter.unusedSimpArgs false

/-- May the prefix be? -/
def pL (a0 a1 a2 a3 n : Int) : List Int := [bl a0 n, bl a1 (n - 8), bl a2 (n - 16), bl a3 (n - 24)]
def okP4 (a0 a1 a2 a3 n : Int) : Bool := decide (0 ≤ n ∧ n ≤ 32) && decide ([a0, a1, a2, a3] = pL a0 a1 a2 a3 n)

theorem box5 (w : World) (v0 v1 v2 v3 v4 : Value) (t : TypeId) {w' : World} (hb : Below (w.alloc (.cells #[v0, v1, v2, v3, v4] t)).heap.size (w.alloc (.cells #[v0, v1, v2, v3, v4] t)) w') :
    (w'.cell? ⟨w.heap.size, 0, none⟩ = some v0 ∧ w'.cell? ⟨w.heap.size, 1, none⟩ = some v1 ∧ w'.cell? ⟨w.heap.size, 2, none⟩ = some v2 ∧ w'.cell? ⟨w.heap.size, 3, none⟩ = some v3 ∧ w'.cell? ⟨w.heap.size, 4, none⟩ = some v4) := by
  have h : w'.heap[w.heap.size]? = some (.cells #[v0, v1, v2, v3, v4] t) := (hb.block w.heap.size (by simp)).trans (alloc_new w _)
  exact ⟨by simp [World.cell?, h], by simp [World.cell?, h], by simp [World.cell?, h], by simp [World.cell?, h], by simp [World.cell?, h]⟩

set_option maxHeartbeats 2000000 in
set_option maxRecDepth 100000 in
theorem Check4_in (a0 a1 a2 a3 n : Int) (w : World) (h0 : 0 ≤ a0 ∧ a0 < 256) (h1 : 0 ≤ a1 ∧ a1 < 256) (h2 : 0 ≤ a2 ∧ a2 < 256) (h3 : 0 ≤ a3 ∧ a3 < 256) (hn : 0 ≤ n ∧ n ≤ 32) :
    Calls Tryd.prog 38 #[P4 a0 a1 a2 a3 n] w fun e w' => e = .returned (.int .i64 (if okP4 a0 a1 a2 a3 n then 0 else 22)) ∧ Below w.heap.size w w' := by
  have hB := (Below.refl w.heap.size w).alloc (Nat.le_refl _) (.cells #[.int .u8 a0, .int .u8 a1, .int .u8 a2, .int .u8 a3, .int .i64 n] 38)
  have hcut := Cut4_yes a0 a1 a2 a3 n (w.alloc (.cells #[.int .u8 a0, .int .u8 a1, .int .u8 a2, .int .u8 a3, .int .i64 n] 38)) h0 h1 h2 h3 hn
  have hok : okP4 a0 a1 a2 a3 n = decide ([a0, a1, a2, a3] = [bl a0 n, bl a1 (n - 8), bl a2 (n - 16), bl a3 (n - 24)]) := by
    unfold okP4 pL
    rw [decide_eq_true hn, Bool.true_and]
  rw [hok]
  have f0 := bl_fit a0 n h0
  have f1 := bl_fit a1 (n - 8) h1
  have f2 := bl_fit a2 (n - 16) h2
  have f3 := bl_fit a3 (n - 24) h3
  generalize bl a0 n = x0 at *
  generalize bl a1 (n - 8) = x1 at *
  generalize bl a2 (n - 16) = x2 at *
  generalize bl a3 (n - 24) = x3 at *
  have heq : ∀ W, (Op.equalIn 9999 23 (.agg #[.int .u8 a0, .int .u8 a1, .int .u8 a2, .int .u8 a3]) (.agg #[.int .u8 x0, .int .u8 x1, .int .u8 x2, .int .u8 x3])).run Tryd.prog W = .ok (decide ([a0, a1, a2, a3] = [x0, x1, x2, x3])) W :=
    fun W => eq_arr4 9997 [a0, a1, a2, a3] [x0, x1, x2, x3] (fit4 h0 h1 h2 h3) (fit4 f0 f1 f2 f3) rfl rfl W
  generalize decide ([a0, a1, a2, a3] = [x0, x1, x2, x3]) = bb at *
  have HC : Hid _ := hcut
  have HB : Hid _ := hB
  clear hcut hB hok
  go_enter Tryd.func38, Tryd.ntmps38
  go_wp2_with fail
  refine Calls.mono HC.out ?_
  rintro e w2 ⟨rfl, hB2⟩
  have hq := fun o => box5 w (.int .u8 a0) (.int .u8 a1) (.int .u8 a2) (.int .u8 a3) (.int .i64 n) 38 (hB2.alloc hB2.size o)
  have k0 := fun o => (hq o).1
  have k1 := fun o => (hq o).2.1
  have k2 := fun o => (hq o).2.2.1
  have k3 := fun o => (hq o).2.2.2.1
  have k4 := fun o => (hq o).2.2.2.2
  have hBB := HB.out.trans (hB2.mono HB.out.size)
  clear hq HC HB hB2
  cases bb
  all_goals
    go_wp2
    go_ret
    exact ⟨rfl, hBB.alloc hBB.size _⟩

set_option maxHeartbeats 2000000 in
set_option maxRecDepth 100000 in
theorem Check4_calls (a0 a1 a2 a3 n : Int) (w : World) (h0 : 0 ≤ a0 ∧ a0 < 256) (h1 : 0 ≤ a1 ∧ a1 < 256) (h2 : 0 ≤ a2 ∧ a2 < 256) (h3 : 0 ≤ a3 ∧ a3 < 256) (hb : -9223372036854775808 ≤ n ∧ n ≤ 9223372036854775807) :
    Calls Tryd.prog 38 #[P4 a0 a1 a2 a3 n] w fun e w' => e = .returned (.int .i64 (if okP4 a0 a1 a2 a3 n then 0 else 22)) ∧ Below w.heap.size w w' := by
  by_cases hn : 0 ≤ n ∧ n ≤ 32
  · exact Check4_in a0 a1 a2 a3 n w h0 h1 h2 h3 hn
  · have hok : okP4 a0 a1 a2 a3 n = false := by unfold okP4; rw [decide_eq_false hn, Bool.false_and]
    rw [hok]
    have hB := (Below.refl w.heap.size w).alloc (Nat.le_refl _) (.cells #[.int .u8 a0, .int .u8 a1, .int .u8 a2, .int .u8 a3, .int .i64 n] 38)
    have hcut := Cut4_no a0 a1 a2 a3 n (w.alloc (.cells #[.int .u8 a0, .int .u8 a1, .int .u8 a2, .int .u8 a3, .int .i64 n] 38)) (by omega) hb
    have HC : Hid _ := hcut
    have HB : Hid _ := hB
    clear hcut hB hok
    go_enter Tryd.func38, Tryd.ntmps38
    go_wp2_with fail
    refine Calls.mono HC.out ?_
    rintro e w2 ⟨rfl, hB2⟩
    have hBB := HB.out.trans (hB2.mono HB.out.size)
    clear HC HB hB2
    go_wp2
    go_ret
    exact ⟨rfl, hBB.alloc hBB.size _⟩

end Go.Proofs.YtlpbffcijhgelaaDoor
