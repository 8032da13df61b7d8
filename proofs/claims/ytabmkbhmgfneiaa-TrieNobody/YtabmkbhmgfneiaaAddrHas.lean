/-
  IPv4 prefixes: the document's Has4.
-/
import Derived.Test.YtabmkbhmgfneiaaAddrRcut
namespace Go.Proofs.Ytabmkbhmgfneiaa
open Go Go.RowKit
set_option linter.unusedVariables false
set_option linter.unusedSimpArgs false

/-- Has the prefix that address? -/
def hasB (a0 a1 a2 a3 n b0 b1 b2 b3 : Int) : Bool := decide (pL b0 b1 b2 b3 n = [a0, a1, a2, a3])

theorem two_blocks (w : World) (o1 o2 : Obj) {w' : World} (hb : Below ((w.alloc o1).alloc o2).heap.size ((w.alloc o1).alloc o2) w') : w'.heap[w.heap.size]? = some o1 ∧ w'.heap[w.heap.size + 1]? = some o2 := by
  have e1 : ((w.alloc o1).alloc o2).heap[w.heap.size]? = some o1 := by
    rw [Below.heap_alloc _ _ _ (by simp)]
    exact alloc_new _ _
  have e2 : ((w.alloc o1).alloc o2).heap[w.heap.size + 1]? = some o2 := alloc_new2 _ _ _
  exact ⟨(hb.block _ (Array.getElem?_eq_some_iff.1 e1).1).trans e1, (hb.block _ (Array.getElem?_eq_some_iff.1 e2).1).trans e2⟩

set_option maxHeartbeats 4000000 in
set_option maxRecDepth 100000 in
theorem RHas4_calls (a0 a1 a2 a3 n b0 b1 b2 b3 : Int) (w : World) (h0 : 0 ≤ a0 ∧ a0 < 256) (h1 : 0 ≤ a1 ∧ a1 < 256) (h2 : 0 ≤ a2 ∧ a2 < 256) (h3 : 0 ≤ a3 ∧ a3 < 256) (hb : -9223372036854775808 ≤ n ∧ n ≤ 9223372036854775807)
    (g0 : 0 ≤ b0 ∧ b0 < 256) (g1 : 0 ≤ b1 ∧ b1 < 256) (g2 : 0 ≤ b2 ∧ b2 < 256) (g3 : 0 ≤ b3 ∧ b3 < 256) :
    Calls Try.prog 18 #[P4 a0 a1 a2 a3 n, A4 b0 b1 b2 b3] w fun e w' => e = .returned (.tuple #[.bool (okP4 a0 a1 a2 a3 n && hasB a0 a1 a2 a3 n b0 b1 b2 b3), .int .i64 (if okP4 a0 a1 a2 a3 n then 0 else 22)]) ∧ Below w.heap.size w w' := by
  have hB : Below w.heap.size w ((w.alloc (.cells #[.int .u8 a0, .int .u8 a1, .int .u8 a2, .int .u8 a3, .int .i64 n] 35)).alloc (.cells #[.int .u8 b0, .int .u8 b1, .int .u8 b2, .int .u8 b3] 33)) := ((Below.refl _ w).alloc (Nat.le_refl _) _).alloc (by simp) _
  have hchk := RCheck4_calls a0 a1 a2 a3 n ((w.alloc (.cells #[.int .u8 a0, .int .u8 a1, .int .u8 a2, .int .u8 a3, .int .i64 n] 35)).alloc (.cells #[.int .u8 b0, .int .u8 b1, .int .u8 b2, .int .u8 b3] 33)) h0 h1 h2 h3 hb
  have htwo := fun (w' : World) => @two_blocks w (.cells #[.int .u8 a0, .int .u8 a1, .int .u8 a2, .int .u8 a3, .int .i64 n] 35) (.cells #[.int .u8 b0, .int .u8 b1, .int .u8 b2, .int .u8 b3] 33) w'
  have HB : Hid _ := hB
  have HT : Hid _ := htwo
  cases hok : okP4 a0 a1 a2 a3 n
  · rw [hok] at hchk
    have HC : Hid _ := hchk
    clear hchk hok hB htwo
    go_enter Try.func18, Try.ntmps18
    go_wp2_with fail
    refine Calls.mono HC.out ?_
    rintro e w2 ⟨rfl, hB2⟩
    go_wp2
    go_ret2
    exact ⟨rfl, HB.out.trans (hB2.mono HB.out.size)⟩
  · rw [hok] at hchk
    have hn : 0 ≤ n ∧ n ≤ 32 := by simp [okP4] at hok; exact hok.1
    obtain ⟨m, rfl⟩ := Int.eq_ofNat_of_zero_le hn.1
    have hcut := fun w => RCut4_yes b0 b1 b2 b3 m w g0 g1 g2 g3 (by omega)
    have f0 := bl_fit b0 m g0
    have f1 := bl_fit b1 (m - 8) g1
    have f2 := bl_fit b2 (m - 16) g2
    have f3 := bl_fit b3 (m - 24) g3
    have hhas : hasB a0 a1 a2 a3 m b0 b1 b2 b3 = decide ([bl b0 m, bl b1 (m - 8), bl b2 (m - 16), bl b3 (m - 24)] = [a0, a1, a2, a3]) := rfl
    rw [hhas, Bool.true_and]
    generalize bl b0 m = x0 at *
    generalize bl b1 (m - 8) = x1 at *
    generalize bl b2 (m - 16) = x2 at *
    generalize bl b3 (m - 24) = x3 at *
    have heq : ∀ W, (Op.equalIn 9999 33 (.agg #[.int .u8 x0, .int .u8 x1, .int .u8 x2, .int .u8 x3]) (.agg #[.int .u8 a0, .int .u8 a1, .int .u8 a2, .int .u8 a3])).run Try.prog W = .ok (decide ([x0, x1, x2, x3] = [a0, a1, a2, a3])) W :=
      fun W => eq_arr4 9997 [x0, x1, x2, x3] [a0, a1, a2, a3] (fit4 f0 f1 f2 f3) (fit4 h0 h1 h2 h3) rfl rfl W
    generalize decide ([x0, x1, x2, x3] = [a0, a1, a2, a3]) = bb at *
    have HC : Hid _ := hchk
    have HU : Hid _ := hcut
    clear hchk hok hB htwo hcut hhas f0 f1 f2 f3
    go_enter Try.func18, Try.ntmps18
    go_wp2_with fail
    refine Calls.mono HC.out ?_
    rintro e w2 ⟨rfl, hB2⟩
    have hBB := HB.out.trans (hB2.mono HB.out.size)
    obtain ⟨t1, t2⟩ := HT.out w2 hB2
    have k0 : w2.cell? ⟨w.heap.size + 1, 0, none⟩ = some (.int .u8 b0) := by simp [World.cell?, t2]
    have k1 : w2.cell? ⟨w.heap.size + 1, 1, none⟩ = some (.int .u8 b1) := by simp [World.cell?, t2]
    have k2 : w2.cell? ⟨w.heap.size + 1, 2, none⟩ = some (.int .u8 b2) := by simp [World.cell?, t2]
    have k3 : w2.cell? ⟨w.heap.size + 1, 3, none⟩ = some (.int .u8 b3) := by simp [World.cell?, t2]
    have k4 : w2.cell? ⟨w.heap.size, 4, none⟩ = some (.int .i64 m) := by simp [World.cell?, t1]
    have HT1 : Hid _ := t1
    clear t1 t2
    go_wp2_with fail
    refine Calls.mono (HU.out _) ?_
    rintro e w3 ⟨rfl, hB3⟩
    have hBC := hBB.trans (hB3.mono hBB.size)
    have hall : ∀ o : Obj, (w3.alloc o).heap[w.heap.size]? = some (.cells #[.int .u8 a0, .int .u8 a1, .int .u8 a2, .int .u8 a3, .int .i64 m] 35) := fun o =>
      ((hB3.alloc hB3.size o).block _ (Array.getElem?_eq_some_iff.1 HT1.out).1).trans HT1.out
    have c0 : ∀ o, (w3.alloc o).cell? ⟨w.heap.size, 0, none⟩ = some (.int .u8 a0) := fun o => by simp [World.cell?, hall o]
    have c1 : ∀ o, (w3.alloc o).cell? ⟨w.heap.size, 1, none⟩ = some (.int .u8 a1) := fun o => by simp [World.cell?, hall o]
    have c2 : ∀ o, (w3.alloc o).cell? ⟨w.heap.size, 2, none⟩ = some (.int .u8 a2) := fun o => by simp [World.cell?, hall o]
    have c3 : ∀ o, (w3.alloc o).cell? ⟨w.heap.size, 3, none⟩ = some (.int .u8 a3) := fun o => by simp [World.cell?, hall o]
    have c4 : ∀ o, (w3.alloc o).cell? ⟨w.heap.size, 4, none⟩ = some (.int .i64 m) := fun o => by simp [World.cell?, hall o]
    clear hall k0 k1 k2 k3 k4 hB2 hB3 HC HU HT
    cases bb
    all_goals
      go_wp2
      go_ret2
      exact ⟨rfl, hBC.alloc hBC.size _⟩

end Go.Proofs.Ytabmkbhmgfneiaa
