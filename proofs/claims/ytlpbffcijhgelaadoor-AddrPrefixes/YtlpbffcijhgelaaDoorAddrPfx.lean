/-
  IPv4 prefixes: cut, which may be, which covers which.
-/
import Derived.Test.YtlpbffcijhgelaaDoorAddrCut
import Derived.Handy
namespace Go.Proofs.YtlpbffcijhgelaaDoor
open Go Go.RowKit
set_option linter.unusedVariables false
set_option linter.unusedSimpArgs false

/-- One byte whose bits behind the first n are 0. -/
def bl (z : Int) (n : Int) : Int := ((z.toNat &&& msk n : Nat) : Int)
theorem bl_fit (z n : Int) (h : 0 ≤ z ∧ z < 256) : 0 ≤ bl z n ∧ bl z n < 256 := by
  unfold bl
  have : z.toNat &&& msk n ≤ z.toNat := Nat.and_le_left
  omega

theorem blank4 (a0 a1 a2 a3 n : Int) : blankL [a0, a1, a2, a3] n 4 = [bl a0 n, bl a1 (n - 8), bl a2 (n - 16), bl a3 (n - 24)] := by
  simp [blankL, bl]

abbrev A4 (a0 a1 a2 a3 : Int) : Value := .agg #[.int .u8 a0, .int .u8 a1, .int .u8 a2, .int .u8 a3]
abbrev P4 (a0 a1 a2 a3 n : Int) : Value := .agg #[.int .u8 a0, .int .u8 a1, .int .u8 a2, .int .u8 a3, .int .i64 n]

theorem alloc_new (w : World) (o : Obj) : (w.alloc o).heap[w.heap.size]? = some o := by
  rw [← World.alloc_eq]
  simp
theorem alloc_new2 (w : World) (o o' : Obj) : ((w.alloc o).alloc o').heap[w.heap.size + 1]? = some o' := by
  have := alloc_new (w.alloc o) o'
  rwa [World.size_alloc] at this

theorem set_same {w : World} {a : Addr} {v : Value} (h : (w.cell? a).isSome = true) : (w.setCell a v).cell? a = some v := by
  cases hc : w.cell? a with
  | none => rw [hc] at h; cases h
  | some u => exact World.cell?_setCell_same _ _ _ hc
theorem set_some {w : World} {a p : Addr} {v : Value} (h : (w.cell? a).isSome = true) : ((w.setCell p v).cell? a).isSome = true := by
  cases hc : w.cell? a with
  | none => rw [hc] at h; cases h
  | some u => obtain ⟨v', hv⟩ := cell?_setCell_some (p := p) (x := v) hc; rw [hv]; rfl
theorem set_other {w : World} {b i j : Nat} {v u : Value} (h : i ≠ j) (hu : w.cell? ⟨b, i, none⟩ = some u) : (w.setCell ⟨b, j, none⟩ v).cell? ⟨b, i, none⟩ = some u := by
  rw [World.cell?_setCell_other _ _ _ _ (by intro e; injection e; omega)]
  exact hu
theorem set5 (w : World) (b : Nat) (v0 v1 v2 v3 v4 : Value) (h0 : (w.cell? ⟨b, 0, none⟩).isSome = true) (h1 : (w.cell? ⟨b, 1, none⟩).isSome = true) (h2 : (w.cell? ⟨b, 2, none⟩).isSome = true) (h3 : (w.cell? ⟨b, 3, none⟩).isSome = true) (h4 : (w.cell? ⟨b, 4, none⟩).isSome = true) :
    (((((w.setCell ⟨b, 0, none⟩ v0).setCell ⟨b, 1, none⟩ v1).setCell ⟨b, 2, none⟩ v2).setCell ⟨b, 3, none⟩ v3).setCell ⟨b, 4, none⟩ v4).cell? ⟨b, 0, none⟩ = some v0 ∧
    (((((w.setCell ⟨b, 0, none⟩ v0).setCell ⟨b, 1, none⟩ v1).setCell ⟨b, 2, none⟩ v2).setCell ⟨b, 3, none⟩ v3).setCell ⟨b, 4, none⟩ v4).cell? ⟨b, 1, none⟩ = some v1 ∧
    (((((w.setCell ⟨b, 0, none⟩ v0).setCell ⟨b, 1, none⟩ v1).setCell ⟨b, 2, none⟩ v2).setCell ⟨b, 3, none⟩ v3).setCell ⟨b, 4, none⟩ v4).cell? ⟨b, 2, none⟩ = some v2 ∧
    (((((w.setCell ⟨b, 0, none⟩ v0).setCell ⟨b, 1, none⟩ v1).setCell ⟨b, 2, none⟩ v2).setCell ⟨b, 3, none⟩ v3).setCell ⟨b, 4, none⟩ v4).cell? ⟨b, 3, none⟩ = some v3 ∧
    (((((w.setCell ⟨b, 0, none⟩ v0).setCell ⟨b, 1, none⟩ v1).setCell ⟨b, 2, none⟩ v2).setCell ⟨b, 3, none⟩ v3).setCell ⟨b, 4, none⟩ v4).cell? ⟨b, 4, none⟩ = some v4 := by
  refine ⟨?_, ?_, ?_, ?_, ?_⟩
  · exact set_other (by decide) (set_other (by decide) (set_other (by decide) (set_other (by decide) (set_same h0))))
  · exact set_other (by decide) (set_other (by decide) (set_other (by decide) (set_same (set_some h1))))
  · exact set_other (by decide) (set_other (by decide) (set_same (set_some (set_some h2))))
  · exact set_other (by decide) (set_same (set_some (set_some (set_some h3))))
  · exact set_same (set_some (set_some (set_some (set_some h4))))

theorem loadP4 {w : World} {R : Nat} {v0 v1 v2 v3 v4 : Value} (d0 : w.cell? ⟨R, 0, none⟩ = some v0) (d1 : w.cell? ⟨R, 1, none⟩ = some v1) (d2 : w.cell? ⟨R, 2, none⟩ = some v2) (d3 : w.cell? ⟨R, 3, none⟩ = some v3) (d4 : w.cell? ⟨R, 4, none⟩ = some v4) :
    (loadVar 38 ⟨R, 0, none⟩).run Tryd.prog w = .ok (.agg #[v0, v1, v2, v3, v4]) w := by
  simp [loadVar, go_sem, d0, d1, d2, d3, d4]
theorem res_cell1 {P : Program} {fn : Func} {a : Tmp} {t : TypeId} (h : fn.results = #[.cell a t]) {tmps : Array Value} {R : Addr} (hp : tmps.getD a undef = .pointer (some R)) {v : Value} {w : World} (hl : (loadVar t R).run P w = .ok v w) :
    (results fn tmps).run P w = .ok v w := by
  rw [Array.getD_eq_getD_getElem?] at hp
  simp [results, h, hp, asAddr, hl]
theorem res_cell2 {P : Program} {fn : Func} {a b : Tmp} {t : TypeId} (h : fn.results = #[.cell a t, .tmp b]) {tmps : Array Value} {R : Addr} (hp : tmps.getD a undef = .pointer (some R)) {v : Value} {w : World} (hl : (loadVar t R).run P w = .ok v w) :
    (results fn tmps).run P w = .ok (.tuple #[v, tmps.getD b undef]) w := by
  rw [Array.getD_eq_getD_getElem?] at hp
  simp [results, h, hp, asAddr, hl]

theorem fit4 {a0 a1 a2 a3 : Int} (h0 : 0 ≤ a0 ∧ a0 < 256) (h1 : 0 ≤ a1 ∧ a1 < 256) (h2 : 0 ≤ a2 ∧ a2 < 256) (h3 : 0 ≤ a3 ∧ a3 < 256) : FitB [a0, a1, a2, a3] := by
  intro z hz
  simp at hz
  rcases hz with rfl | rfl | rfl | rfl <;> assumption

set_option maxHeartbeats 2000000 in
set_option maxRecDepth 100000 in
theorem cut4_calls (a0 a1 a2 a3 n : Int) (w : World) (h0 : 0 ≤ a0 ∧ a0 < 256) (h1 : 0 ≤ a1 ∧ a1 < 256) (h2 : 0 ≤ a2 ∧ a2 < 256) (h3 : 0 ≤ a3 ∧ a3 < 256) (hn : 0 ≤ n ∧ n ≤ 128) :
    Calls Tryd.prog 67 #[A4 a0 a1 a2 a3, .int .i64 n] w fun e w' => e = .returned (P4 (bl a0 n) (bl a1 (n - 8)) (bl a2 (n - 16)) (bl a3 (n - 24)) n) ∧ Below w.heap.size w w' := by
  go_enter Tryd.func67, Tryd.ntmps67
  go_wp2_with fail
  have hG : OwnG ((w.alloc (.cells #[.int .u8 a0, .int .u8 a1, .int .u8 a2, .int .u8 a3] 23)).alloc (.cells #[.int .u8 0, .int .u8 0, .int .u8 0, .int .u8 0, .int .i64 0] 38)) w.heap.size [a0, a1, a2, a3] := by
    have e1 : ((w.alloc (.cells #[.int .u8 a0, .int .u8 a1, .int .u8 a2, .int .u8 a3] 23)).alloc (.cells #[.int .u8 0, .int .u8 0, .int .u8 0, .int .u8 0, .int .i64 0] 38)).heap[w.heap.size]? = some (.cells #[.int .u8 a0, .int .u8 a1, .int .u8 a2, .int .u8 a3] 23) := by
      rw [Below.heap_alloc _ _ _ (by simp)]
      exact alloc_new _ _
    refine ⟨⟨_, _, e1⟩, fun j hj => ?_⟩
    simp only [World.cell?, e1]
    match j, hj with
    | 0, _ => rfl
    | 1, _ => rfl
    | 2, _ => rfl
    | 3, _ => rfl
    | n + 4, hj => simp at hj; omega
  have hR : ((w.alloc (.cells #[.int .u8 a0, .int .u8 a1, .int .u8 a2, .int .u8 a3] 23)).alloc (.cells #[.int .u8 0, .int .u8 0, .int .u8 0, .int .u8 0, .int .i64 0] 38)).heap[w.heap.size + 1]? = some (.cells #[.int .u8 0, .int .u8 0, .int .u8 0, .int .u8 0, .int .i64 0] 38) := alloc_new2 _ _ _
  have hB : Below w.heap.size w ((w.alloc (.cells #[.int .u8 a0, .int .u8 a1, .int .u8 a2, .int .u8 a3] 23)).alloc (.cells #[.int .u8 0, .int .u8 0, .int .u8 0, .int .u8 0, .int .i64 0] 38)) := ((Below.refl _ w).alloc (Nat.le_refl _) _).alloc (by simp) _
  generalize (w.alloc (.cells #[.int .u8 a0, .int .u8 a1, .int .u8 a2, .int .u8 a3] 23)).alloc (.cells #[.int .u8 0, .int .u8 0, .int .u8 0, .int .u8 0, .int .i64 0] 38) = w1 at *
  refine (blank_calls w.heap.size 4 [a0, a1, a2, a3] n w1 (fit4 h0 h1 h2 h3) (by simp) hn hG).mono ?_
  rintro e w2 ⟨rfl, hG2, hO⟩
  have hR2 := (hO.other (w.heap.size + 1) (by omega)).trans hR
  have hB2 := hB.trans (hO.below (Nat.le_refl _))
  rw [show [a0, a1, a2, a3].length = 4 from rfl, blank4] at hG2
  have c0 := hG2.cell 0 (by simp)
  have c1 := hG2.cell 1 (by simp)
  have c2 := hG2.cell 2 (by simp)
  have c3 := hG2.cell 3 (by simp)
  simp only [List.getElem?_cons_zero, List.getElem?_cons_succ, Option.getD_some] at c0 c1 c2 c3
  have hfz : ∀ i, w2.frozen? ⟨w.heap.size + 1, i, none⟩ = false := fun i => by simp [World.frozen?, hR2]
  have r0 : w2.cell? ⟨w.heap.size + 1, 0, none⟩ = some (.int .u8 0) := by simp [World.cell?, hR2]
  have r1 : w2.cell? ⟨w.heap.size + 1, 1, none⟩ = some (.int .u8 0) := by simp [World.cell?, hR2]
  have r2 : w2.cell? ⟨w.heap.size + 1, 2, none⟩ = some (.int .u8 0) := by simp [World.cell?, hR2]
  have r3 : w2.cell? ⟨w.heap.size + 1, 3, none⟩ = some (.int .u8 0) := by simp [World.cell?, hR2]
  have r4 : w2.cell? ⟨w.heap.size + 1, 4, none⟩ = some (.int .i64 0) := by simp [World.cell?, hR2]
  generalize hx0 : bl a0 n = x0 at *
  have HX0 : Hid _ := hx0
  clear hx0
  generalize hx1 : bl a1 (n - 8) = x1 at *
  have HX1 : Hid _ := hx1
  clear hx1
  generalize hx2 : bl a2 (n - 16) = x2 at *
  have HX2 : Hid _ := hx2
  clear hx2
  generalize hx3 : bl a3 (n - 24) = x3 at *
  have HX3 : Hid _ := hx3
  clear hx3
  clear hR hR2 hG hG2 hB hO
  go_wp2
  obtain ⟨d0, d1, d2, d3, d4⟩ := set5 w2 (w.heap.size + 1) (.int .u8 x0) (.int .u8 x1) (.int .u8 x2) (.int .u8 x3) (.int .i64 n) (by rw [r0]; rfl) (by rw [r1]; rfl) (by rw [r2]; rfl) (by rw [r3]; rfl) (by rw [r4]; rfl)
  have hB3 := hB2.trans (((((((Only.refl (w.heap.size + 1) w2).set 0 (.int .u8 x0)).set 1 (.int .u8 x1)).set 2 (.int .u8 x2)).set 3 (.int .u8 x3)).set 4 (.int .i64 n)).below (show w.heap.size ≤ w.heap.size + 1 by omega))
  generalize ((((w2.setCell ⟨w.heap.size + 1, 0, none⟩ (.int .u8 x0)).setCell ⟨w.heap.size + 1, 1, none⟩ (.int .u8 x1)).setCell ⟨w.heap.size + 1, 2, none⟩ (.int .u8 x2)).setCell ⟨w.heap.size + 1, 3, none⟩ (.int .u8 x3)).setCell ⟨w.heap.size + 1, 4, none⟩ (.int .i64 n) = w5 at *
  clear r0 r1 r2 r3 r4 c0 c1 c2 c3 hfz hB2
  refine bodyPost_ret (res_cell1 rfl rfl (loadP4 d0 d1 d2 d3 d4)) rfl ?_
  refine ⟨?_, hB3⟩
  rw [HX0.out, HX1.out, HX2.out, HX3.out]

end Go.Proofs.YtlpbffcijhgelaaDoor
