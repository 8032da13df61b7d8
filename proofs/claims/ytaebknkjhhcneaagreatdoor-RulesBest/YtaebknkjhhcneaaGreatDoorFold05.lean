/-
  IPv4 prefixes: cut, which may be, which covers which.
  IPv4 prefixes: Cut4, Check4 of the program.
  Two addresses are the same byte by byte.
  IPv4 prefixes: Check4 of the program.
-/
import Derived.Test.YtaebknkjhhcneaaGreatDoorFold04
import Derived.Handy
import Derived.Stop.BytesEq
namespace Go.Proofs.YtaebknkjhhcneaaGreatDoor
open Go Go.RowKit
set_option linter.unusedVariables false
set_option linter.unusedSimpArgs false

/-- One byte whose bits behind the first n are 0. -/
def bl (z : Int) (n : Int) : Int := ((z.toNat &&& msk n : Nat) : Int)
theorem bl_fit (z n : Int) (h : 0 ≤ z ∧ z < 256) : 0 ≤ bl z n ∧ bl z n < 256 := by
  unfold bl
  have : z.toNat &&& msk n ≤ z.toNat := Nat.and_le_left
  omega

theorem blank4 (a0 a1 a2 a3 n : Int) : blankL [a0, a1, a2, a3] n 4 = [bl a0 n, bl a1 (n - 8), bl a2 (n - 16), bl a3 (n - 24)] := by
  simp [blankL, bl]

abbrev A4 (a0 a1 a2 a3 : Int) : Value := .agg #[.int .u8 a0, .int .u8 a1, .int .u8 a2, .int .u8 a3]
abbrev P4 (a0 a1 a2 a3 n : Int) : Value := .agg #[.int .u8 a0, .int .u8 a1, .int .u8 a2, .int .u8 a3, .int .i64 n]

theorem alloc_new (w : World) (o : Obj) : (w.alloc o).heap[w.heap.size]? = some o := by
  rw [← World.alloc_eq]
  simp
theorem alloc_new2 (w : World) (o o' : Obj) : ((w.alloc o).alloc o').heap[w.heap.size + 1]? = some o' := by
  have := alloc_new (w.alloc o) o'
  rwa [World.size_alloc] at this

theorem set_same {w : World} {a : Addr} {v : Value} (h : (w.cell? a).isSome = true) : (w.setCell a v).cell? a = some v := by
  cases hc : w.cell? a with
  | none => rw [hc] at h; cases h
  | some u => exact World.cell?_setCell_same _ _ _ hc
theorem set_some {w : World} {a p : Addr} {v : Value} (h : (w.cell? a).isSome = true) : ((w.setCell p v).cell? a).isSome = true := by
  cases hc : w.cell? a with
  | none => rw [hc] at h; cases h
  | some u => obtain ⟨v', hv⟩ := cell?_setCell_some (p := p) (x := v) hc; rw [hv]; rfl
theorem set_other {w : World} {b i j : Nat} {v u : Value} (h : i ≠ j) (hu : w.cell? ⟨b, i, none⟩ = some u) : (w.setCell ⟨b, j, none⟩ v).cell? ⟨b, i, none⟩ = some u := by
  rw [World.cell?_setCell_other _ _ _ _ (by intro e; injection e; omega)]
  exact hu
theorem set5 (w : World) (b : Nat) (v0 v1 v2 v3 v4 : Value) (h0 : (w.cell? ⟨b, 0, none⟩).isSome = true) (h1 : (w.cell? ⟨b, 1, none⟩).isSome = true) (h2 : (w.cell? ⟨b, 2, none⟩).isSome = true) (h3 : (w.cell? ⟨b, 3, none⟩).isSome = true) (h4 : (w.cell? ⟨b, 4, none⟩).isSome = true) :
    (((((w.setCell ⟨b, 0, none⟩ v0).setCell ⟨b, 1, none⟩ v1).setCell ⟨b, 2, none⟩ v2).setCell ⟨b, 3, none⟩ v3).setCell ⟨b, 4, none⟩ v4).cell? ⟨b, 0, none⟩ = some v0 ∧
    (((((w.setCell ⟨b, 0, none⟩ v0).setCell ⟨b, 1, none⟩ v1).setCell ⟨b, 2, none⟩ v2).setCell ⟨b, 3, none⟩ v3).setCell ⟨b, 4, none⟩ v4).cell? ⟨b, 1, none⟩ = some v1 ∧
    (((((w.setCell ⟨b, 0, none⟩ v0).setCell ⟨b, 1, none⟩ v1).setCell ⟨b, 2, none⟩ v2).setCell ⟨b, 3, none⟩ v3).setCell ⟨b, 4, none⟩ v4).cell? ⟨b, 2, none⟩ = some v2 ∧
    (((((w.setCell ⟨b, 0, none⟩ v0).setCell ⟨b, 1, none⟩ v1).setCell ⟨b, 2, none⟩ v2).setCell ⟨b, 3, none⟩ v3).setCell ⟨b, 4, none⟩ v4).cell? ⟨b, 3, none⟩ = some v3 ∧
    (((((w.setCell ⟨b, 0, none⟩ v0).setCell ⟨b, 1, none⟩ v1).setCell ⟨b, 2, none⟩ v2).setCell ⟨b, 3, none⟩ v3).setCell ⟨b, 4, none⟩ v4).cell? ⟨b, 4, none⟩ = some v4 := by
  refine ⟨?_, ?_, ?_, ?_, ?_⟩
  · exact set_other (by decide) (set_other (by decide) (set_other (by decide) (set_other (by decide) (set_same h0))))
  · exact set_other (by decide) (set_other (by decide) (set_other (by decide) (set_same (set_some h1))))
  · exact set_other (by decide) (set_other (by decide) (set_same (set_some (set_some h2))))
  · exact set_other (by decide) (set_same (set_some (set_some (set_some h3))))
  · exact set_same (set_some (set_some (set_some (set_some h4))))

theorem loadP4 {w : World} {R : Nat} {v0 v1 v2 v3 v4 : Value} (d0 : w.cell? ⟨R, 0, none⟩ = some v0) (d1 : w.cell? ⟨R, 1, none⟩ = some v1) (d2 : w.cell? ⟨R, 2, none⟩ = some v2) (d3 : w.cell? ⟨R, 3, none⟩ = some v3) (d4 : w.cell? ⟨R, 4, none⟩ = some v4) :
    (loadVar 63 ⟨R, 0, none⟩).run Tryz.prog w = .ok (.agg #[v0, v1, v2, v3, v4]) w := by
  simp [loadVar, go_sem, d0, d1, d2, d3, d4]
theorem res_cell1 {P : Program} {fn : Func} {a : Tmp} {t : TypeId} (h : fn.results = #[.cell a t]) {tmps : Array Value} {R : Addr} (hp : tmps.getD a undef = .pointer (some R)) {v : Value} {w : World} (hl : (loadVar t R).run P w = .ok v w) :
    (results fn tmps).run P w = .ok v w := by
  rw [Array.getD_eq_getD_getElem?] at hp
  simp [results, h, hp, asAddr, hl]
theorem res_cell2 {P : Program} {fn : Func} {a b : Tmp} {t : TypeId} (h : fn.results = #[.cell a t, .tmp b]) {tmps : Array Value} {R : Addr} (hp : tmps.getD a undef = .pointer (some R)) {v : Value} {w : World} (hl : (loadVar t R).run P w = .ok v w) :
    (results fn tmps).run P w = .ok (.tuple #[v, tmps.getD b undef]) w := by
  rw [Array.getD_eq_getD_getElem?] at hp
  simp [results, h, hp, asAddr, hl]

theorem fit4 {a0 a1 a2 a3 : Int} (h0 : 0 ≤ a0 ∧ a0 < 256) (h1 : 0 ≤ a1 ∧ a1 < 256) (h2 : 0 ≤ a2 ∧ a2 < 256) (h3 : 0 ≤ a3 ∧ a3 < 256) : FitB [a0, a1, a2, a3] := by
  intro z hz
  simp at hz
  rcases hz with rfl | rfl | rfl | rfl <;> assumption

set_option maxHeartbeats 2000000 in
set_option maxRecDepth 100000 in
theorem cut4_calls (a0 a1 a2 a3 n : Int) (w : World) (h0 : 0 ≤ a0 ∧ a0 < 256) (h1 : 0 ≤ a1 ∧ a1 < 256) (h2 : 0 ≤ a2 ∧ a2 < 256) (h3 : 0 ≤ a3 ∧ a3 < 256) (hn : 0 ≤ n ∧ n ≤ 128) :
    Calls Tryz.prog 134 #[A4 a0 a1 a2 a3, .int .i64 n] w fun e w' => e = .returned (P4 (bl a0 n) (bl a1 (n - 8)) (bl a2 (n - 16)) (bl a3 (n - 24)) n) ∧ Below w.heap.size w w' := by
  go_enter Tryz.func134, Tryz.ntmps134
  go_wp2_with fail
  have hG : OwnG ((w.alloc (.cells #[.int .u8 a0, .int .u8 a1, .int .u8 a2, .int .u8 a3] 61)).alloc (.cells #[.int .u8 0, .int .u8 0, .int .u8 0, .int .u8 0, .int .i64 0] 63)) w.heap.size [a0, a1, a2, a3] := by
    have e1 : ((w.alloc (.cells #[.int .u8 a0, .int .u8 a1, .int .u8 a2, .int .u8 a3] 61)).alloc (.cells #[.int .u8 0, .int .u8 0, .int .u8 0, .int .u8 0, .int .i64 0] 63)).heap[w.heap.size]? = some (.cells #[.int .u8 a0, .int .u8 a1, .int .u8 a2, .int .u8 a3] 61) := by
      rw [Below.heap_alloc _ _ _ (by simp)]
      exact alloc_new _ _
    refine ⟨⟨_, _, e1⟩, fun j hj => ?_⟩
    simp only [World.cell?, e1]
    match j, hj with
    | 0, _ => rfl
    | 1, _ => rfl
    | 2, _ => rfl
    | 3, _ => rfl
    | n + 4, hj => simp at hj; omega
  have hR : ((w.alloc (.cells #[.int .u8 a0, .int .u8 a1, .int .u8 a2, .int .u8 a3] 61)).alloc (.cells #[.int .u8 0, .int .u8 0, .int .u8 0, .int .u8 0, .int .i64 0] 63)).heap[w.heap.size + 1]? = some (.cells #[.int .u8 0, .int .u8 0, .int .u8 0, .int .u8 0, .int .i64 0] 63) := alloc_new2 _ _ _
  have hB : Below w.heap.size w ((w.alloc (.cells #[.int .u8 a0, .int .u8 a1, .int .u8 a2, .int .u8 a3] 61)).alloc (.cells #[.int .u8 0, .int .u8 0, .int .u8 0, .int .u8 0, .int .i64 0] 63)) := ((Below.refl _ w).alloc (Nat.le_refl _) _).alloc (by simp) _
  generalize (w.alloc (.cells #[.int .u8 a0, .int .u8 a1, .int .u8 a2, .int .u8 a3] 61)).alloc (.cells #[.int .u8 0, .int .u8 0, .int .u8 0, .int .u8 0, .int .i64 0] 63) = w1 at *
  refine (blank_calls w.heap.size 4 [a0, a1, a2, a3] n w1 (fit4 h0 h1 h2 h3) (by simp) hn hG).mono ?_
  rintro e w2 ⟨rfl, hG2, hO⟩
  have hR2 := (hO.other (w.heap.size + 1) (by omega)).trans hR
  have hB2 := hB.trans (hO.below (Nat.le_refl _))
  rw [show [a0, a1, a2, a3].length = 4 from rfl, blank4] at hG2
  have c0 := hG2.cell 0 (by simp)
  have c1 := hG2.cell 1 (by simp)
  have c2 := hG2.cell 2 (by simp)
  have c3 := hG2.cell 3 (by simp)
  simp only [List.getElem?_cons_zero, List.getElem?_cons_succ, Option.getD_some] at c0 c1 c2 c3
  have hfz : ∀ i, w2.frozen? ⟨w.heap.size + 1, i, none⟩ = false := fun i => by simp [World.frozen?, hR2]
  have r0 : w2.cell? ⟨w.heap.size + 1, 0, none⟩ = some (.int .u8 0) := by simp [World.cell?, hR2]
  have r1 : w2.cell? ⟨w.heap.size + 1, 1, none⟩ = some (.int .u8 0) := by simp [World.cell?, hR2]
  have r2 : w2.cell? ⟨w.heap.size + 1, 2, none⟩ = some (.int .u8 0) := by simp [World.cell?, hR2]
  have r3 : w2.cell? ⟨w.heap.size + 1, 3, none⟩ = some (.int .u8 0) := by simp [World.cell?, hR2]
  have r4 : w2.cell? ⟨w.heap.size + 1, 4, none⟩ = some (.int .i64 0) := by simp [World.cell?, hR2]
  generalize hx0 : bl a0 n = x0 at *
  have HX0 : Hid _ := hx0
  clear hx0
  generalize hx1 : bl a1 (n - 8) = x1 at *
  have HX1 : Hid _ := hx1
  clear hx1
  generalize hx2 : bl a2 (n - 16) = x2 at *
  have HX2 : Hid _ := hx2
  clear hx2
  generalize hx3 : bl a3 (n - 24) = x3 at *
  have HX3 : Hid _ := hx3
  clear hx3
  clear hR hR2 hG hG2 hB hO
  go_wp2
  obtain ⟨d0, d1, d2, d3, d4⟩ := set5 w2 (w.heap.size + 1) (.int .u8 x0) (.int .u8 x1) (.int .u8 x2) (.int .u8 x3) (.int .i64 n) (by rw [r0]; rfl) (by rw [r1]; rfl) (by rw [r2]; rfl) (by rw [r3]; rfl) (by rw [r4]; rfl)
  have hB3 := hB2.trans (((((((Only.refl (w.heap.size + 1) w2).set 0 (.int .u8 x0)).set 1 (.int .u8 x1)).set 2 (.int .u8 x2)).set 3 (.int .u8 x3)).set 4 (.int .i64 n)).below (show w.heap.size ≤ w.heap.size + 1 by omega))
  generalize ((((w2.setCell ⟨w.heap.size + 1, 0, none⟩ (.int .u8 x0)).setCell ⟨w.heap.size + 1, 1, none⟩ (.int .u8 x1)).setCell ⟨w.heap.size + 1, 2, none⟩ (.int .u8 x2)).setCell ⟨w.heap.size + 1, 3, none⟩ (.int .u8 x3)).setCell ⟨w.heap.size + 1, 4, none⟩ (.int .i64 n) = w5 at *
  clear r0 r1 r2 r3 r4 c0 c1 c2 c3 hfz hB2
  refine bodyPost_ret (res_cell1 rfl rfl (loadP4 d0 d1 d2 d3 d4)) rfl ?_
  refine ⟨?_, hB3⟩
  rw [HX0.out, HX1.out, HX2.out, HX3.out]

end Go.Proofs.YtaebknkjhhcneaaGreatDoor

namespace Go.Proofs.YtaebknkjhhcneaaGreatDoor
open Go Go.RowKit
set_option linter.unusedVariables false
set_option linter.unusedSimpArgs false

/-- A prefix as numbers. -/
structure Pf where
  a0 : Int
  a1 : Int
  a2 : Int
  a3 : Int
  n : Int
deriving DecidableEq
def Pf.val (p : Pf) : Value := .agg #[.int .u8 p.a0, .int .u8 p.a1, .int .u8 p.a2, .int .u8 p.a3, .int .i64 p.n]
def Pf.adr (p : Pf) : Value := .agg #[.int .u8 p.a0, .int .u8 p.a1, .int .u8 p.a2, .int .u8 p.a3]
structure Pf.Ok (p : Pf) : Prop where
  h0 : 0 ≤ p.a0 ∧ p.a0 < 256
  h1 : 0 ≤ p.a1 ∧ p.a1 < 256
  h2 : 0 ≤ p.a2 ∧ p.a2 < 256
  h3 : 0 ≤ p.a3 ∧ p.a3 < 256
  hn : -9223372036854775808 ≤ p.n ∧ p.n ≤ 9223372036854775807
def cutP (p : Pf) (n : Int) : Pf := ⟨bl p.a0 n, bl p.a1 (n - 8), bl p.a2 (n - 16), bl p.a3 (n - 24), n⟩
def inR (n : Int) : Bool := decide (0 ≤ n) && decide (n ≤ 32)
/-- May the prefix be? -/
def okP (p : Pf) : Bool := inR p.n && decide (p = cutP p p.n)

/-- A block for a prefix, in every world above. -/
structure Slot (w : World) (R : Nat) : Prop where
  fz : ∀ i, w.frozen? ⟨R, i, none⟩ = false
  r0 : w.cell? ⟨R, 0, none⟩ = some (.int .u8 0)
  r1 : w.cell? ⟨R, 1, none⟩ = some (.int .u8 0)
  r2 : w.cell? ⟨R, 2, none⟩ = some (.int .u8 0)
  r3 : w.cell? ⟨R, 3, none⟩ = some (.int .u8 0)
  r4 : w.cell? ⟨R, 4, none⟩ = some (.int .i64 0)
theorem Slot.of {w w' : World} {R : Nat} (h : w.heap[R]? = some (.cells #[.int .u8 0, .int .u8 0, .int .u8 0, .int .u8 0, .int .i64 0] 63)) (hb : Below w.heap.size w w') : Slot w' R := by
  have h' := (hb.block R (Array.getElem?_eq_some_iff.1 h).1).trans h
  exact ⟨fun i => by simp [World.frozen?, h'], by simp [World.cell?, h'], by simp [World.cell?, h'], by simp [World.cell?, h'], by simp [World.cell?, h'], by simp [World.cell?, h']⟩

set_option maxHeartbeats 2000000 in
set_option maxRecDepth 100000 in
theorem Cut4_yes (a0 a1 a2 a3 n : Int) (w : World) (h0 : 0 ≤ a0 ∧ a0 < 256) (h1 : 0 ≤ a1 ∧ a1 < 256) (h2 : 0 ≤ a2 ∧ a2 < 256) (h3 : 0 ≤ a3 ∧ a3 < 256) (hn : 0 ≤ n ∧ n ≤ 32) :
    Calls Tryz.prog 107 #[A4 a0 a1 a2 a3, .int .i64 n] w fun e w' => e = .returned (.tuple #[P4 (bl a0 n) (bl a1 (n - 8)) (bl a2 (n - 16)) (bl a3 (n - 24)) n, .int .i64 0]) ∧ Below w.heap.size w w' := by
  have hB : Below w.heap.size w ((w.alloc (.cells #[.int .u8 a0, .int .u8 a1, .int .u8 a2, .int .u8 a3] 61)).alloc (.cells #[.int .u8 0, .int .u8 0, .int .u8 0, .int .u8 0, .int .i64 0] 63)) := ((Below.refl _ w).alloc (Nat.le_refl _) _).alloc (by simp) _
  have hR : ((w.alloc (.cells #[.int .u8 a0, .int .u8 a1, .int .u8 a2, .int .u8 a3] 61)).alloc (.cells #[.int .u8 0, .int .u8 0, .int .u8 0, .int .u8 0, .int .i64 0] 63)).heap[w.heap.size + 1]? = some (.cells #[.int .u8 0, .int .u8 0, .int .u8 0, .int .u8 0, .int .i64 0] 63) := alloc_new2 _ _ _
  have hcut := cut4_calls a0 a1 a2 a3 n ((w.alloc (.cells #[.int .u8 a0, .int .u8 a1, .int .u8 a2, .int .u8 a3] 61)).alloc (.cells #[.int .u8 0, .int .u8 0, .int .u8 0, .int .u8 0, .int .i64 0] 63)) h0 h1 h2 h3 (by omega)
  have HC : Hid _ := hcut
  have HR : Hid _ := hR
  have HB : Hid _ := hB
  clear hcut hR hB
  go_enter Tryz.func107, Tryz.ntmps107
  go_wp2_with fail
  refine Calls.mono HC.out ?_
  rintro e w2 ⟨rfl, hB2⟩
  obtain ⟨hfz, r0, r1, r2, r3, r4⟩ := Slot.of HR.out hB2
  have hBB := HB.out.trans (hB2.mono HB.out.size)
  clear HC HR HB hB2
  generalize hx0 : bl a0 n = x0 at *
  generalize hx1 : bl a1 (n - 8) = x1 at *
  generalize hx2 : bl a2 (n - 16) = x2 at *
  generalize hx3 : bl a3 (n - 24) = x3 at *
  have HX0 : Hid _ := hx0
  have HX1 : Hid _ := hx1
  have HX2 : Hid _ := hx2
  have HX3 : Hid _ := hx3
  clear hx0 hx1 hx2 hx3
  go_wp2
  obtain ⟨d0, d1, d2, d3, d4⟩ := set5 w2 (w.heap.size + 1) (.int .u8 x0) (.int .u8 x1) (.int .u8 x2) (.int .u8 x3) (.int .i64 n) (by rw [r0]; rfl) (by rw [r1]; rfl) (by rw [r2]; rfl) (by rw [r3]; rfl) (by rw [r4]; rfl)
  have hB3 := hBB.trans (((((((Only.refl (w.heap.size + 1) w2).set 0 (.int .u8 x0)).set 1 (.int .u8 x1)).set 2 (.int .u8 x2)).set 3 (.int .u8 x3)).set 4 (.int .i64 n)).below (show w.heap.size ≤ w.heap.size + 1 by omega))
  generalize ((((w2.setCell ⟨w.heap.size + 1, 0, none⟩ (.int .u8 x0)).setCell ⟨w.heap.size + 1, 1, none⟩ (.int .u8 x1)).setCell ⟨w.heap.size + 1, 2, none⟩ (.int .u8 x2)).setCell ⟨w.heap.size + 1, 3, none⟩ (.int .u8 x3)).setCell ⟨w.heap.size + 1, 4, none⟩ (.int .i64 n) = w5 at *
  refine bodyPost_ret (res_cell2 rfl rfl (loadP4 d0 d1 d2 d3 d4)) rfl ?_
  refine ⟨?_, hB3⟩
  rw [HX0.out, HX1.out, HX2.out, HX3.out]
  rfl

set_option maxHeartbeats 2000000 in
set_option maxRecDepth 100000 in
theorem Cut4_no (a0 a1 a2 a3 n : Int) (w : World) (hn : n < 0 ∨ 32 < n) (hb : -9223372036854775808 ≤ n ∧ n ≤ 9223372036854775807) :
    Calls Tryz.prog 107 #[A4 a0 a1 a2 a3, .int .i64 n] w fun e w' => e = .returned (.tuple #[P4 0 0 0 0 0, .int .i64 5]) ∧ Below w.heap.size w w' := by
  have hB : Below w.heap.size w ((w.alloc (.cells #[.int .u8 a0, .int .u8 a1, .int .u8 a2, .int .u8 a3] 61)).alloc (.cells #[.int .u8 0, .int .u8 0, .int .u8 0, .int .u8 0, .int .i64 0] 63)) := ((Below.refl _ w).alloc (Nat.le_refl _) _).alloc (by simp) _
  have hR : ((w.alloc (.cells #[.int .u8 a0, .int .u8 a1, .int .u8 a2, .int .u8 a3] 61)).alloc (.cells #[.int .u8 0, .int .u8 0, .int .u8 0, .int .u8 0, .int .i64 0] 63)).heap[w.heap.size + 1]? = some (.cells #[.int .u8 0, .int .u8 0, .int .u8 0, .int .u8 0, .int .i64 0] 63) := alloc_new2 _ _ _
  obtain ⟨hfz, r0, r1, r2, r3, r4⟩ := Slot.of hR (Below.refl _ _)
  have hl := loadP4 r0 r1 r2 r3 r4
  have HL : Hid _ := hl
  clear hl hR hfz r0 r1 r2 r3 r4
  rcases hn with hn | hn
  all_goals
    go_enter Tryz.func107, Tryz.ntmps107
    go_wp2
    exact bodyPost_ret (res_cell2 rfl rfl HL.out) rfl ⟨rfl, hB⟩

end Go.Proofs.YtaebknkjhhcneaaGreatDoor

namespace Go.Proofs.YtaebknkjhhcneaaGreatDoor
open Go Go.RowKit
set_option linter.unusedVariables false
set_option linter.unusedSimpArgs false

theorem u8_back (z : Int) (h : 0 ≤ z ∧ z < 256) : (((UInt8.ofNat z.toNat).toNat : Nat) : Int) = z := by
  have : z.toNat % 256 = z.toNat := Nat.mod_eq_of_lt (by omega)
  simp only [UInt8.toNat_ofNat', this]
  omega
theorem cells_back (zs : List Int) (h : FitB zs) : (zs.map (fun z => UInt8.ofNat z.toNat)).map (fun u => Value.int .u8 (u.toNat : Int)) = zs.map (fun z => Value.int .u8 z) := by
  rw [List.map_map]
  refine List.map_congr_left fun z hz => ?_
  simp only [Function.comp_apply, u8_back z (h z hz)]
theorem bytes_inj (zs ys : List Int) (h : FitB zs) (g : FitB ys) : ((zs.map (fun z => UInt8.ofNat z.toNat)) == (ys.map (fun z => UInt8.ofNat z.toNat))) = decide (zs = ys) := by
  rw [Bool.eq_iff_iff]
  simp only [beq_iff_eq, decide_eq_true_eq]
  constructor
  · intro e
    have e2 := congrArg (List.map (fun u : UInt8 => ((u.toNat : Nat) : Int))) e
    rw [List.map_map, List.map_map] at e2
    have q1 : zs.map ((fun u : UInt8 => ((u.toNat : Nat) : Int)) ∘ fun z => UInt8.ofNat z.toNat) = zs := by
      conv => rhs; rw [← List.map_id zs]
      exact List.map_congr_left fun z hz => u8_back z (h z hz)
    have q2 : ys.map ((fun u : UInt8 => ((u.toNat : Nat) : Int)) ∘ fun z => UInt8.ofNat z.toNat) = ys := by
      conv => rhs; rw [← List.map_id ys]
      exact List.map_congr_left fun z hz => u8_back z (g z hz)
    rw [q1, q2] at e2
    exact e2
  · intro e; rw [e]

theorem eq_arr4 (d : Nat) (zs ys : List Int) (h : FitB zs) (g : FitB ys) (hl : zs.length = 4) (gl : ys.length = 4) (W : World) :
    (Op.equalIn (d + 2) 61 (.agg (zs.map (fun z => Value.int .u8 z)).toArray) (.agg (ys.map (fun z => Value.int .u8 z)).toArray)).run Tryz.prog W = .ok (decide (zs = ys)) W := by
  have := run_equalIn_bytes (P := Tryz.prog) W d 61 5 4 Tryz.underlying61 Tryz.underlying5 (fun w => by simp [go_sem]) (zs.map (fun z => UInt8.ofNat z.toNat)) (ys.map (fun z => UInt8.ofNat z.toNat)) (by simpa using hl) (by simpa using gl)
  rw [bytes_inj zs ys h g] at this
  have e1 := cells_back zs h
  have e2 := cells_back ys g
  rw [← e1, ← e2]
  exact this

end Go.Proofs.YtaebknkjhhcneaaGreatDoor

namespace Go.Proofs.YtaebknkjhhcneaaGreatDoor
open Go Go.RowKit
set_option linter.unusedVariables false
set_option linter.unusedSimpArgs false

/-- May the prefix be? -/
def pL (a0 a1 a2 a3 n : Int) : List Int := [bl a0 n, bl a1 (n - 8), bl a2 (n - 16), bl a3 (n - 24)]
def okP4 (a0 a1 a2 a3 n : Int) : Bool := decide (0 ≤ n ∧ n ≤ 32) && decide ([a0, a1, a2, a3] = pL a0 a1 a2 a3 n)

theorem box5 (w : World) (v0 v1 v2 v3 v4 : Value) (t : TypeId) {w' : World} (hb : Below (w.alloc (.cells #[v0, v1, v2, v3, v4] t)).heap.size (w.alloc (.cells #[v0, v1, v2, v3, v4] t)) w') :
    (w'.cell? ⟨w.heap.size, 0, none⟩ = some v0 ∧ w'.cell? ⟨w.heap.size, 1, none⟩ = some v1 ∧ w'.cell? ⟨w.heap.size, 2, none⟩ = some v2 ∧ w'.cell? ⟨w.heap.size, 3, none⟩ = some v3 ∧ w'.cell? ⟨w.heap.size, 4, none⟩ = some v4) := by
  have h : w'.heap[w.heap.size]? = some (.cells #[v0, v1, v2, v3, v4] t) := (hb.block w.heap.size (by simp)).trans (alloc_new w _)
  exact ⟨by simp [World.cell?, h], by simp [World.cell?, h], by simp [World.cell?, h], by simp [World.cell?, h], by simp [World.cell?, h]⟩

set_option maxHeartbeats 2000000 in
set_option maxRecDepth 100000 in
theorem Check4_in (a0 a1 a2 a3 n : Int) (w : World) (h0 : 0 ≤ a0 ∧ a0 < 256) (h1 : 0 ≤ a1 ∧ a1 < 256) (h2 : 0 ≤ a2 ∧ a2 < 256) (h3 : 0 ≤ a3 ∧ a3 < 256) (hn : 0 ≤ n ∧ n ≤ 32) :
    Calls Tryz.prog 64 #[P4 a0 a1 a2 a3 n] w fun e w' => e = .returned (.int .i64 (if okP4 a0 a1 a2 a3 n then 0 else 22)) ∧ Below w.heap.size w w' := by
  have hB := (Below.refl w.heap.size w).alloc (Nat.le_refl _) (.cells #[.int .u8 a0, .int .u8 a1, .int .u8 a2, .int .u8 a3, .int .i64 n] 63)
  have hcut := Cut4_yes a0 a1 a2 a3 n (w.alloc (.cells #[.int .u8 a0, .int .u8 a1, .int .u8 a2, .int .u8 a3, .int .i64 n] 63)) h0 h1 h2 h3 hn
  have hok : okP4 a0 a1 a2 a3 n = decide ([a0, a1, a2, a3] = [bl a0 n, bl a1 (n - 8), bl a2 (n - 16), bl a3 (n - 24)]) := by
    unfold okP4 pL
    rw [decide_eq_true hn, Bool.true_and]
  rw [hok]
  have f0 := bl_fit a0 n h0
  have f1 := bl_fit a1 (n - 8) h1
  have f2 := bl_fit a2 (n - 16) h2
  have f3 := bl_fit a3 (n - 24) h3
  generalize bl a0 n = x0 at *
  generalize bl a1 (n - 8) = x1 at *
  generalize bl a2 (n - 16) = x2 at *
  generalize bl a3 (n - 24) = x3 at *
  have heq : ∀ W, (Op.equalIn 9999 61 (.agg #[.int .u8 a0, .int .u8 a1, .int .u8 a2, .int .u8 a3]) (.agg #[.int .u8 x0, .int .u8 x1, .int .u8 x2, .int .u8 x3])).run Tryz.prog W = .ok (decide ([a0, a1, a2, a3] = [x0, x1, x2, x3])) W :=
    fun W => eq_arr4 9997 [a0, a1, a2, a3] [x0, x1, x2, x3] (fit4 h0 h1 h2 h3) (fit4 f0 f1 f2 f3) rfl rfl W
  generalize decide ([a0, a1, a2, a3] = [x0, x1, x2, x3]) = bb at *
  have HC : Hid _ := hcut
  have HB : Hid _ := hB
  clear hcut hB hok
  go_enter Tryz.func64, Tryz.ntmps64
  go_wp2_with fail
  refine Calls.mono HC.out ?_
  rintro e w2 ⟨rfl, hB2⟩
  have hq := fun o => box5 w (.int .u8 a0) (.int .u8 a1) (.int .u8 a2) (.int .u8 a3) (.int .i64 n) 63 (hB2.alloc hB2.size o)
  have k0 := fun o => (hq o).1
  have k1 := fun o => (hq o).2.1
  have k2 := fun o => (hq o).2.2.1
  have k3 := fun o => (hq o).2.2.2.1
  have k4 := fun o => (hq o).2.2.2.2
  have hBB := HB.out.trans (hB2.mono HB.out.size)
  clear hq HC HB hB2
  cases bb
  all_goals
    go_wp2
    go_ret
    exact ⟨rfl, hBB.alloc hBB.size _⟩

set_option maxHeartbeats 2000000 in
set_option maxRecDepth 100000 in
theorem Check4_calls (a0 a1 a2 a3 n : Int) (w : World) (h0 : 0 ≤ a0 ∧ a0 < 256) (h1 : 0 ≤ a1 ∧ a1 < 256) (h2 : 0 ≤ a2 ∧ a2 < 256) (h3 : 0 ≤ a3 ∧ a3 < 256) (hb : -9223372036854775808 ≤ n ∧ n ≤ 9223372036854775807) :
    Calls Tryz.prog 64 #[P4 a0 a1 a2 a3 n] w fun e w' => e = .returned (.int .i64 (if okP4 a0 a1 a2 a3 n then 0 else 22)) ∧ Below w.heap.size w w' := by
  by_cases hn : 0 ≤ n ∧ n ≤ 32
  · exact Check4_in a0 a1 a2 a3 n w h0 h1 h2 h3 hn
  · have hok : okP4 a0 a1 a2 a3 n = false := by unfold okP4; rw [decide_eq_false hn, Bool.false_and]
    rw [hok]
    have hB := (Below.refl w.heap.size w).alloc (Nat.le_refl _) (.cells #[.int .u8 a0, .int .u8 a1, .int .u8 a2, .int .u8 a3, .int .i64 n] 63)
    have hcut := Cut4_no a0 a1 a2 a3 n (w.alloc (.cells #[.int .u8 a0, .int .u8 a1, .int .u8 a2, .int .u8 a3, .int .i64 n] 63)) (by omega) hb
    have HC : Hid _ := hcut
    have HB : Hid _ := hB
    clear hcut hB hok
    go_enter Tryz.func64, Tryz.ntmps64
    go_wp2_with fail
    refine Calls.mono HC.out ?_
    rintro e w2 ⟨rfl, hB2⟩
    have hBB := HB.out.trans (hB2.mono HB.out.size)
    clear HC HB hB2
    go_wp2
    go_ret
    exact ⟨rfl, hBB.alloc hBB.size _⟩

end Go.Proofs.YtaebknkjhhcneaaGreatDoor
