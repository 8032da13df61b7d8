/-
  IPv4 prefixes: Cut4, Check4 of the program.
-/
import Derived.Test.YtlpbffcijhgelaaDoorAddrPfx
namespace Go.Proofs.YtlpbffcijhgelaaDoor
open Go Go.RowKit
set_option linter.unusedVariables false
set_option linter.unusedSimpArgs false

/-- A prefix as numbers. -/
structure Pf where
  a0 : Int
  a1 : Int
  a2 : Int
  a3 : Int
  n : Int
deriving DecidableEq
def Pf.val (p : Pf) : Value := .agg #[.int .u8 p.a0, .int .u8 p.a1, .int .u8 p.a2, .int .u8 p.a3, .int .i64 p.n]
def Pf.adr (p : Pf) : Value := .agg #[.int .u8 p.a0, .int .u8 p.a1, .int .u8 p.a2, .int .u8 p.a3]
structure Pf.Ok (p : Pf) : Prop where
  h0 : 0 ≤ p.a0 ∧ p.a0 < 256
  h1 : 0 ≤ p.a1 ∧ p.a1 < 256
  h2 : 0 ≤ p.a2 ∧ p.a2 < 256
  h3 : 0 ≤ p.a3 ∧ p.a3 < 256
  hn : -9223372036854775808 ≤ p.n ∧ p.n ≤ 9223372036854775807
def cutP (p : Pf) (n : Int) : Pf := ⟨bl p.a0 n, bl p.a1 (n - 8), bl p.a2 (n - 16), bl p.a3 (n - 24), n⟩
def inR (n : Int) : Bool := decide (0 ≤ n) && decide (n ≤ 32)
/-- May the prefix be? -/
def okP (p : Pf) : Bool := inR p.n && decide (p = cutP p p.n)

/-- A block for a prefix, in every world above. -/
structure Slot (w : World) (R : Nat) : Prop where
  fz : ∀ i, w.frozen? ⟨R, i, none⟩ = false
  r0 : w.cell? ⟨R, 0, none⟩ = some (.int .u8 0)
  r1 : w.cell? ⟨R, 1, none⟩ = some (.int .u8 0)
  r2 : w.cell? ⟨R, 2, none⟩ = some (.int .u8 0)
  r3 : w.cell? ⟨R, 3, none⟩ = some (.int .u8 0)
  r4 : w.cell? ⟨R, 4, none⟩ = some (.int .i64 0)
theorem Slot.of {w w' : World} {R : Nat} (h : w.heap[R]? = some (.cells #[.int .u8 0, .int .u8 0, .int .u8 0, .int .u8 0, .int .i64 0] 38)) (hb : Below w.heap.size w w') : Slot w' R := by
  have h' := (hb.block R (Array.getElem?_eq_some_iff.1 h).1).trans h
  exact ⟨fun i => by simp [World.frozen?, h'], by simp [World.cell?, h'], by simp [World.cell?, h'], by simp [World.cell?, h'], by simp [World.cell?, h'], by simp [World.cell?, h']⟩

set_option maxHeartbeats 2000000 in
set_option maxRecDepth 100000 in
theorem Cut4_yes (a0 a1 a2 a3 n : Int) (w : World) (h0 : 0 ≤ a0 ∧ a0 < 256) (h1 : 0 ≤ a1 ∧ a1 < 256) (h2 : 0 ≤ a2 ∧ a2 < 256) (h3 : 0 ≤ a3 ∧ a3 < 256) (hn : 0 ≤ n ∧ n ≤ 32) :
    Calls Tryd.prog 34 #[A4 a0 a1 a2 a3, .int .i64 n] w fun e w' => e = .returned (.tuple #[P4 (bl a0 n) (bl a1 (n - 8)) (bl a2 (n - 16)) (bl a3 (n - 24)) n, .int .i64 0]) ∧ Below w.heap.size w w' := by
  have hB : Below w.heap.size w ((w.alloc (.cells #[.int .u8 a0, .int .u8 a1, .int .u8 a2, .int .u8 a3] 23)).alloc (.cells #[.int .u8 0, .int .u8 0, .int .u8 0, .int .u8 0, .int .i64 0] 38)) := ((Below.refl _ w).alloc (Nat.le_refl _) _).alloc (by simp) _
  have hR : ((w.alloc (.cells #[.int .u8 a0, .int .u8 a1, .int .u8 a2, .int .u8 a3] 23)).alloc (.cells #[.int .u8 0, .int .u8 0, .int .u8 0, .int .u8 0, .int .i64 0] 38)).heap[w.heap.size + 1]? = some (.cells #[.int .u8 0, .int .u8 0, .int .u8 0, .int .u8 0, .int .i64 0] 38) := alloc_new2 _ _ _
  have hcut := cut4_calls a0 a1 a2 a3 n ((w.alloc (.cells #[.int .u8 a0, .int .u8 a1, .int .u8 a2, .int .u8 a3] 23)).alloc (.cells #[.int .u8 0, .int .u8 0, .int .u8 0, .int .u8 0, .int .i64 0] 38)) h0 h1 h2 h3 (by omega)
  have HC : Hid _ := hcut
  have HR : Hid _ := hR
  have HB : Hid _ := hB
  clear hcut hR hB
  go_enter Tryd.func34, Tryd.ntmps34
  go_wp2_with fail
  refine Calls.mono HC.out ?_
  rintro e w2 ⟨rfl, hB2⟩
  obtain ⟨hfz, r0, r1, r2, r3, r4⟩ := Slot.of HR.out hB2
  have hBB := HB.out.trans (hB2.mono HB.out.size)
  clear HC HR HB hB2
  generalize hx0 : bl a0 n = x0 at *
  generalize hx1 : bl a1 (n - 8) = x1 at *
  generalize hx2 : bl a2 (n - 16) = x2 at *
  generalize hx3 : bl a3 (n - 24) = x3 at *
  have HX0 : Hid _ := hx0
  have HX1 : Hid _ := hx1
  have HX2 : Hid _ := hx2
  have HX3 : Hid _ := hx3
  clear hx0 hx1 hx2 hx3
  go_wp2
  obtain ⟨d0, d1, d2, d3, d4⟩ := set5 w2 (w.heap.size + 1) (.int .u8 x0) (.int .u8 x1) (.int .u8 x2) (.int .u8 x3) (.int .i64 n) (by rw [r0]; rfl) (by rw [r1]; rfl) (by rw [r2]; rfl) (by rw [r3]; rfl) (by rw [r4]; rfl)
  have hB3 := hBB.trans (((((((Only.refl (w.heap.size + 1) w2).set 0 (.int .u8 x0)).set 1 (.int .u8 x1)).set 2 (.int .u8 x2)).set 3 (.int .u8 x3)).set 4 (.int .i64 n)).below (show w.heap.size ≤ w.heap.size + 1 by omega))
  generalize ((((w2.setCell ⟨w.heap.size + 1, 0, none⟩ (.int .u8 x0)).setCell ⟨w.heap.size + 1, 1, none⟩ (.int .u8 x1)).setCell ⟨w.heap.size + 1, 2, none⟩ (.int .u8 x2)).setCell ⟨w.heap.size + 1, 3, none⟩ (.int .u8 x3)).setCell ⟨w.heap.size + 1, 4, none⟩ (.int .i64 n) = w5 at *
  refine bodyPost_ret (res_cell2 rfl rfl (loadP4 d0 d1 d2 d3 d4)) rfl ?_
  refine ⟨?_, hB3⟩
  rw [HX0.out, HX1.out, HX2.out, HX3.out]
  rfl

set_option maxHeartbeats 2000000 in
set_option maxRecDepth 100000 in
theorem Cut4_no (a0 a1 a2 a3 n : Int) (w : World) (hn : n < 0 ∨ 32 < n) (hb : -9223372036854775808 ≤ n ∧ n ≤ 9223372036854775807) :
    Calls Tryd.prog 34 #[A4 a0 a1 a2 a3, .int .i64 n] w fun e w' => e = .returned (.tuple #[P4 0 0 0 0 0, .int .i64 5]) ∧ Below w.heap.size w w' := by
  have hB : Below w.heap.size w ((w.alloc (.cells #[.int .u8 a0, .int .u8 a1, .int .u8 a2, .int .u8 a3] 23)).alloc (.cells #[.int .u8 0, .int .u8 0, .int .u8 0, .int .u8 0, .int .i64 0] 38)) := ((Below.refl _ w).alloc (Nat.le_refl _) _).alloc (by simp) _
  have hR : ((w.alloc (.cells #[.int .u8 a0, .int .u8 a1, .int .u8 a2, .int .u8 a3] 23)).alloc (.cells #[.int .u8 0, .int .u8 0, .int .u8 0, .int .u8 0, .int .i64 0] 38)).heap[w.heap.size + 1]? = some (.cells #[.int .u8 0, .int .u8 0, .int .u8 0, .int .u8 0, .int .i64 0] 38) := alloc_new2 _ _ _
  obtain ⟨hfz, r0, r1, r2, r3, r4⟩ := Slot.of hR (Below.refl _ _)
  have hl := loadP4 r0 r1 r2 r3 r4
  have HL : Hid _ := hl
  clear hl hR hfz r0 r1 r2 r3 r4
  rcases hn with hn | hn
  all_goals
    go_enter Tryd.func34, Tryd.ntmps34
    go_wp2
    exact bodyPost_ret (res_cell2 rfl rfl HL.out) rfl ⟨rfl, hB⟩

end Go.Proofs.YtlpbffcijhgelaaDoor
