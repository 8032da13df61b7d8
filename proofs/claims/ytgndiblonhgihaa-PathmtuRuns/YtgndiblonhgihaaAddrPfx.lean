/-
  IPv4 prefixes: cut, which may be, which covers which.
-/
import Derived.Test.YtgndiblonhgihaaAddrCut
import Derived.Handy
namespace Go.Proofs.Ytgndiblonhgihaa
open Go Go.RowKit
set_option linter.unusedVariables false
set_option linter.unusedSimpArgs false

/-- One byte whose bits behind the first n are 0. -/
def bl (z : Int) (n : Int) : Int := ((z.toNat &&& msk n : Nat) : Int)
theorem bl_fit (z n : Int) (h : 0 ≤ z ∧ z < 256) : 0 ≤ bl z n ∧ bl z n < 256 := by
  unfold bl
  have : z.toNat &&& msk n ≤ z.toNat := Nat.and_le_left
  omega

theorem blank4 (a0 a1 a2 a3 n : Int) : blankL [a0, a1, a2, a3] n 4 = [bl a0 n, bl a1 (n - 8), bl a2 (n - 16), bl a3 (n - 24)] := by
  simp [blankL, bl]

abbrev A4 (a0 a1 a2 a3 : Int) : Value := .agg #[.int .u8 a0, .int .u8 a1, .int .u8 a2, .int .u8 a3]
abbrev P4 (a0 a1 a2 a3 n : Int) : Value := .agg #[.int .u8 a0, .int .u8 a1, .int .u8 a2, .int .u8 a3, .int .i64 n]

theorem alloc_new (w : World) (o : Obj) : (w.alloc o).heap[w.heap.size]? = some o := by
  rw [← World.alloc_eq]
  simp
theorem alloc_new2 (w : World) (o o' : Obj) : ((w.alloc o).alloc o').heap[w.heap.size + 1]? = some o' := by
  have := alloc_new (w.alloc o) o'
  rwa [World.size_alloc] at this

theorem set_same {w : World} {a : Addr} {v : Value} (h : (w.cell? a).isSome = true) : (w.setCell a v).cell? a = some v := by
  cases hc : w.cell? a with
  | none => rw [hc] at h; cases h
  | some u => exact World.cell?_setCell_same _ _ _ hc
theorem set_some {w : World} {a p : Addr} {v : Value} (h : (w.cell? a).isSome = true) : ((w.setCell p v).cell? a).isSome = true := by
  cases hc : w.cell? a with
  | none => rw [hc] at h; cases h
  | some u => obtain ⟨v', hv⟩ := cell?_setCell_some (p := p) (x := v) hc; rw [hv]; rfl
theorem set_other {w : World} {b i j : Nat} {v u : Value} (h : i ≠ j) (hu : w.cell? ⟨b, i, none⟩ = some u) : (w.setCell ⟨b, j, none⟩ v).cell? ⟨b, i, none⟩ = some u := by
  rw [World.cell?_setCell_other _ _ _ _ (by intro e; injection e; omega)]
  exact hu
theorem set5 (w : World) (b : Nat) (v0 v1 v2 v3 v4 : Value) (h0 : (w.cell? ⟨b, 0, none⟩).isSome = true) (h1 : (w.cell? ⟨b, 1, none⟩).isSome = true) (h2 : (w.cell? ⟨b, 2, none⟩).isSome = true) (h3 : (w.cell? ⟨b, 3, none⟩).isSome = true) (h4 : (w.cell? ⟨b, 4, none⟩).isSome = true) :
    (((((w.setCell ⟨b, 0, none⟩ v0).setCell ⟨b, 1, none⟩ v1).setCell ⟨b, 2, none⟩ v2).setCell ⟨b, 3, none⟩ v3).setCell ⟨b, 4, none⟩ v4).cell? ⟨b, 0, none⟩ = some v0 ∧
    (((((w.setCell ⟨b, 0, none⟩ v0).setCell ⟨b, 1, none⟩ v1).setCell ⟨b, 2, none⟩ v2).setCell ⟨b, 3, none⟩ v3).setCell ⟨b, 4, none⟩ v4).cell? ⟨b, 1, none⟩ = some v1 ∧
    (((((w.setCell ⟨b, 0, none⟩ v0).setCell ⟨b, 1, none⟩ v1).setCell ⟨b, 2, none⟩ v2).setCell ⟨b, 3, none⟩ v3).setCell ⟨b, 4, none⟩ v4).cell? ⟨b, 2, none⟩ = some v2 ∧
    (((((w.setCell ⟨b, 0, none⟩ v0).setCell ⟨b, 1, none⟩ v1).setCell ⟨b, 2, none⟩ v2).setCell ⟨b, 3, none⟩ v3).setCell ⟨b, 4, none⟩ v4).cell? ⟨b, 3, none⟩ = some v3 ∧
    (((((w.setCell ⟨b, 0, none⟩ v0).setCell ⟨b, 1, none⟩ v1).setCell ⟨b, 2, none⟩ v2).setCell ⟨b, 3, none⟩ v3).setCell ⟨b, 4, none⟩ v4).cell? ⟨b, 4, none⟩ = some v4 := by
  refine ⟨?_, ?_, ?_, ?_, ?_⟩
  · exact set_other (by decide) (set_other (by decide) (set_other (by decide) (set_other (by decide) (set_same h0))))
  · exact set_other (by decide) (set_other (by decide) (set_other (by decide) (set_same (set_some h1))))
  · exact set_other (by decide) (set_other (by decide) (set_same (set_some (set_some h2))))
  · exact set_other (by decide) (set_same (set_some (set_some (set_some h3))))
  · exact set_same (set_some (set_some (set_some (set_some h4))))

theorem res_cell1 {P : Program} {fn : Func} {a : Tmp} {t : TypeId} (h : fn.results = #[.cell a t]) {tmps : Array Value} {R : Addr} (hp : tmps.getD a undef = .pointer (some R)) {v : Value} {w : World} (hl : (loadVar t R).run P w = .ok v w) :
    (results fn tmps).run P w = .ok v w := by
  rw [Array.getD_eq_getD_getElem?] at hp
  simp [results, h, hp, asAddr, hl]
theorem res_cell2 {P : Program} {fn : Func} {a b : Tmp} {t : TypeId} (h : fn.results = #[.cell a t, .tmp b]) {tmps : Array Value} {R : Addr} (hp : tmps.getD a undef = .pointer (some R)) {v : Value} {w : World} (hl : (loadVar t R).run P w = .ok v w) :
    (results fn tmps).run P w = .ok (.tuple #[v, tmps.getD b undef]) w := by
  rw [Array.getD_eq_getD_getElem?] at hp
  simp [results, h, hp, asAddr, hl]

theorem fit4 {a0 a1 a2 a3 : Int} (h0 : 0 ≤ a0 ∧ a0 < 256) (h1 : 0 ≤ a1 ∧ a1 < 256) (h2 : 0 ≤ a2 ∧ a2 < 256) (h3 : 0 ≤ a3 ∧ a3 < 256) : FitB [a0, a1, a2, a3] := by
  intro z hz
  simp at hz
  rcases hz with rfl | rfl | rfl | rfl <;> assumption

end Go.Proofs.Ytgndiblonhgihaa
