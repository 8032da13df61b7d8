/-
  dotted.addr and Parse4.
-/
import Derived.Test.YtlpbffcijhgelaaDoorAddrLoop
namespace Go.Proofs.YtlpbffcijhgelaaDoor
open Go Go.RowKit
set_option linter.unusedVariables false
set_option linter.unusedSimpArgs false

set_option maxHeartbeats 8000000 in
set_option maxRecDepth 100000 in
theorem dot_addr (d : Dot) (b o : Nat) (w : World) (hd : d.Ok) (hat : DotAt d w b o) :
    Calls Tryd.prog 49 #[.pointer (some ⟨b, o, none⟩)] w fun e w' => e = .returned (.agg #[.int .u8 d.e0, .int .u8 d.e1, .int .u8 d.e2, .int .u8 d.num.value]) ∧ Below w.heap.size w w' := by
  have ha : ∀ x, DotAt d (w.alloc x) b o := fun x => hat.alloc x
  have a0 := fun x => (ha x).c0
  have a1 := fun x => (ha x).c1
  have a2 := fun x => (ha x).c2
  have a4 := fun x => (ha x).c4
  have hn : 0 ≤ d.num.value ∧ d.num.value ≤ 255 := hd.num
  clear ha hat
  go_enter Tryd.func49, Tryd.ntmps49
  go_wp2
  go_region
  all_goals go_wp2
  all_goals go_returns
  all_goals exact ⟨rfl, ((Below.refl _ w).alloc (Nat.le_refl _) _).drew⟩

/-- A dotted in a block of its own. -/
structure DotIn (b : Nat) (d : Dot) (w : World) : Prop where
  cells : DotAt d w b 0
  ok : d.Ok
  typed : Typed w b 71

theorem Typed.iterAt {w : World} {b k : Nat} {t : TypeId} (h : Typed w b t) {s : ByteArray} {pos : Nat} (hk : w.heap[k]? = some (.stringIter s pos)) (pos' : Nat) : Typed (w.iterAt k s pos') b t ∧ b ≠ k := by
  obtain ⟨cs, hc⟩ := h
  have hne : b ≠ k := fun e => by subst e; rw [hc] at hk; cases hk
  exact ⟨⟨cs, (Lib.iterAt_other w k b s pos' hne).trans hc⟩, hne⟩

theorem Typed.alloc {w : World} {b : Nat} {t : TypeId} (h : Typed w b t) (o : Obj) : Typed (w.alloc o) b t := by
  obtain ⟨cs, hc⟩ := h
  exact ⟨cs, (Below.heap_alloc w o b (Array.getElem?_eq_some_iff.1 hc).1).trans hc⟩

theorem dot_kind {B b : Nat} (hB : B ≤ b) : Kind dotReader B (fun j => j = b) 74 (.pointer (some ⟨b, 0, none⟩)) 119 120 (DotIn b) where
  findT := fun w => by kernel_rfl
  findW := fun w => by kernel_rfl
  entT := fun args w => by kernel_rfl
  entW := fun args w => by kernel_rfl
  take := fun d w r h hr => (dot_take d r b 0 w h.ok hr h.cells h.typed.open).mono fun e w' hT => ⟨hT.1, hT.2.1.turns hB, fun d' hd' => ⟨hT.2.2 d' hd', Dot.take_ok hd' h.ok, h.typed.wrote hT.2.1⟩⟩
  whole := fun d w h => dot_whole d b 0 w h.cells
  step := fun d w k s pos pos' h hk => by
    obtain ⟨h1, h2⟩ := h.typed.iterAt hk pos'
    exact ⟨h.cells.iterAt h2 s pos', h.ok, h1⟩
  alloc := fun d w o h => ⟨h.cells.alloc o, h.ok, h.typed.alloc o⟩

def addrV (l : List Int) : Value := .agg (l.map (fun z => Value.int .u8 z)).toArray

def zero4 : Value := .agg #[.int .u8 0, .int .u8 0, .int .u8 0, .int .u8 0]

set_option maxHeartbeats 8000000 in
set_option maxRecDepth 100000 in
theorem parse4_calls (s : ByteArray) (hs : s.size ≤ 140737488355328) (w : World) :
    Calls Tryd.prog 13 #[.string s] w fun e w' => e = .returned (.tuple #[addrV (parse4 s.data.toList).1, .int .i64 (parse4 s.data.toList).2.1, .int .i64 (parse4 s.data.toList).2.2]) ∧ Below w.heap.size w w' := by
  have hnew : DotIn (w.heap.size + 1) Dot.new ((w.alloc (.cells #[.int .u8 0, .int .u8 0, .int .u8 0, .int .u8 0] 23)).alloc (.cells #[.int .u8 0, .int .u8 0, .int .u8 0, .int .i64 0, .int .i64 0, .bool false] 71)) := by
    have hh : ((w.alloc (.cells #[.int .u8 0, .int .u8 0, .int .u8 0, .int .u8 0] 23)).alloc (.cells #[.int .u8 0, .int .u8 0, .int .u8 0, .int .i64 0, .int .i64 0, .bool false] 71)).heap[w.heap.size + 1]? = some (.cells #[.int .u8 0, .int .u8 0, .int .u8 0, .int .i64 0, .int .i64 0, .bool false] 71) := by
      have := heap_alloc_new (w.alloc (.cells #[.int .u8 0, .int .u8 0, .int .u8 0, .int .u8 0] 23)) (.cells #[.int .u8 0, .int .u8 0, .int .u8 0, .int .i64 0, .int .i64 0, .bool false] 71)
      simpa using this
    refine ⟨⟨?_, ?_, ?_, ?_, ?_, ?_⟩, Dot.ok_new, ⟨_, hh⟩⟩ <;> (unfold World.cell?; rw [hh]; rfl)
  have hB0 : Below w.heap.size w ((w.alloc (.cells #[.int .u8 0, .int .u8 0, .int .u8 0, .int .u8 0] 23)).alloc (.cells #[.int .u8 0, .int .u8 0, .int .u8 0, .int .i64 0, .int .i64 0, .bool false] 71)) := ((Below.refl _ w).alloc (Nat.le_refl _) _).alloc (by simp) _
  have hres : ∀ i, i < 4 → ((w.alloc (.cells #[.int .u8 0, .int .u8 0, .int .u8 0, .int .u8 0] 23)).alloc (.cells #[.int .u8 0, .int .u8 0, .int .u8 0, .int .i64 0, .int .i64 0, .bool false] 71)).cell? ⟨w.heap.size, i, none⟩ = some (.int .u8 0) := by
    intro i hi
    rw [World.cell?_alloc_lt _ _ _ (by simp)]
    simp
    match i, hi with
    | 0, _ => rfl
    | 1, _ => rfl
    | 2, _ => rfl
    | 3, _ => rfl
  have hC := read_calls (dot_kind (B := w.heap.size + 1) (b := w.heap.size + 1) (Nat.le_refl _)) s hs Dot.new _ hnew (by simp) (by simp)
  have hfz : ∀ i, ((w.alloc (.cells #[.int .u8 0, .int .u8 0, .int .u8 0, .int .u8 0] 23)).alloc (.cells #[.int .u8 0, .int .u8 0, .int .u8 0, .int .i64 0, .int .i64 0, .bool false] 71)).frozen? ⟨w.heap.size, i, none⟩ = false :=
    Typed.open (Typed.alloc ⟨_, heap_alloc_new w _⟩ _)
  unfold parse4
  generalize dotReader.read s.data.toList 0 Dot.new = x at hC
  go_enter Tryd.func13, Tryd.ntmps13
  go_wp2_with fail
  generalize (w.alloc (.cells #[.int .u8 0, .int .u8 0, .int .u8 0, .int .u8 0] 23)).alloc (.cells #[.int .u8 0, .int .u8 0, .int .u8 0, .int .i64 0, .int .i64 0, .bool false] 71) = W0 at hC hnew hB0 hres hfz ⊢
  refine hC.mono ?_
  rintro e W1 ⟨hT, hx⟩
  clear hC hnew
  have r0 := fun i hi => (hT.below.cell (p := ⟨w.heap.size, i, none⟩) (Nat.lt_succ_self _)).trans (hres i hi)
  have z0 := r0 0 (by decide)
  have z1 := r0 1 (by decide)
  have z2 := r0 2 (by decide)
  have z3 := r0 3 (by decide)
  have zf : ∀ i, W1.frozen? ⟨w.heap.size, i, none⟩ = false := fun i => (hT.below.frozen (p := ⟨w.heap.size, i, none⟩) (Nat.lt_succ_self _)).trans (hfz i)
  have hB1 : Below w.heap.size w W1 := hB0.trans (hT.below.mono (Nat.le_succ _))
  clear hT hB0 hres r0 hfz
  cases x with
  | bad n =>
    subst hx
    go_wp2
    have hBV : Below w.heap.size w ((((W1.setCell ⟨w.heap.size, 0, none⟩ (.int .u8 0)).setCell ⟨w.heap.size, 1, none⟩ (.int .u8 0)).setCell ⟨w.heap.size, 2, none⟩ (.int .u8 0)).setCell ⟨w.heap.size, 3, none⟩ (.int .u8 0)) := ((((hB1.setCell (Nat.le_refl _) _).setCell (Nat.le_refl _) _).setCell (Nat.le_refl _) _).setCell (Nat.le_refl _) _)
    have f0 : ((((W1.setCell ⟨w.heap.size, 0, none⟩ (.int .u8 0)).setCell ⟨w.heap.size, 1, none⟩ (.int .u8 0)).setCell ⟨w.heap.size, 2, none⟩ (.int .u8 0)).setCell ⟨w.heap.size, 3, none⟩ (.int .u8 0)).cell? ⟨w.heap.size, 0, none⟩ = some (.int .u8 0) := by go_cell
    have f1 : ((((W1.setCell ⟨w.heap.size, 0, none⟩ (.int .u8 0)).setCell ⟨w.heap.size, 1, none⟩ (.int .u8 0)).setCell ⟨w.heap.size, 2, none⟩ (.int .u8 0)).setCell ⟨w.heap.size, 3, none⟩ (.int .u8 0)).cell? ⟨w.heap.size, 1, none⟩ = some (.int .u8 0) := by go_cell
    have f2 : ((((W1.setCell ⟨w.heap.size, 0, none⟩ (.int .u8 0)).setCell ⟨w.heap.size, 1, none⟩ (.int .u8 0)).setCell ⟨w.heap.size, 2, none⟩ (.int .u8 0)).setCell ⟨w.heap.size, 3, none⟩ (.int .u8 0)).cell? ⟨w.heap.size, 2, none⟩ = some (.int .u8 0) := by go_cell
    have f3 : ((((W1.setCell ⟨w.heap.size, 0, none⟩ (.int .u8 0)).setCell ⟨w.heap.size, 1, none⟩ (.int .u8 0)).setCell ⟨w.heap.size, 2, none⟩ (.int .u8 0)).setCell ⟨w.heap.size, 3, none⟩ (.int .u8 0)).cell? ⟨w.heap.size, 3, none⟩ = some (.int .u8 0) := by go_cell
    generalize ((((W1.setCell ⟨w.heap.size, 0, none⟩ (.int .u8 0)).setCell ⟨w.heap.size, 1, none⟩ (.int .u8 0)).setCell ⟨w.heap.size, 2, none⟩ (.int .u8 0)).setCell ⟨w.heap.size, 3, none⟩ (.int .u8 0)) = V at hBV f0 f1 f2 f3 ⊢
    refine bodyPost_ret (by simp [results, Tryd.results13, go_sem, f0, f1, f2, f3]; try rfl) rfl ?_
    exact ⟨rfl, hBV⟩
  | good d =>
    obtain ⟨rfl, hD⟩ := hx
    have hA := dot_addr d (w.heap.size + 1) 0 W1 hD.ok hD.cells
    go_wp2_with fail
    refine hA.mono ?_
    rintro e W2 ⟨rfl, hB2⟩
    clear hA
    have hlt := World.block_lt_of_cell? W1 _ z0
    have y0 := (hB2.cell (p := ⟨w.heap.size, 0, none⟩) hlt).trans z0
    have y1 := (hB2.cell (p := ⟨w.heap.size, 1, none⟩) hlt).trans z1
    have y2 := (hB2.cell (p := ⟨w.heap.size, 2, none⟩) hlt).trans z2
    have y3 := (hB2.cell (p := ⟨w.heap.size, 3, none⟩) hlt).trans z3
    have yf : ∀ i, W2.frozen? ⟨w.heap.size, i, none⟩ = false := fun i => (hB2.frozen (p := ⟨w.heap.size, i, none⟩) hlt).trans (zf i)
    have hB3 : Below w.heap.size w W2 := hB1.trans (hB2.mono hB1.size)
    clear z0 z1 z2 z3 zf hB1 hB2
    go_wp2
    have hBV : Below w.heap.size w ((((W2.setCell ⟨w.heap.size, 0, none⟩ (.int .u8 d.e0)).setCell ⟨w.heap.size, 1, none⟩ (.int .u8 d.e1)).setCell ⟨w.heap.size, 2, none⟩ (.int .u8 d.e2)).setCell ⟨w.heap.size, 3, none⟩ (.int .u8 d.num.value)) := ((((hB3.setCell (Nat.le_refl _) _).setCell (Nat.le_refl _) _).setCell (Nat.le_refl _) _).setCell (Nat.le_refl _) _)
    have f0 : ((((W2.setCell ⟨w.heap.size, 0, none⟩ (.int .u8 d.e0)).setCell ⟨w.heap.size, 1, none⟩ (.int .u8 d.e1)).setCell ⟨w.heap.size, 2, none⟩ (.int .u8 d.e2)).setCell ⟨w.heap.size, 3, none⟩ (.int .u8 d.num.value)).cell? ⟨w.heap.size, 0, none⟩ = some (.int .u8 d.e0) := by go_cell
    have f1 : ((((W2.setCell ⟨w.heap.size, 0, none⟩ (.int .u8 d.e0)).setCell ⟨w.heap.size, 1, none⟩ (.int .u8 d.e1)).setCell ⟨w.heap.size, 2, none⟩ (.int .u8 d.e2)).setCell ⟨w.heap.size, 3, none⟩ (.int .u8 d.num.value)).cell? ⟨w.heap.size, 1, none⟩ = some (.int .u8 d.e1) := by go_cell
    have f2 : ((((W2.setCell ⟨w.heap.size, 0, none⟩ (.int .u8 d.e0)).setCell ⟨w.heap.size, 1, none⟩ (.int .u8 d.e1)).setCell ⟨w.heap.size, 2, none⟩ (.int .u8 d.e2)).setCell ⟨w.heap.size, 3, none⟩ (.int .u8 d.num.value)).cell? ⟨w.heap.size, 2, none⟩ = some (.int .u8 d.e2) := by go_cell
    have f3 : ((((W2.setCell ⟨w.heap.size, 0, none⟩ (.int .u8 d.e0)).setCell ⟨w.heap.size, 1, none⟩ (.int .u8 d.e1)).setCell ⟨w.heap.size, 2, none⟩ (.int .u8 d.e2)).setCell ⟨w.heap.size, 3, none⟩ (.int .u8 d.num.value)).cell? ⟨w.heap.size, 3, none⟩ = some (.int .u8 d.num.value) := by go_cell
    generalize ((((W2.setCell ⟨w.heap.size, 0, none⟩ (.int .u8 d.e0)).setCell ⟨w.heap.size, 1, none⟩ (.int .u8 d.e1)).setCell ⟨w.heap.size, 2, none⟩ (.int .u8 d.e2)).setCell ⟨w.heap.size, 3, none⟩ (.int .u8 d.num.value)) = V at hBV f0 f1 f2 f3 ⊢
    refine bodyPost_ret (by simp [results, Tryd.results13, go_sem, f0, f1, f2, f3]; try rfl) rfl ?_
    exact ⟨rfl, hBV⟩

end Go.Proofs.YtlpbffcijhgelaaDoor
