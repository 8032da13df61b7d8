/-
  What the document's Read6 holds in memory, and its plain steps.
-/
import Derived.Test.YtlpbffcijhgelaaDoorQa6
import Derived.Test.YtlpbffcijhgelaaDoorQa5
import Derived.Test.YtlpbffcijhgelaaDoorRa1
namespace Go.Proofs.YtlpbffcijhgelaaDoor
set_option linter.unusedVariables false
set_option linter.unusedSimpArgs false
open Go Go.RowKit

def intsL (xs : List Int) : List Value := xs.map (fun z => .int .i64 z)

theorem row_kept {w w' : World} {base n : Nat} {e : TypeId} {v : Value} {xs : List Value} (h : w.ownsRow base e 1 v n xs) (hk : ∀ g, base ≤ g → g < w.heap.size → w'.heap[g]? = w.heap[g]?) : w'.ownsRow base e 1 v n xs := by
  refine ⟨h.1, ?_⟩
  rcases h.2 with hn | ⟨g, cap, cur, hv, hb, hg, rest⟩
  · exact .inl hn
  · exact .inr ⟨g, cap, cur, hv, hb, (hk g hb (Array.getElem?_eq_some_iff.1 hg).1).trans hg, rest⟩

abbrev sixL (v : Value) (gap : Int) (p : ByteArray) : List Value := [v, .int .i64 gap, .string p]

/-- The two boxes of Read6: its answer's, and what was read. -/
structure SixAt (w0 wr : World) (v : Value) (p : ByteArray) (x : SixS) : Prop where
  box : wr.heap[w0.heap.size + 1]? = some (.cells (sixL v x.gap p).toArray 89)
  res : wr.heap[w0.heap.size]? = some (.cells (sixL (.slice none 0 0) 0 ⟨#[]⟩).toArray 89)
  row : wr.ownsRow (w0.heap.size + 2) 3 1 v x.L.length (intsL x.L)
  part : txt p = x.part
  below : Below w0.heap.size w0 wr
  sized : w0.heap.size + 2 ≤ wr.heap.size

theorem SixAt.up {w0 wr w2 : World} {v : Value} {p : ByteArray} {x : SixS} (h : SixAt w0 wr v p x) (hb : Below wr.heap.size wr w2) : SixAt w0 w2 v p x :=
  ⟨(hb.block _ (by have := h.sized; omega)).trans h.box, (hb.block _ (by have := h.sized; omega)).trans h.res, row_kept h.row (fun g _ hg => hb.block g hg), h.part, h.below.trans (hb.mono (by have := h.sized; omega)), Nat.le_trans h.sized hb.size⟩

theorem SixAt.form {w0 wr : World} {v : Value} {p : ByteArray} {x : SixS} (h : SixAt w0 wr v p x) : ∃ a cap, v = .slice a x.L.length cap := by
  obtain ⟨a, cap, e, _⟩ := own_form h.row
  exact ⟨a, cap, e⟩

theorem SixAt.cells {w0 wr : World} {v : Value} {p : ByteArray} {x : SixS} (h : SixAt w0 wr v p x) :
    (∀ y : Hi wr, y.W.cell? ⟨w0.heap.size + 1, 0, none⟩ = some v) ∧ (∀ y : Hi wr, y.W.cell? ⟨w0.heap.size + 1, 1, none⟩ = some (.int .i64 x.gap)) ∧ (∀ y : Hi wr, y.W.cell? ⟨w0.heap.size + 1, 2, none⟩ = some (.string p)) := by
  refine ⟨fun y => ?_, fun y => ?_, fun y => ?_⟩ <;> simp [World.cell?, Hi.blk h.box y]

theorem SixAt.load {w0 wr : World} {v : Value} {p : ByteArray} {x : SixS} (h : SixAt w0 wr v p x) (y : Hi wr) :
    (Instr.loadAt 89 (.pointer (some ⟨w0.heap.size + 1, 0, none⟩))).run Tryd.prog y.W = .ok (.agg (sixL v x.gap p).toArray) y.W :=
  agg_load Tryd.isAgg89 Tryd.sizeOf89 rfl (CellsAt.of_blk (Hi.blk h.box y))

theorem SixAt.setGap {w0 wr : World} {v : Value} {p : ByteArray} {x : SixS} (h : SixAt w0 wr v p x) (g : Int) : SixAt w0 (wr.setCell ⟨w0.heap.size + 1, 1, none⟩ (.int .i64 g)) v p { x with gap := g } :=
  ⟨blk_set h.box 1 _, blk_set_other h.res (by omega) _ _, row_kept h.row (fun g hg _ => Below.heap_setCell _ _ _ _ (by show g ≠ w0.heap.size + 1; omega)), h.part, h.below.setCell (by simp) _, by have := h.sized; simpa [World.setCell] using this⟩
theorem SixAt.setPart {w0 wr : World} {v : Value} {p : ByteArray} {x : SixS} (h : SixAt w0 wr v p x) (q : ByteArray) : SixAt w0 (wr.setCell ⟨w0.heap.size + 1, 2, none⟩ (.string q)) v q { x with part := txt q } :=
  ⟨blk_set h.box 2 _, blk_set_other h.res (by omega) _ _, row_kept h.row (fun g hg _ => Below.heap_setCell _ _ _ _ (by show g ≠ w0.heap.size + 1; omega)), rfl, h.below.setCell (by simp) _, by have := h.sized; simpa [World.setCell] using this⟩

/-- What Read6 answers. -/
def Read6Post (s : ByteArray) (w : World) (e : Ending) (w' : World) : Prop :=
  ∃ v p, e = .returned (.tuple #[.agg (sixL v (read6 (txt s) s.size 0 ⟨[], -1, []⟩).1.gap p).toArray, .int .i64 ((read6 (txt s) s.size 0 ⟨[], -1, []⟩).2 : Nat)]) ∧
    w'.ownsRow (w.heap.size + 2) 3 1 v (read6 (txt s) s.size 0 ⟨[], -1, []⟩).1.L.length (intsL (read6 (txt s) s.size 0 ⟨[], -1, []⟩).1.L) ∧ txt p = (read6 (txt s) s.size 0 ⟨[], -1, []⟩).1.part ∧ Below w.heap.size w w'

/-- The box is stored into the answer's. -/
theorem SixAt.end_ {w0 wr : World} {v : Value} {p : ByteArray} {x : SixS} (h : SixAt w0 wr v p x) :
    ∃ wE, (Instr.storeAt 89 (.pointer (some ⟨w0.heap.size, 0, none⟩)) (.agg (sixL v x.gap p).toArray)).run Tryd.prog wr = .ok () wE ∧ (loadVar 89 ⟨w0.heap.size, 0, none⟩).run Tryd.prog wE = .ok (.agg (sixL v x.gap p).toArray) wE ∧
      wE.ownsRow (w0.heap.size + 2) 3 1 v x.L.length (intsL x.L) ∧ Below w0.heap.size w0 wE := by
  obtain ⟨a, cap, rfl⟩ := h.form
  obtain ⟨wE, hst, bE, hon⟩ := box_store Tryd.sizeOf89 h.res rfl (sixL (.slice a x.L.length cap) x.gap p) rfl (by simp [sixL, Value.oneCell'])
  exact ⟨wE, hst, agg_loadVar Tryd.isAgg89 Tryd.sizeOf89 rfl (CellsAt.of_blk bE), row_kept h.row (fun g hg _ => hon.other g (by omega)), h.below.trans (hon.below (Nat.le_refl _))⟩

/-- The same, cell by cell. -/
theorem SixAt.end2 {w0 wr : World} {v : Value} {p : ByteArray} {x : SixS} (h : SixAt w0 wr v p x) :
    (loadVar 89 ⟨w0.heap.size, 0, none⟩).run Tryd.prog (((wr.setCell ⟨w0.heap.size, 0, none⟩ v).setCell ⟨w0.heap.size, 1, none⟩ (.int .i64 x.gap)).setCell ⟨w0.heap.size, 2, none⟩ (.string p)) = .ok (.agg (sixL v x.gap p).toArray) (((wr.setCell ⟨w0.heap.size, 0, none⟩ v).setCell ⟨w0.heap.size, 1, none⟩ (.int .i64 x.gap)).setCell ⟨w0.heap.size, 2, none⟩ (.string p)) ∧
      (((wr.setCell ⟨w0.heap.size, 0, none⟩ v).setCell ⟨w0.heap.size, 1, none⟩ (.int .i64 x.gap)).setCell ⟨w0.heap.size, 2, none⟩ (.string p)).ownsRow (w0.heap.size + 2) 3 1 v x.L.length (intsL x.L) ∧ Below w0.heap.size w0 (((wr.setCell ⟨w0.heap.size, 0, none⟩ v).setCell ⟨w0.heap.size, 1, none⟩ (.int .i64 x.gap)).setCell ⟨w0.heap.size, 2, none⟩ (.string p)) := by
  have b := blk_set (blk_set (blk_set h.res 0 v) 1 (.int .i64 x.gap)) 2 (.string p)
  refine ⟨agg_loadVar Tryd.isAgg89 Tryd.sizeOf89 rfl (CellsAt.of_blk b), row_kept h.row (fun g hg _ => ?_), ((h.below.setCell (by simp) _).setCell (by simp) _).setCell (by simp) _⟩
  rw [Below.heap_setCell _ _ _ _ (by show g ≠ w0.heap.size; omega), Below.heap_setCell _ _ _ _ (by show g ≠ w0.heap.size; omega), Below.heap_setCell _ _ _ _ (by show g ≠ w0.heap.size; omega)]

theorem SixAt.rcell {w0 wr : World} {v : Value} {p : ByteArray} {x : SixS} (h : SixAt w0 wr v p x) :
    wr.cell? ⟨w0.heap.size, 0, none⟩ = some (.slice none 0 0) ∧ wr.cell? ⟨w0.heap.size, 1, none⟩ = some (.int .i64 0) ∧ wr.cell? ⟨w0.heap.size, 2, none⟩ = some (.string ⟨#[]⟩) ∧ (∀ j, wr.frozen? ⟨w0.heap.size, j, none⟩ = false) :=
  ⟨blk_cell h.res rfl, blk_cell h.res rfl, blk_cell h.res rfl, blk_open h.res⟩

/-- A group more, and no letter of the next. -/
theorem SixAt.push {w0 wr : World} {v : Value} {p : ByteArray} {x : SixS} (h : SixAt w0 wr v p x) (hn : x.L.length ≤ 8) (z : Int) (ty : TypeId) :
    ∃ v' w1, (Builtin.append_ #[87, 87] ty #[v, .slice (some ⟨wr.heap.size, 0, none⟩) 1 1]).run Tryd.prog (wr.alloc (.cells #[.int .i64 z] 3)) = .ok v' w1 ∧ (∃ a' cap', v' = .slice a' (x.L.length + 1) cap') ∧ SixAt w0 (w1.setCell ⟨w0.heap.size + 1, 0, none⟩ v') v' p { x with L := x.L ++ [z] } ∧
      w1.cell? ⟨w0.heap.size + 1, 0, none⟩ = some v ∧ (∀ j, w1.frozen? ⟨w0.heap.size + 1, j, none⟩ = false) := by
  obtain ⟨v', w1, hrun, hown', hgrow, _⟩ := own_lit elem_int h.row (by have := h.sized; omega) (by omega) (by decide) [.int .i64 z] 1 rfl (by decide) (fun u hu => by simp at hu; subst hu; rfl) ty #[.int .i64 z] rfl
  have hlt : ∀ b, b < w0.heap.size + 2 → w1.heap[b]? = wr.heap[b]? := fun b hb => hgrow.block b (by have := h.sized; omega) (fun e => by
    have := (h.row.lt b e.symm).1
    omega)
  have hbox := (hlt (w0.heap.size + 1) (by omega)).trans h.box
  obtain ⟨a', cap', rfl, _⟩ := own_form hown'
  refine ⟨_, w1, hrun, ⟨a', cap', rfl⟩, ⟨blk_set hbox 0 _, blk_set_other ((hlt w0.heap.size (by omega)).trans h.res) (by omega) _ _, ?_, h.part, ?_, ?_⟩, blk_cell hbox rfl, blk_open hbox⟩
  · have e : intsL x.L ++ [.int .i64 z] = intsL (x.L ++ [z]) := by simp [intsL]
    rw [e] at hown'
    have e2 : x.L.length + 1 = (x.L ++ [z]).length := by simp
    rw [e2] at hown'
    simp only
    rw [show (Value.slice a' (x.L.length + 1) cap') = Value.slice a' ((x.L ++ [z]).length) cap' by rw [e2]]
    exact row_kept hown' (fun g hg _ => Below.heap_setCell _ _ _ _ (by show g ≠ w0.heap.size + 1; omega))
  · refine Below.setCell (h.below.trans ⟨hgrow.os, hgrow.tape, hgrow.output, hgrow.size, fun j hj => hlt j (by omega)⟩) (by simp) _
  · have := h.sized
    have := hgrow.size
    simp only [World.setCell, Array.size_modify]
    omega

theorem Hi.calls_same {P : Program} {f : FuncId} {args : Array Value} {w : World} {v : Value} (h : ∀ w, Calls P f args w fun e w' => e = .returned v ∧ w' = w) (x : Hi w) : Calls P f args x.W fun e w' => e = .returned v ∧ Below x.W.heap.size x.W w' :=
  (h x.W).mono fun e w' h => ⟨h.1, by rw [h.2]; exact Below.refl _ _⟩

theorem slice_str (s : ByteArray) (k : Nat) (h : k < s.size) (W : World) : (Instr.slice 9 (.string s) (some (.int .i64 (k : Int))) (some (.int .i64 ((k : Int) + 1))) none).run Tryd.prog W = .ok (.string (s.extract k (k + 1))) W := by
  have h1 : (k : Int) + 1 ≤ (s.size : Nat) := by omega
  have h2 : ((k : Int) + 1).toNat = k + 1 := by omega
  have h3 : ¬ ((k : Int) + 1 < 0) := by omega
  simp [Instr.slice, go_sem, h1, h2, h3]

/-- What a text may have been read to. -/
structure SixS.Ok (x : SixS) (k : Nat) : Prop where
  few : x.L.length ≤ 7
  gap : -1 ≤ x.gap ∧ x.gap ≤ 7
  short : x.part.length ≤ 15
  nums : ∀ z ∈ x.L, 0 ≤ z ∧ z < 65536

theorem read6_step (l : List Int) (k : Nat) (c : Int) (x : SixS) (hx : l[k]? = some c) : read6 l (l.length - k) k x = match x.step l k c with
    | none => (x, k)
    | some y => read6 l (l.length - (k + 1)) (k + 1) y := by
  obtain ⟨hk, rfl⟩ := List.getElem?_eq_some_iff.1 hx
  have e : l.length - k = (l.length - (k + 1)) + 1 := by omega
  rw [e, read6, List.getD_eq_getElem?_getD, hx]
  rfl

theorem grp_val {l : List Int} (h : grpB l = true) : 0 ≤ valF l ∧ valF l < 65536 := by
  unfold grpB at h
  simp only [Bool.and_eq_true, decide_eq_true_eq] at h
  have := valF_range l l.length (Nat.le_refl _) h.1
  rw [List.take_of_length_le (Nat.le_refl _)] at this
  have hp := pow16_le l.length h.2.2
  omega

theorem step_ok {l : List Int} {k : Nat} {c : Int} {x y : SixS} (h : x.step l k c = some y) (hx : x.Ok k) : y.Ok (k + 1) := by
  obtain ⟨h1, h2, h3, h4⟩ := hx
  unfold SixS.step at h
  split at h
  · split at h
    · cases h; exact ⟨h1, h2, h3, h4⟩
    · split at h
      · cases h; exact ⟨h1, ⟨by show (-1 : Int) ≤ (x.L.length : Int); omega, by show (x.L.length : Int) ≤ 7; omega⟩, h3, h4⟩
      · cases h
  · split at h
    · split at h
      · cases h
      · rename_i hh
        cases h
        have hr : x.room ≤ 8 := by unfold SixS.room; split <;> omega
        have hg : grpB x.part = true := by
          cases hgb : grpB x.part with
          | true => rfl
          | false => exact absurd (.inl hgb) hh
        have hlt : ¬ (x.room ≤ x.L.length + 1) := fun e => hh (.inr e)
        refine ⟨by simp; omega, h2, by simp, fun z hz => ?_⟩
        rcases List.mem_append.1 hz with hz | hz
        · exact h4 z hz
        · simp at hz; subst hz; exact grp_val hg
    · split at h
      · cases h
      · split at h
        · rename_i hh
          cases h
          refine ⟨h1, h2, ?_, h4⟩
          show (x.part ++ [c]).length ≤ 15
          simp only [Bool.or_eq_true, Bool.and_eq_true] at hh
          rcases hh with ⟨hh, _⟩ | ⟨hh, _⟩
          · unfold grpB at hh
            simp only [Bool.and_eq_true, decide_eq_true_eq] at hh
            omega
          · exact beg_len hh
        · cases h

end Go.Proofs.YtlpbffcijhgelaaDoor
