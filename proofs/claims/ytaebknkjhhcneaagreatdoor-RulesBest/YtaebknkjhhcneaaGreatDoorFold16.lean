/-
  What the document's Read6 holds in memory, and its plain steps.
  The document's Whole6, where nothing stands behind the last colon.
  The walk of the document's Whole6, where nothing stands behind the last colon.
  The document's Parse6, where nothing stands behind the last colon.
-/
import Derived.Test.YtaebknkjhhcneaaGreatDoorFold15
import Derived.Laws.OwnMore
namespace Go.Proofs.YtaebknkjhhcneaaGreatDoor
set_option linter.unusedVariables false
set_option linter.unusedSimpArgs false
open Go Go.RowKit

def intsL (xs : List Int) : List Value := xs.map (fun z => .int .i64 z)

theorem row_kept {w w' : World} {base n : Nat} {e : TypeId} {v : Value} {xs : List Value} (h : w.ownsRow base e 1 v n xs) (hk : ∀ g, base ≤ g → g < w.heap.size → w'.heap[g]? = w.heap[g]?) : w'.ownsRow base e 1 v n xs := by
  refine ⟨h.1, ?_⟩
  rcases h.2 with hn | ⟨g, cap, cur, hv, hb, hg, rest⟩
  · exact .inl hn
  · exact .inr ⟨g, cap, cur, hv, hb, (hk g hb (Array.getElem?_eq_some_iff.1 hg).1).trans hg, rest⟩

abbrev sixL (v : Value) (gap : Int) (p : ByteArray) : List Value := [v, .int .i64 gap, .string p]

/-- The two boxes of Read6: its answer's, and what was read. -/
structure SixAt (w0 wr : World) (v : Value) (p : ByteArray) (x : SixS) : Prop where
  box : wr.heap[w0.heap.size + 1]? = some (.cells (sixL v x.gap p).toArray 185)
  res : wr.heap[w0.heap.size]? = some (.cells (sixL (.slice none 0 0) 0 ⟨#[]⟩).toArray 185)
  row : wr.ownsRow (w0.heap.size + 2) 3 1 v x.L.length (intsL x.L)
  part : txt p = x.part
  below : Below w0.heap.size w0 wr
  sized : w0.heap.size + 2 ≤ wr.heap.size

theorem SixAt.up {w0 wr w2 : World} {v : Value} {p : ByteArray} {x : SixS} (h : SixAt w0 wr v p x) (hb : Below wr.heap.size wr w2) : SixAt w0 w2 v p x :=
  ⟨(hb.block _ (by have := h.sized; omega)).trans h.box, (hb.block _ (by have := h.sized; omega)).trans h.res, row_kept h.row (fun g _ hg => hb.block g hg), h.part, h.below.trans (hb.mono (by have := h.sized; omega)), Nat.le_trans h.sized hb.size⟩

theorem SixAt.form {w0 wr : World} {v : Value} {p : ByteArray} {x : SixS} (h : SixAt w0 wr v p x) : ∃ a cap, v = .slice a x.L.length cap := by
  obtain ⟨a, cap, e, _⟩ := own_form h.row
  exact ⟨a, cap, e⟩

theorem SixAt.cells {w0 wr : World} {v : Value} {p : ByteArray} {x : SixS} (h : SixAt w0 wr v p x) :
    (∀ y : Hi wr, y.W.cell? ⟨w0.heap.size + 1, 0, none⟩ = some v) ∧ (∀ y : Hi wr, y.W.cell? ⟨w0.heap.size + 1, 1, none⟩ = some (.int .i64 x.gap)) ∧ (∀ y : Hi wr, y.W.cell? ⟨w0.heap.size + 1, 2, none⟩ = some (.string p)) := by
  refine ⟨fun y => ?_, fun y => ?_, fun y => ?_⟩ <;> simp [World.cell?, Hi.blk h.box y]

theorem SixAt.load {w0 wr : World} {v : Value} {p : ByteArray} {x : SixS} (h : SixAt w0 wr v p x) (y : Hi wr) :
    (Instr.loadAt 185 (.pointer (some ⟨w0.heap.size + 1, 0, none⟩))).run Tryz.prog y.W = .ok (.agg (sixL v x.gap p).toArray) y.W :=
  agg_load Tryz.isAgg185 Tryz.sizeOf185 rfl (CellsAt.of_blk (Hi.blk h.box y))

theorem SixAt.setGap {w0 wr : World} {v : Value} {p : ByteArray} {x : SixS} (h : SixAt w0 wr v p x) (g : Int) : SixAt w0 (wr.setCell ⟨w0.heap.size + 1, 1, none⟩ (.int .i64 g)) v p { x with gap := g } :=
  ⟨blk_set h.box 1 _, blk_set_other h.res (by omega) _ _, row_kept h.row (fun g hg _ => Below.heap_setCell _ _ _ _ (by show g ≠ w0.heap.size + 1; omega)), h.part, h.below.setCell (by simp) _, by have := h.sized; simpa [World.setCell] using this⟩
theorem SixAt.setPart {w0 wr : World} {v : Value} {p : ByteArray} {x : SixS} (h : SixAt w0 wr v p x) (q : ByteArray) : SixAt w0 (wr.setCell ⟨w0.heap.size + 1, 2, none⟩ (.string q)) v q { x with part := txt q } :=
  ⟨blk_set h.box 2 _, blk_set_other h.res (by omega) _ _, row_kept h.row (fun g hg _ => Below.heap_setCell _ _ _ _ (by show g ≠ w0.heap.size + 1; omega)), rfl, h.below.setCell (by simp) _, by have := h.sized; simpa [World.setCell] using this⟩

/-- What Read6 answers. -/
def Read6Post (s : ByteArray) (w : World) (e : Ending) (w' : World) : Prop :=
  ∃ v p, e = .returned (.tuple #[.agg (sixL v (read6 (txt s) s.size 0 ⟨[], -1, []⟩).1.gap p).toArray, .int .i64 ((read6 (txt s) s.size 0 ⟨[], -1, []⟩).2 : Nat)]) ∧
    w'.ownsRow (w.heap.size + 2) 3 1 v (read6 (txt s) s.size 0 ⟨[], -1, []⟩).1.L.length (intsL (read6 (txt s) s.size 0 ⟨[], -1, []⟩).1.L) ∧ txt p = (read6 (txt s) s.size 0 ⟨[], -1, []⟩).1.part ∧ Below w.heap.size w w'

/-- The box is stored into the answer's. -/
theorem SixAt.end_ {w0 wr : World} {v : Value} {p : ByteArray} {x : SixS} (h : SixAt w0 wr v p x) :
    ∃ wE, (Instr.storeAt 185 (.pointer (some ⟨w0.heap.size, 0, none⟩)) (.agg (sixL v x.gap p).toArray)).run Tryz.prog wr = .ok () wE ∧ (loadVar 185 ⟨w0.heap.size, 0, none⟩).run Tryz.prog wE = .ok (.agg (sixL v x.gap p).toArray) wE ∧
      wE.ownsRow (w0.heap.size + 2) 3 1 v x.L.length (intsL x.L) ∧ Below w0.heap.size w0 wE := by
  obtain ⟨a, cap, rfl⟩ := h.form
  obtain ⟨wE, hst, bE, hon⟩ := box_store Tryz.sizeOf185 h.res rfl (sixL (.slice a x.L.length cap) x.gap p) rfl (by simp [sixL, Value.oneCell'])
  exact ⟨wE, hst, agg_loadVar Tryz.isAgg185 Tryz.sizeOf185 rfl (CellsAt.of_blk bE), row_kept h.row (fun g hg _ => hon.other g (by omega)), h.below.trans (hon.below (Nat.le_refl _))⟩

/-- The same, cell by cell. -/
theorem SixAt.end2 {w0 wr : World} {v : Value} {p : ByteArray} {x : SixS} (h : SixAt w0 wr v p x) :
    (loadVar 185 ⟨w0.heap.size, 0, none⟩).run Tryz.prog (((wr.setCell ⟨w0.heap.size, 0, none⟩ v).setCell ⟨w0.heap.size, 1, none⟩ (.int .i64 x.gap)).setCell ⟨w0.heap.size, 2, none⟩ (.string p)) = .ok (.agg (sixL v x.gap p).toArray) (((wr.setCell ⟨w0.heap.size, 0, none⟩ v).setCell ⟨w0.heap.size, 1, none⟩ (.int .i64 x.gap)).setCell ⟨w0.heap.size, 2, none⟩ (.string p)) ∧
      (((wr.setCell ⟨w0.heap.size, 0, none⟩ v).setCell ⟨w0.heap.size, 1, none⟩ (.int .i64 x.gap)).setCell ⟨w0.heap.size, 2, none⟩ (.string p)).ownsRow (w0.heap.size + 2) 3 1 v x.L.length (intsL x.L) ∧ Below w0.heap.size w0 (((wr.setCell ⟨w0.heap.size, 0, none⟩ v).setCell ⟨w0.heap.size, 1, none⟩ (.int .i64 x.gap)).setCell ⟨w0.heap.size, 2, none⟩ (.string p)) := by
  have b := blk_set (blk_set (blk_set h.res 0 v) 1 (.int .i64 x.gap)) 2 (.string p)
  refine ⟨agg_loadVar Tryz.isAgg185 Tryz.sizeOf185 rfl (CellsAt.of_blk b), row_kept h.row (fun g hg _ => ?_), ((h.below.setCell (by simp) _).setCell (by simp) _).setCell (by simp) _⟩
  rw [Below.heap_setCell _ _ _ _ (by show g ≠ w0.heap.size; omega), Below.heap_setCell _ _ _ _ (by show g ≠ w0.heap.size; omega), Below.heap_setCell _ _ _ _ (by show g ≠ w0.heap.size; omega)]

theorem SixAt.rcell {w0 wr : World} {v : Value} {p : ByteArray} {x : SixS} (h : SixAt w0 wr v p x) :
    wr.cell? ⟨w0.heap.size, 0, none⟩ = some (.slice none 0 0) ∧ wr.cell? ⟨w0.heap.size, 1, none⟩ = some (.int .i64 0) ∧ wr.cell? ⟨w0.heap.size, 2, none⟩ = some (.string ⟨#[]⟩) ∧ (∀ j, wr.frozen? ⟨w0.heap.size, j, none⟩ = false) :=
  ⟨blk_cell h.res rfl, blk_cell h.res rfl, blk_cell h.res rfl, blk_open h.res⟩

/-- A group more, and no letter of the next. -/
theorem SixAt.push {w0 wr : World} {v : Value} {p : ByteArray} {x : SixS} (h : SixAt w0 wr v p x) (hn : x.L.length ≤ 8) (z : Int) (ty : TypeId) :
    ∃ v' w1, (Builtin.append_ #[137, 137] ty #[v, .slice (some ⟨wr.heap.size, 0, none⟩) 1 1]).run Tryz.prog (wr.alloc (.cells #[.int .i64 z] 3)) = .ok v' w1 ∧ (∃ a' cap', v' = .slice a' (x.L.length + 1) cap') ∧ SixAt w0 (w1.setCell ⟨w0.heap.size + 1, 0, none⟩ v') v' p { x with L := x.L ++ [z] } ∧
      w1.cell? ⟨w0.heap.size + 1, 0, none⟩ = some v ∧ (∀ j, w1.frozen? ⟨w0.heap.size + 1, j, none⟩ = false) := by
  obtain ⟨v', w1, hrun, hown', hgrow, _⟩ := own_lit elem_int h.row (by have := h.sized; omega) (by omega) (by decide) [.int .i64 z] 1 rfl (by decide) (fun u hu => by simp at hu; subst hu; rfl) ty #[.int .i64 z] rfl
  have hlt : ∀ b, b < w0.heap.size + 2 → w1.heap[b]? = wr.heap[b]? := fun b hb => hgrow.block b (by have := h.sized; omega) (fun e => by
    have := (h.row.lt b e.symm).1
    omega)
  have hbox := (hlt (w0.heap.size + 1) (by omega)).trans h.box
  obtain ⟨a', cap', rfl, _⟩ := own_form hown'
  refine ⟨_, w1, hrun, ⟨a', cap', rfl⟩, ⟨blk_set hbox 0 _, blk_set_other ((hlt w0.heap.size (by omega)).trans h.res) (by omega) _ _, ?_, h.part, ?_, ?_⟩, blk_cell hbox rfl, blk_open hbox⟩
  · have e : intsL x.L ++ [.int .i64 z] = intsL (x.L ++ [z]) := by simp [intsL]
    rw [e] at hown'
    have e2 : x.L.length + 1 = (x.L ++ [z]).length := by simp
    rw [e2] at hown'
    simp only
    rw [show (Value.slice a' (x.L.length + 1) cap') = Value.slice a' ((x.L ++ [z]).length) cap' by rw [e2]]
    exact row_kept hown' (fun g hg _ => Below.heap_setCell _ _ _ _ (by show g ≠ w0.heap.size + 1; omega))
  · refine Below.setCell (h.below.trans ⟨hgrow.os, hgrow.tape, hgrow.output, hgrow.size, fun j hj => hlt j (by omega)⟩) (by simp) _
  · have := h.sized
    have := hgrow.size
    simp only [World.setCell, Array.size_modify]
    omega

theorem Hi.calls_same {P : Program} {f : FuncId} {args : Array Value} {w : World} {v : Value} (h : ∀ w, Calls P f args w fun e w' => e = .returned v ∧ w' = w) (x : Hi w) : Calls P f args x.W fun e w' => e = .returned v ∧ Below x.W.heap.size x.W w' :=
  (h x.W).mono fun e w' h => ⟨h.1, by rw [h.2]; exact Below.refl _ _⟩

theorem slice_str (s : ByteArray) (k : Nat) (h : k < s.size) (W : World) : (Instr.slice 9 (.string s) (some (.int .i64 (k : Int))) (some (.int .i64 ((k : Int) + 1))) none).run Tryz.prog W = .ok (.string (s.extract k (k + 1))) W := by
  have h1 : (k : Int) + 1 ≤ (s.size : Nat) := by omega
  have h2 : ((k : Int) + 1).toNat = k + 1 := by omega
  have h3 : ¬ ((k : Int) + 1 < 0) := by omega
  simp [Instr.slice, go_sem, h1, h2, h3]

/-- What a text may have been read to. -/
structure SixS.Ok (x : SixS) (k : Nat) : Prop where
  few : x.L.length ≤ 7
  gap : -1 ≤ x.gap ∧ x.gap ≤ 7
  short : x.part.length ≤ k
  nums : ∀ z ∈ x.L, 0 ≤ z ∧ z < 65536

theorem read6_step (l : List Int) (k : Nat) (c : Int) (x : SixS) (hx : l[k]? = some c) : read6 l (l.length - k) k x = match x.step l k c with
    | none => (x, k)
    | some y => read6 l (l.length - (k + 1)) (k + 1) y := by
  obtain ⟨hk, rfl⟩ := List.getElem?_eq_some_iff.1 hx
  have e : l.length - k = (l.length - (k + 1)) + 1 := by omega
  rw [e, read6, List.getD_eq_getElem?_getD, hx]
  rfl

theorem grp_val {l : List Int} (h : grpB l = true) : 0 ≤ valF l ∧ valF l < 65536 := by
  unfold grpB at h
  simp only [Bool.and_eq_true, decide_eq_true_eq] at h
  have := valF_range l l.length (Nat.le_refl _) h.1
  rw [List.take_of_length_le (Nat.le_refl _)] at this
  have hp := pow16_le l.length h.2.2
  omega

theorem step_ok {l : List Int} {k : Nat} {c : Int} {x y : SixS} (h : x.step l k c = some y) (hx : x.Ok k) : y.Ok (k + 1) := by
  obtain ⟨h1, h2, h3, h4⟩ := hx
  unfold SixS.step at h
  split at h
  · split at h
    · cases h; exact ⟨h1, h2, by omega, h4⟩
    · split at h
      · cases h; exact ⟨h1, ⟨by show (-1 : Int) ≤ (x.L.length : Int); omega, by show (x.L.length : Int) ≤ 7; omega⟩, by show x.part.length ≤ k + 1; omega, h4⟩
      · cases h
  · split at h
    · split at h
      · cases h
      · rename_i hh
        cases h
        have hr : x.room ≤ 8 := by unfold SixS.room; split <;> omega
        have hg : grpB x.part = true := by
          cases hgb : grpB x.part with
          | true => rfl
          | false => exact absurd (.inl hgb) hh
        have hlt : ¬ (x.room ≤ x.L.length + 1) := fun e => hh (.inr e)
        refine ⟨by simp; omega, h2, by simp, fun z hz => ?_⟩
        rcases List.mem_append.1 hz with hz | hz
        · exact h4 z hz
        · simp at hz; subst hz; exact grp_val hg
    · split at h
      · cases h
      · split at h
        · cases h; exact ⟨h1, h2, by simp; omega, h4⟩
        · cases h

end Go.Proofs.YtaebknkjhhcneaaGreatDoor

namespace Go.Proofs.YtaebknkjhhcneaaGreatDoor
set_option linter.unusedVariables false
set_option linter.unusedSimpArgs false
open Go Go.RowKit

/-- The groups behind k rounds. -/
def outK (l : List Int) (g k : Nat) : List Int := if k ≤ g then l.take k else l.take g ++ List.replicate (8 - l.length) 0 ++ (l.drop g).take (k - g)

/-- Behind the inner loop of round k. -/
def midK (l : List Int) (g k : Nat) : List Int := if k = g then l.take g ++ List.replicate (8 - l.length) 0 else outK l g k

theorem midK_next (l : List Int) (g k : Nat) (x : Int) (hg : g ≤ l.length) (h : l[k]? = some x) : midK l g k ++ [x] = outK l g (k + 1) := by
  obtain ⟨hk, rfl⟩ := List.getElem?_eq_some_iff.1 h
  unfold midK outK
  by_cases c : k = g
  · subst c
    rw [if_pos rfl, if_neg (by omega), Nat.add_sub_cancel_left]
    congr 1
    rw [List.drop_eq_getElem_cons hk]
    rfl
  · rw [if_neg c]
    by_cases d : k ≤ g
    · rw [if_pos d, if_pos (by omega), List.take_succ_eq_append_getElem hk]
    · rw [if_neg d, if_neg (by omega), List.append_assoc]
      congr 1
      have e : k + 1 - g = (k - g) + 1 := by omega
      have hl : k - g < (l.drop g).length := by rw [List.length_drop]; omega
      rw [e, List.take_succ_eq_append_getElem hl]
      congr 2
      rw [List.getElem_drop]
      congr 1
      omega
theorem midK_last (l : List Int) (g : Nat) (hg : g ≤ l.length) : midK l g l.length = outK l g (l.length + 1) := by
  unfold midK outK
  by_cases c : l.length = g
  · rw [if_pos c, if_neg (by omega), ← c, List.drop_length]
    simp
  · rw [if_neg c, if_neg (by omega), if_neg (by omega), List.take_of_length_le (l := l.drop g) (i := l.length - g) (by rw [List.length_drop]; omega), List.take_of_length_le (l := l.drop g) (i := l.length + 1 - g) (by rw [List.length_drop]; omega)]
theorem outK_len (l : List Int) (g k : Nat) (h7 : l.length ≤ 7) : (outK l g k).length ≤ 30 ∧ (midK l g k).length ≤ 30 := by
  have h1 : (outK l g k).length ≤ 30 := by
    unfold outK
    split <;> simp <;> omega
  refine ⟨h1, ?_⟩
  unfold midK
  split
  · simp; omega
  · exact h1
theorem outK_all (l : List Int) (g : Nat) (hg : g ≤ l.length) : outK l g (l.length + 1) = l.take g ++ List.replicate (8 - l.length) 0 ++ l.drop g := by
  unfold outK
  rw [if_neg (by omega), List.take_of_length_le (l := l.drop g) (by rw [List.length_drop]; omega)]

/-- One number more. -/
theorem own_num {w : World} {base : Nat} {v : Value} {xs : List Int} (h : w.ownsRow base 3 1 v xs.length (intsL xs)) (hb : base ≤ w.heap.size) (hn : xs.length ≤ 1000) (z : Int) (ty : TypeId) :
    ∃ v' w1, (Builtin.append_ #[137, 137] ty #[v, .slice (some ⟨w.heap.size, 0, none⟩) 1 1]).run Tryz.prog (w.alloc (.cells #[.int .i64 z] 3)) = .ok v' w1 ∧ w1.ownsRow base 3 1 v' (xs ++ [z]).length (intsL (xs ++ [z])) ∧ w.grownBy w1 v.ownBlock := by
  obtain ⟨v', w1, hrun, hown', hgrow, _⟩ := own_lit elem_int h hb (by omega) (by decide) [.int .i64 z] 1 rfl (by decide) (fun u hu => by simp at hu; subst hu; rfl) ty #[.int .i64 z] rfl
  have e : intsL xs ++ [.int .i64 z] = intsL (xs ++ [z]) := by simp [intsL]
  have e2 : xs.length + 1 = (xs ++ [z]).length := by simp
  rw [e, e2] at hown'
  exact ⟨v', w1, hrun, hown', hgrow⟩

theorem below_grown {B : Nat} {u w w1 : World} {v : Value} {n : Nat} {xs : List Value} {e : TypeId} (hB : Below B u w) (hown : w.ownsRow B e 1 v n xs) (hg : w.grownBy w1 v.ownBlock) (hb : B ≤ w.heap.size) : Below B u w1 :=
  hB.grown hg hb (fun j hj => (hown.lt j hj).1)

end Go.Proofs.YtaebknkjhhcneaaGreatDoor

namespace Go.Proofs.YtaebknkjhhcneaaGreatDoor
set_option linter.unusedVariables false
set_option linter.unusedSimpArgs false
open Go Go.RowKit

def Whole6Post (l : List Int) (ok : Bool) (w : World) (e : Ending) (w' : World) : Prop :=
  ∃ v, e = .returned (.tuple #[v, .bool ok]) ∧ w'.ownsRow w.heap.size 3 1 v l.length (intsL l) ∧ Below w.heap.size w w'

theorem row_base {w : World} {base base' n : Nat} {e : TypeId} {v : Value} {xs : List Value} (h : w.ownsRow base e 1 v n xs) (hb : base' ≤ base) : w.ownsRow base' e 1 v n xs :=
  ⟨h.1, h.2.imp id (fun ⟨g, cap, cur, hv, hg, r⟩ => ⟨g, cap, cur, hv, Nat.le_trans hb hg, r⟩)⟩

set_option maxHeartbeats 4000000 in
set_option maxRecDepth 100000 in
theorem Whole6_empty (s : ByteArray) (v : Value) (L : List Int) (base : Nat) (w : World) (hown : w.ownsRow base 3 1 v L.length (intsL L)) (h7 : L.length ≤ 7) :
    Calls Tryz.prog 131 #[.string s, .agg (sixL v (L.length : Int) ⟨#[]⟩).toArray] w fun e w' => Whole6Post (L ++ List.replicate (8 - L.length) 0) true w e w' := by
  generalize hQ : (fun e w' => Whole6Post (L ++ List.replicate (8 - L.length) 0) true w e w') = Q
  have HQ : Hid _ := hQ
  clear hQ
  obtain ⟨a, cap, rfl, hlen, hz⟩ := own_form hown
  have hbx := blk_new w (.cells (sixL (.slice a L.length cap) (L.length : Int) ⟨#[]⟩).toArray 185)
  have hB0 := (Below.refl w.heap.size w).alloc (Nat.le_refl _) (.cells (sixL (.slice a L.length cap) (L.length : Int) ⟨#[]⟩).toArray 185)
  have hz0 : (w.alloc (.cells (sixL (.slice a L.length cap) (L.length : Int) ⟨#[]⟩).toArray 185)).heap.size = w.heap.size + 1 := by simp
  have hgr := fun W => group_ref ⟨#[]⟩ W (by decide)
  have eg : grpB (txt ⟨#[]⟩) = false := rfl
  rw [eg] at hgr
  have HG : Hid _ := hgr
  clear hgr eg
  go_enter Tryz.func131, Tryz.ntmps131
  generalize hW0 : w.alloc (.cells (sixL (.slice a L.length cap) (L.length : Int) ⟨#[]⟩).toArray 185) = W0 at *
  have hbxA : ∀ y : Hi W0, y.W.heap[w.heap.size]? = _ := fun y => Hi.blk hbx y
  have hown1 := World.ownsRow_lit (base := W0.heap.size) (e := 3) (size := 1) W0 #[] 0 (Nat.le_refl _) (by decide) rfl
  have hcL : ∀ (x : Addr), a = some x → ∀ (j : Nat) u, (intsL L)[j]? = some u → (W0.alloc (.cells #[] 3)).cell? (x.add j) = some u := by
    intro x hx j u hj
    rcases hz with hz | ⟨g, hg, _, hgl, hc⟩
    · rw [List.length_eq_zero_iff.1 hz] at hj
      simp [intsL] at hj
    · rw [hx] at hg
      cases hg
      rw [Go.WideShapes.add_plain]
      have e1 := hc j u hj
      have hb1 : Below W0.heap.size W0 (W0.alloc (.cells #[] 3)) := (Below.refl _ W0).alloc (Nat.le_refl _) _
      rw [Nat.zero_add]
      exact (hb1.cell (p := ⟨g, j, none⟩) (Nat.lt_of_lt_of_le hgl hB0.size)).trans ((hB0.cell (p := ⟨g, j, none⟩) hgl).trans e1)
  obtain ⟨v2, W2, hrun, hown2, hgrow, _⟩ := own_append elem_int (c := cap) (m := L.length) hown1 a (intsL L) (by simp [intsL]) (fun h => by
      rcases hz with hz | ⟨g, hg, _⟩
      · exact hz
      · rw [h] at hg; cases hg) hcL (fun u hu => by obtain ⟨z, _, rfl⟩ := List.mem_map.1 hu; rfl) (by unfold maxLen; omega) (by omega) (by simp) 137
  simp only [Array.toList_empty, List.nil_append, Nat.zero_add] at hown2
  obtain ⟨a2, cap2, rfl, _, hz2⟩ := own_form hown2
  have hB2 : Below W0.heap.size W0 W2 := ((Below.refl _ W0).alloc (Nat.le_refl _) _).grown hgrow (by simp) (fun k hk => (hown1.lt k hk).1)
  have hbx2 : ∀ y : Hi W2, y.W.heap[w.heap.size]? = some (.cells (sixL (.slice a L.length cap) (L.length : Int) ⟨#[]⟩).toArray 185) := fun y => Hi.blk ((hB2.block _ (by omega)).trans hbx) y
  have hc0 : ∀ y : Hi W2, y.W.cell? ⟨w.heap.size, 0, none⟩ = some (.slice a L.length cap) := fun y => blk_cell (hbx2 y) rfl
  have hc1 : ∀ y : Hi W2, y.W.cell? ⟨w.heap.size, 1, none⟩ = some (.int .i64 (L.length : Int)) := fun y => blk_cell (hbx2 y) rfl
  have hc2 : ∀ y : Hi W2, y.W.cell? ⟨w.heap.size, 2, none⟩ = some (.string ⟨#[]⟩) := fun y => blk_cell (hbx2 y) rfl
  have H0 : Hid _ := hrun
  have d0 : (W0.alloc (.cells #[] 3)).cell? ⟨w.heap.size, 0, none⟩ = some (.slice a L.length cap) := blk_cell (blk_alloc hbx _) rfl
  have e2 := hc2 (Hi.refl W2)
  have e1 := hc1 (Hi.refl W2)
  have e0 := hc0 (Hi.refl W2)
  simp only [Hi.refl] at e0 e1 e2
  have hB3 : Below w.heap.size w W2 := hB0.trans (hB2.mono (by omega))
  have hsz2 : w.heap.size + 1 ≤ W2.heap.size := by have := hB2.size; omega
  have HZ0 : Hid _ := hz0
  clear hrun hown1 hgrow hcL hbxA hz0
  go_wp2_with (at_builtin; refine wpList_append_run rfl _ _ _ _ rfl rfl rfl H0.out ?_; clear H0)
  refine (HG.out W2).mono ?_
  rintro e W3 ⟨rfl, rfl⟩
  have q0 : ((L.length : Int) == (L.length : Int)) = true := by simp
  have hl7 : ((L.length : Nat) : Int) ≤ 7 := by omega
  go_wp2
  go_loopw [10, 11] (fun out i wr => ∃ k : Nat, k ≤ L.length + 1 ∧ i = .int .i64 k ∧ wr.ownsRow W3.heap.size 3 1 out (outK L L.length k).length (intsL (outK L L.length k)) ∧ Below W3.heap.size W3 wr) (fun _ i _ => L.length + 1 - (intOf i).toNat)
  case atStart => exact ⟨0, Nat.zero_le _, rfl, World.ownsRow_nil _ _ _ _, Below.refl _ _⟩
  case round =>
    obtain ⟨k, hk, rfl, hout, hBr⟩ := hrel
    have hszr := hBr.size
    by_cases hlt : k ≤ L.length
    · have hmk := outK_len L L.length k h7
      by_cases hkn : k = L.length
      · subst hkn
        have hst : outK L L.length L.length = L := by
          unfold outK
          rw [if_pos (Nat.le_refl _), List.take_of_length_le (Nat.le_refl _)]
        rw [hst] at hout
        have HO : Hid _ := hout
        clear hout
        go_wp2
        go_loopw [10, 12] (fun out j wr => ∃ m : Nat, m ≤ 8 - L.length ∧ j = .int .i64 (L.length + m : Nat) ∧ wr.ownsRow W3.heap.size 3 1 out (L ++ List.replicate m 0).length (intsL (L ++ List.replicate m 0)) ∧ Below W3.heap.size W3 wr) (fun _ j _ => 8 - (intOf j).toNat)
        case atStart => exact ⟨0, Nat.zero_le _, rfl, by rw [List.replicate_zero, List.append_nil]; exact HO.out, hBr⟩
        case round =>
          clear HO
          obtain ⟨m, hm, rfl, hou, hBq⟩ := hrel
          have hszq := hBq.size
          by_cases hm8 : L.length + m < 8
          · obtain ⟨v', w1, hrun, hown', hgrow⟩ := own_num hou hszq (by simp; omega) 0 137
            have hB1 := below_grown hBq hou hgrow hszq
            have e : L ++ List.replicate m 0 ++ [0] = L ++ List.replicate (m + 1) 0 := by rw [List.append_assoc, List.replicate_succ']
            rw [e] at hown'
            have H0 : Hid _ := hrun
            have HO : Hid _ := hown'
            have HB1 : Hid _ := hB1
            have f1 := (Hi.mk wr (hBq)).below.cell (p := ⟨w.heap.size, 1, none⟩) (by show w.heap.size < W3.heap.size; omega)
            have f2 : wr.cell? ⟨w.heap.size, 1, none⟩ = some (.int .i64 (L.length : Int)) := f1.trans e1
            have hq : ((L.length + m : Nat) : Int) < 8 := by omega
            clear hrun hown' hB1 hou e f1
            go_wp2_with (at_builtin; refine wpList_append_run rfl _ _ _ _ rfl rfl rfl H0.out ?_; clear H0)
            exact ⟨⟨m + 1, by omega, by simp; omega, HO.out, HB1.out⟩, by simp [intOf]; omega⟩
          · obtain rfl : m = 8 - L.length := by omega
            have f1 := (Hi.mk wr (hBq)).below.cell (p := ⟨w.heap.size, 1, none⟩) (by show w.heap.size < W3.heap.size; omega)
            have f2 : wr.cell? ⟨w.heap.size, 1, none⟩ = some (.int .i64 (L.length : Int)) := f1.trans e1
            have hq : ¬ ((L.length + (8 - L.length) : Nat) : Int) < 8 := by omega
            have ho := outK_all L L.length (Nat.le_refl _)
            rw [List.take_of_length_le (Nat.le_refl _), List.drop_length, List.append_nil] at ho
            have HO : Hid _ := hou
            have HE : Hid _ := ho
            clear hou f1 ho
            go_wp2
            exact ⟨⟨L.length + 1, by omega, by simp, by rw [HE.out]; exact HO.out, hBq⟩, by simp [intOf]⟩
      · have hkl : k < L.length := by omega
        have hx : L[k]? = some L[k] := by simp [hkl]
        have hmn := midK_next L L.length k _ (Nat.le_refl _) hx
        have hmo : midK L L.length k = outK L L.length k := by unfold midK; rw [if_neg hkn]
        rw [hmo] at hmn
        rcases hz2 with hz2 | ⟨g, rfl, hgb, hgl, hc⟩
        · omega
        have hck := (hBr.cell (p := ⟨g, k, none⟩) hgl).trans (hc k (.int .i64 L[k]) (by rw [intsL, List.getElem?_map, hx]; rfl))
        have f1 := (hBr.cell (p := ⟨w.heap.size, 1, none⟩) (by show w.heap.size < W3.heap.size; omega)).trans e1
        obtain ⟨v', w1, hrun, hown', hgrow⟩ := own_num hout hszr (by omega) L[k] 137
        have hB1 := below_grown hBr hout hgrow hszr
        rw [hmn] at hown'
        have H0 : Hid _ := hrun
        have HO : Hid _ := hown'
        have HB1 : Hid _ := hB1
        have hq : ((k : Int) == (L.length : Int)) = false := by simp; omega
        have hq2 : (k : Int) < (L.length : Int) := by omega
        clear hrun hown' hB1 hmn hmo hc hx hout
        generalize L[k] = z at *
        go_wp2
        go_loopw [10, 12] (fun out j wr' => out = u10 ∧ j = .int .i64 (L.length : Int) ∧ wr' = wr) (fun _ j _ => 0)
        case atStart => exact ⟨rfl, rfl, rfl⟩
        case round =>
          obtain ⟨rfl, rfl, rfl⟩ := hrel
          go_wp2_with (at_builtin; refine wpList_append_run rfl _ _ _ _ rfl rfl rfl H0.out ?_; clear H0)
          exact ⟨⟨k + 1, by omega, by simp, HO.out, HB1.out⟩, by simp [intOf]; omega⟩
    · obtain rfl : k = L.length + 1 := by omega
      have ho := outK_all L L.length (Nat.le_refl _)
      rw [List.take_of_length_le (Nat.le_refl _), List.drop_length, List.append_nil] at ho
      rw [ho] at hout
      have HO : Hid _ := hout
      clear hout ho
      go_wp2
      rw [← HQ.out]
      exact ⟨_, rfl, row_base HO.out (by omega), hB3.trans (hBr.mono (by omega))⟩

end Go.Proofs.YtaebknkjhhcneaaGreatDoor

namespace Go.Proofs.YtaebknkjhhcneaaGreatDoor
set_option linter.unusedVariables false
set_option linter.unusedSimpArgs false
open Go Go.RowKit

abbrev zero16 : List Int := [0, 0, 0, 0, 0, 0, 0, 0, 0, 0, 0, 0, 0, 0, 0, 0]

abbrev zero16V : List Value := [.int .u8 0, .int .u8 0, .int .u8 0, .int .u8 0, .int .u8 0, .int .u8 0, .int .u8 0, .int .u8 0, .int .u8 0, .int .u8 0, .int .u8 0, .int .u8 0, .int .u8 0, .int .u8 0, .int .u8 0, .int .u8 0]
theorem zero16V_one : ∀ v ∈ zero16V, v.oneCell' = true := b8_one zero16

def byK (g : List Int) (k : Nat) : List Int := ((g.take k).map (fun z => [z / 256, z % 256])).flatten ++ List.replicate (16 - 2 * k) 0

theorem list8 {l : List Int} (h : l.length = 8) : ∃ a b c d e f g i, l = [a, b, c, d, e, f, g, i] := by
  match l, h with
  | [a, b, c, d, e, f, g, i], _ => exact ⟨a, b, c, d, e, f, g, i, rfl⟩

/-- An IPv6 address that a parser answers, the place of its fault, and its error. -/
def Par6 (r : List Int × Int × Int) : Value := .tuple #[.agg (b8 r.1).toArray, .int .i64 r.2.1, .int .i64 r.2.2]

def Par6Post (r : List Int × Int × Int) (w : World) (e : Ending) (w' : World) : Prop := e = .returned (Par6 r) ∧ Below w.heap.size w w'

set_option maxHeartbeats 4000000 in
set_option maxRecDepth 100000 in
theorem Parse6_gap (s : ByteArray) (L : List Int) (w : World) (hrd : ∀ W, Calls Tryz.prog 130 #[.string s] W fun e w' => Read6Post s W e w') (hL : read6 (txt s) s.size 0 ⟨[], -1, []⟩ = (⟨L, (L.length : Int), []⟩, s.size)) (h7 : L.length ≤ 7) (hz : ∀ z ∈ L, 0 ≤ z ∧ z < 65536) :
    Calls Tryz.prog 93 #[.string s] w fun e w' => Par6Post (byK (L ++ List.replicate (8 - L.length) 0) 8, 0, 0) w e w' := by
  generalize hQ : (fun e w' => Par6Post (byK (L ++ List.replicate (8 - L.length) 0) 8, 0, 0) w e w') = Q
  have HQ : Hid _ := hQ
  clear hQ
  have hb0 := blk_new w (.cells zero16V.toArray 24)
  have hB0 := (Below.refl w.heap.size w).alloc (Nat.le_refl _) (.cells zero16V.toArray 24)
  have hz0 : (w.alloc (.cells zero16V.toArray 24)).heap.size = w.heap.size + 1 := by simp
  have HZ0 : Hid _ := hz0
  have HRD : Hid _ := hrd
  clear hrd hz0
  go_enter Tryz.func93, Tryz.ntmps93
  go_wp2_with fail
  generalize hW : w.alloc (.cells zero16V.toArray 24) = W0 at *
  clear hW
  refine (HRD.out W0).mono ?_
  rintro e w1 ⟨v, p, rfl, hrow, hp, hB1⟩
  rw [hL] at hrow hp ⊢
  simp only at hrow hp ⊢
  have hpe : p = ⟨#[]⟩ := by
    have h0 := (txt_empty p).1 hp
    cases p with
    | mk d => simp only [ByteArray.size] at h0; simp [Array.size_eq_zero_iff.1 h0]
  subst hpe
  have hz0 := HZ0.out
  have hb1 := (hB1.block _ (by omega)).trans hb0
  have hBw1 := hB0.trans (hB1.mono (by omega))
  obtain ⟨a, cap, rfl, _⟩ := own_form hrow
  obtain ⟨w2, hst, bx2, hB2⟩ := box_new Tryz.sizeOf185 w1 (sixL (.slice none 0 0) 0 ⟨#[]⟩) rfl (sixL (.slice a L.length cap) (L.length : Int) ⟨#[]⟩) rfl (by simp [sixL, Value.oneCell'])
  have hrow2 := row_kept hrow (fun g _ hg => hB2.block g hg)
  have hwh := Whole6_empty s _ L _ w2 hrow2 h7
  have hb2 := (hB2.block _ (Nat.lt_of_lt_of_le (by omega) hB1.size)).trans hb1
  have hBw2 := hBw1.trans (hB2.mono hBw1.size)
  have HST : Hid _ := hst
  have HL6 : Hid _ := agg_load (t := 185) Tryz.isAgg185 Tryz.sizeOf185 rfl (CellsAt.of_blk bx2)
  have HWH : Hid _ := hwh
  have hlt2 : w.heap.size < w2.heap.size := Nat.lt_of_lt_of_le (by omega) (Nat.le_trans hB1.size hB2.size)
  clear hst hwh hrow hrow2 hp hb0 hB0 hz0 HZ0 HRD hb1 hBw1
  go_wp2_with first
    | ((with_reducible show wpList _ _ _ _ _ _); refine armS (.tmp 5) (.tmp 14) 185 rfl rfl rfl rfl HST.out ?_)
    | ((with_reducible show wpList _ _ _ _ _ _); refine armL (.tmp 5) 185 rfl rfl rfl HL6.out ?_)
  refine Calls.mono HWH.out ?_
  rintro e w3 ⟨v3, rfl, hrow3, hB3⟩
  have hb3 := (hB3.block _ hlt2).trans hb2
  have hBw3 := hBw2.trans (hB3.mono hBw2.size)
  generalize hG : L ++ List.replicate (8 - L.length) 0 = G at *
  have hG8 : G.length = 8 := by rw [← hG]; simp; omega
  have hGz : ∀ z ∈ G, 0 ≤ z ∧ z < 65536 := by
    intro z hh
    rw [← hG] at hh
    rcases List.mem_append.1 hh with hh | hh
    · exact hz z hh
    · have := List.eq_of_mem_replicate hh
      subst this
      decide
  clear hG
  obtain ⟨a3, cap3, rfl, _, hz3⟩ := own_form hrow3
  rw [hG8] at hz3
  rcases hz3 with hz3 | ⟨g, rfl, _, hg, hc⟩
  · omega
  obtain ⟨w4, hst4, b4, hB4⟩ := box_new Tryz.sizeOf24 w3 zero16V rfl zero16V rfl zero16V_one
  have HST4 : Hid _ := hst4
  have hb4 := (hB4.block _ (Nat.lt_of_lt_of_le hlt2 hB3.size)).trans hb3
  have hBw4 := hBw3.trans (hB4.mono hBw3.size)
  have hc4 : ∀ (j : Nat) u, (intsL G)[j]? = some u → w4.cell? ⟨g, j, none⟩ = some u := fun j u hj => (hB4.cell (p := ⟨g, j, none⟩) hg).trans (hc j u hj)
  have hlt3 : w.heap.size < w3.heap.size := Nat.lt_of_lt_of_le hlt2 hB3.size
  clear hst4 hrow3 hb2 hb3 hc hB3 hBw2 HWH HST HL6 bx2 hB2 hlt2
  rw [hG8]
  go_wp2_with ((with_reducible show wpList _ _ _ _ _ _); refine armS (.tmp 9) (.tmp 32) 24 rfl rfl rfl rfl HST4.out ?_)
  go_loopw [10] (fun i wr => ∃ k : Nat, k ≤ 8 ∧ i = .int .i64 k ∧ wr.heap[w3.heap.size]? = some (.cells (b8 (byK G k)).toArray 24) ∧ Only w3.heap.size w4 wr) (fun i _ => 8 - (intOf i).toNat)
  case atStart => exact ⟨0, Nat.zero_le _, rfl, b4, Only.refl _ _⟩
  case round =>
    obtain ⟨k, hk, rfl, hbk, hon⟩ := hrel
    by_cases hlt : k < 8
    · obtain ⟨z0, z1, z2, z3, z4, z5, z6, z7, rfl⟩ := list8 hG8
      have ff := blk_open hbk
      have hkk : k = 0 ∨ k = 1 ∨ k = 2 ∨ k = 3 ∨ k = 4 ∨ k = 5 ∨ k = 6 ∨ k = 7 := by omega
      have hcr : ∀ (j : Nat) u, (intsL [z0, z1, z2, z3, z4, z5, z6, z7])[j]? = some u → wr.cell? ⟨g, j, none⟩ = some u := fun j u hj => ((hon.below (B := w3.heap.size) (Nat.le_refl _)).cell (p := ⟨g, j, none⟩) hg).trans (hc4 j u hj)
      clear hc4 hG8 HQ
      rcases hkk with rfl | rfl | rfl | rfl | rfl | rfl | rfl | rfl
      · have hzk := hGz z0 (by simp)
        have r1 := hcr 0 _ rfl
        have r2 := blk_cell hbk (j := 0) rfl
        have r3 := blk_cell hbk (j := 1) rfl
        have HS : Hid _ := blk_set (blk_set hbk 0 (.int .u8 (z0 / 256))) 1 (.int .u8 (z0 % 256))
        have HO : Hid _ := ((hon.set 0 (.int .u8 (z0 / 256))).set 1 (.int .u8 (z0 % 256))).drew
        clear hcr hGz hk hlt
        go_wp2_with fail
        go_region
        go_wp2
        exact ⟨⟨1, by decide, by simp, HS.out, HO.out⟩, by simp [intOf]⟩
      · have hzk := hGz z1 (by simp)
        have r1 := hcr 1 _ rfl
        have r2 := blk_cell hbk (j := 2) rfl
        have r3 := blk_cell hbk (j := 3) rfl
        have HS : Hid _ := blk_set (blk_set hbk 2 (.int .u8 (z1 / 256))) 3 (.int .u8 (z1 % 256))
        have HO : Hid _ := ((hon.set 2 (.int .u8 (z1 / 256))).set 3 (.int .u8 (z1 % 256))).drew
        clear hcr hGz hk hlt
        go_wp2_with fail
        go_region
        go_wp2
        exact ⟨⟨2, by decide, by simp, HS.out, HO.out⟩, by simp [intOf]⟩
      · have hzk := hGz z2 (by simp)
        have r1 := hcr 2 _ rfl
        have r2 := blk_cell hbk (j := 4) rfl
        have r3 := blk_cell hbk (j := 5) rfl
        have HS : Hid _ := blk_set (blk_set hbk 4 (.int .u8 (z2 / 256))) 5 (.int .u8 (z2 % 256))
        have HO : Hid _ := ((hon.set 4 (.int .u8 (z2 / 256))).set 5 (.int .u8 (z2 % 256))).drew
        clear hcr hGz hk hlt
        go_wp2_with fail
        go_region
        go_wp2
        exact ⟨⟨3, by decide, by simp, HS.out, HO.out⟩, by simp [intOf]⟩
      · have hzk := hGz z3 (by simp)
        have r1 := hcr 3 _ rfl
        have r2 := blk_cell hbk (j := 6) rfl
        have r3 := blk_cell hbk (j := 7) rfl
        have HS : Hid _ := blk_set (blk_set hbk 6 (.int .u8 (z3 / 256))) 7 (.int .u8 (z3 % 256))
        have HO : Hid _ := ((hon.set 6 (.int .u8 (z3 / 256))).set 7 (.int .u8 (z3 % 256))).drew
        clear hcr hGz hk hlt
        go_wp2_with fail
        go_region
        go_wp2
        exact ⟨⟨4, by decide, by simp, HS.out, HO.out⟩, by simp [intOf]⟩
      · have hzk := hGz z4 (by simp)
        have r1 := hcr 4 _ rfl
        have r2 := blk_cell hbk (j := 8) rfl
        have r3 := blk_cell hbk (j := 9) rfl
        have HS : Hid _ := blk_set (blk_set hbk 8 (.int .u8 (z4 / 256))) 9 (.int .u8 (z4 % 256))
        have HO : Hid _ := ((hon.set 8 (.int .u8 (z4 / 256))).set 9 (.int .u8 (z4 % 256))).drew
        clear hcr hGz hk hlt
        go_wp2_with fail
        go_region
        go_wp2
        exact ⟨⟨5, by decide, by simp, HS.out, HO.out⟩, by simp [intOf]⟩
      · have hzk := hGz z5 (by simp)
        have r1 := hcr 5 _ rfl
        have r2 := blk_cell hbk (j := 10) rfl
        have r3 := blk_cell hbk (j := 11) rfl
        have HS : Hid _ := blk_set (blk_set hbk 10 (.int .u8 (z5 / 256))) 11 (.int .u8 (z5 % 256))
        have HO : Hid _ := ((hon.set 10 (.int .u8 (z5 / 256))).set 11 (.int .u8 (z5 % 256))).drew
        clear hcr hGz hk hlt
        go_wp2_with fail
        go_region
        go_wp2
        exact ⟨⟨6, by decide, by simp, HS.out, HO.out⟩, by simp [intOf]⟩
      · have hzk := hGz z6 (by simp)
        have r1 := hcr 6 _ rfl
        have r2 := blk_cell hbk (j := 12) rfl
        have r3 := blk_cell hbk (j := 13) rfl
        have HS : Hid _ := blk_set (blk_set hbk 12 (.int .u8 (z6 / 256))) 13 (.int .u8 (z6 % 256))
        have HO : Hid _ := ((hon.set 12 (.int .u8 (z6 / 256))).set 13 (.int .u8 (z6 % 256))).drew
        clear hcr hGz hk hlt
        go_wp2_with fail
        go_region
        go_wp2
        exact ⟨⟨7, by decide, by simp, HS.out, HO.out⟩, by simp [intOf]⟩
      · have hzk := hGz z7 (by simp)
        have r1 := hcr 7 _ rfl
        have r2 := blk_cell hbk (j := 14) rfl
        have r3 := blk_cell hbk (j := 15) rfl
        have HS : Hid _ := blk_set (blk_set hbk 14 (.int .u8 (z7 / 256))) 15 (.int .u8 (z7 % 256))
        have HO : Hid _ := ((hon.set 14 (.int .u8 (z7 / 256))).set 15 (.int .u8 (z7 % 256))).drew
        clear hcr hGz hk hlt
        go_wp2_with fail
        go_region
        go_wp2
        exact ⟨⟨8, by decide, by simp, HS.out, HO.out⟩, by simp [intOf]⟩
    · obtain rfl : k = 8 := by omega
      have hlb : (b8 (byK G 8)).length = 16 := by
        obtain ⟨z0, z1, z2, z3, z4, z5, z6, z7, rfl⟩ := list8 hG8
        rfl
      have hbR := ((hon.below (B := w3.heap.size) (Nat.le_refl _)).block _ hlt3).trans hb4
      have hBR : Below w.heap.size w wr := hBw4.trans (hon.below (by omega))
      have hL := agg_load (t := 24) Tryz.isAgg24 Tryz.sizeOf24 hlb (CellsAt.of_blk hbk)
      obtain ⟨wE, hst, bE, honE⟩ := box_store Tryz.sizeOf24 hbR rfl (b8 (byK G 8)) hlb (b8_one _)
      have hlv := agg_loadVar (t := 24) Tryz.isAgg24 Tryz.sizeOf24 hlb (CellsAt.of_blk bE)
      have HBE : Hid (Below w.heap.size w wE) := hBR.trans (honE.below (Nat.le_refl _))
      have HL : Hid _ := hL
      have HSQ : Hid _ := hst
      have HLV : Hid _ := hlv
      clear hL hst hlv bE honE hbR hBR hbk hon
      go_wp2_with first
        | ((with_reducible show wpList _ _ _ _ _ _); refine armL (.tmp 9) 24 rfl rfl rfl HL.out ?_)
        | ((with_reducible show wpList _ _ _ _ _ _); refine armS (.tmp 2) (.tmp 56) 24 rfl rfl rfl rfl HSQ.out ?_)
      refine bodyPost_ret (res3c Tryz.results93 rfl HLV.out) rfl ?_
      rw [← HQ.out]
      exact ⟨rfl, HBE.out⟩

end Go.Proofs.YtaebknkjhhcneaaGreatDoor
