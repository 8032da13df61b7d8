/-
  Maps whose keys are arrays and whose elements are pointers.
-/
import Derived.Test.YtgndiblonhgihaaSixM
import Derived.Test.YtgndiblonhgihaaQrg
import Derived.MapKept
namespace Go.Proofs.Ytgndiblonhgihaa
open Go Go.RowKit
set_option linter.unusedVariables false
set_option linter.unusedSimpArgs false

/-- A key that may be: an array of 16 bytes. -/
structure K16 (l : List Int) : Prop where
  fit : FitB l
  len : l.length = 16
set_option maxRecDepth 100000 in
theorem chk16t (a0 a1 a2 a3 a4 a5 a6 a7 a8 a9 a10 a11 a12 a13 a14 a15 : Int) (w : World) : (Instr.checkKey true 10000 35 (.agg (u8s [a0, a1, a2, a3, a4, a5, a6, a7, a8, a9, a10, a11, a12, a13, a14, a15]).toArray)).run Try.prog w = .ok () w := by kernel_rfl
set_option maxRecDepth 100000 in
theorem chk16f (a0 a1 a2 a3 a4 a5 a6 a7 a8 a9 a10 a11 a12 a13 a14 a15 : Int) (w : World) : (Instr.checkKey false 10000 35 (.agg (u8s [a0, a1, a2, a3, a4, a5, a6, a7, a8, a9, a10, a11, a12, a13, a14, a15]).toArray)).run Try.prog w = .ok () w := by kernel_rfl
theorem chk16 {l : List Int} (h : l.length = 16) (b : Bool) (w : World) : (Instr.checkKey b 10000 35 (.agg (u8s l).toArray)).run Try.prog w = .ok () w := by
  match l, h with
  | [a0, a1, a2, a3, a4, a5, a6, a7, a8, a9, a10, a11, a12, a13, a14, a15], _ =>
    cases b
    · exact chk16f a0 a1 a2 a3 a4 a5 a6 a7 a8 a9 a10 a11 a12 a13 a14 a15 w
    · exact chk16t a0 a1 a2 a3 a4 a5 a6 a7 a8 a9 a10 a11 a12 a13 a14 a15 w
/-- The first entry of a key. -/
def fnd (d : List Int) : List (List Int × Nat) → Nat → Option (Nat × Nat)
  | [], _ => none
  | x :: r, i => if d = x.1 then some (i, x.2) else fnd d r (i + 1)
def EntR (e : MapEntry) (x : List Int × Nat) : Prop := e.key = .agg (u8s x.1).toArray ∧ e.val = .pointer (some ⟨x.2, 0, none⟩)
/-- What a map's entries are. -/
inductive MapC : List MapEntry → List (List Int × Nat) → Prop
  | nil : MapC [] []
  | cons {e : MapEntry} {x : List Int × Nat} {es : List MapEntry} {L : List (List Int × Nat)} : EntR e x → MapC es L → MapC (e :: es) (x :: L)
theorem MapC.app {es fs : List MapEntry} {L M : List (List Int × Nat)} (h : MapC es L) (g : MapC fs M) : MapC (es ++ fs) (L ++ M) := by
  induction h with
  | nil => exact g
  | cons h1 h2 ih => exact .cons h1 ih
theorem MapC.cut {es : List MapEntry} {L : List (List Int × Nat)} (h : MapC es L) : ∀ i : Nat, MapC (es.eraseIdx i) (L.eraseIdx i) := by
  induction h with
  | nil => intro i; exact .nil
  | cons h1 h2 ih =>
    intro i
    cases i with
    | zero => exact h2
    | succ i => exact .cons h1 (ih i)
theorem ask16 {d : List Int} (hd : K16 d) (w : World) : ∀ {es : List MapEntry} {L : List (List Int × Nat)} (i : Nat), MapC es L → (∀ x ∈ L, K16 x.1) → (Instr.findAsking 35 (.agg (u8s d).toArray) es i).run Try.prog w = .ok ((fnd d L i).map fun r => (r.1, .pointer (some ⟨r.2, 0, none⟩))) w := by
  intro es L i h
  induction h generalizing i with
  | nil => intro _; rfl
  | cons h1 h2 ih =>
    rename_i e x es L
    intro hL
    have hx := hL x (by simp)
    have he : (Op.equal 35 (.agg (u8s d).toArray) e.key).run Try.prog w = .ok (decide (d = x.1)) w := by
      rw [h1.1]
      exact eq_arr16 9998 d x.1 hd.fit hx.fit hd.len hx.len w
    unfold Instr.findAsking
    simp only [Sem.run_bind, he, Result.andThen_ok]
    unfold fnd
    by_cases c : d = x.1
    · rw [if_pos c, decide_eq_true c]
      simp [h1.2]
    · rw [if_neg c, decide_eq_false c]
      simp only [Bool.false_eq_true, if_false]
      exact ih (i + 1) (fun y hy => hL y (by simp [hy]))
theorem now16 {d : List Int} {es : List MapEntry} {L : List (List Int × Nat)} (h : MapC es L) : Instr.findNow (.array 16 5) (.agg (u8s d).toArray) es 0 = (if es = [] then some none else none) := by
  cases h with
  | nil => rfl
  | cons h1 h2 => rfl
theorem find16 {d : List Int} (hd : K16 d) (w : World) {es : List MapEntry} {L : List (List Int × Nat)} (h : MapC es L) (hL : ∀ x ∈ L, K16 x.1) : (Instr.findKey 35 (.agg (u8s d).toArray) es).run Try.prog w = .ok ((fnd d L 0).map fun r => (r.1, .pointer (some ⟨r.2, 0, none⟩))) w := by
  have ha := ask16 hd w 0 h hL
  unfold Instr.findKey
  simp only [Sem.run_bind, run_underlying Try.underlying35, Result.andThen_ok]
  rw [now16 h]
  cases h with
  | nil => rfl
  | cons h1 h2 => exact ha
/-- A map in memory. -/
def MapAt (W : World) (mb : Nat) (L : List (List Int × Nat)) : Prop := ∃ (es : Array MapEntry) (clock : Nat), W.heap[mb]? = some (.map es clock) ∧ MapC es.toList L
theorem MapAt.on {W W' : World} {mb : Nat} {L : List (List Int × Nat)} (h : MapAt W mb L) (hb : W'.heap[mb]? = W.heap[mb]?) : MapAt W' mb L := by
  obtain ⟨es, c, h1, h2⟩ := h
  exact ⟨es, c, hb.trans h1, h2⟩
theorem MapAt.lt {W : World} {mb : Nat} {L : List (List Int × Nat)} (h : MapAt W mb L) : mb < W.heap.size := by
  obtain ⟨es, c, h1, h2⟩ := h
  exact (Array.getElem?_eq_some_iff.1 h1).1
/-- What a look-up finds. -/
def ptrF (d : List Int) (L : List (List Int × Nat)) : Value := match fnd d L 0 with | some r => .pointer (some ⟨r.2, 0, none⟩) | none => .pointer none
theorem look16 {d : List Int} (hd : K16 d) {W : World} {mb : Nat} {L : List (List Int × Nat)} (h : MapAt W mb L) (hL : ∀ x ∈ L, K16 x.1) : (Instr.lookup 61 (.map (some mb)) (.agg (u8s d).toArray) false).run Try.prog W = .ok (ptrF d L) W := by
  obtain ⟨es, c, h1, h2⟩ := h
  have hf := find16 hd W h2 hL
  have hz : (zeroValue 74).run Try.prog W = .ok (.pointer none) W := by kernel_rfl
  unfold Instr.lookup
  simp only [Sem.run_bind, run_underlying Try.underlying61, Result.andThen_ok, MapKept.run_getObj_map h1, chk16 hd.len, hf, Sem.run_pure]
  unfold ptrF
  cases hq : fnd d L 0 with
  | none => simp [hz, Result.andThen]
  | some r => simp
theorem store16 {d : List Int} (hd : K16 d) {W : World} {mb q : Nat} {L : List (List Int × Nat)} (h : MapAt W mb L) (hL : ∀ x ∈ L, K16 x.1) (hn : fnd d L 0 = none) : ∃ W', (Instr.mapUpdate 61 (.map (some mb)) (.agg (u8s d).toArray) (.pointer (some ⟨q, 0, none⟩))).run Try.prog W = .ok () W' ∧ MapAt W' mb (L ++ [(d, q)]) ∧ Only mb W W' := by
  obtain ⟨es, c, h1, h2⟩ := h
  have hf := find16 hd W h2 hL
  rw [hn] at hf
  refine ⟨{ W with heap := W.heap.setIfInBounds mb (.map (es.push { key := .agg (u8s d).toArray, val := .pointer (some ⟨q, 0, none⟩), born := c }) (c + 1)) }, ?_, ⟨_, _, (MapKept.heap_set h1).1, ?_⟩, ⟨rfl, rfl, rfl, by simp, fun j hj => (MapKept.heap_set h1).2 j hj⟩⟩
  · unfold Instr.mapUpdate
    simp only [Sem.run_bind, run_underlying Try.underlying61, Result.andThen_ok, MapKept.run_getObj_map h1, chk16 hd.len, hf, Option.map_none]
    rw [MapKept.run_setObj_map _ h1]
  · rw [Array.toList_push]
    exact h2.app (.cons ⟨rfl, rfl⟩ .nil)
theorem drop16 {d : List Int} (hd : K16 d) {W : World} {mb : Nat} {L : List (List Int × Nat)} (h : MapAt W mb L) (hL : ∀ x ∈ L, K16 x.1) {r : Nat × Nat} (hr : fnd d L 0 = some r) (ty : TypeId) : ∃ W', (Builtin.delete_ #[61, 35] ty #[.map (some mb), .agg (u8s d).toArray]).run Try.prog W = .ok (.tuple #[]) W' ∧ MapAt W' mb (L.eraseIdx r.1) ∧ Only mb W W' := by
  obtain ⟨es, c, h1, h2⟩ := h
  have hf := find16 hd W h2 hL
  rw [hr] at hf
  refine ⟨{ W with heap := W.heap.setIfInBounds mb (.map (es.eraseIdxIfInBounds r.1) c) }, ?_, ⟨_, _, (MapKept.heap_set h1).1, ?_⟩, ⟨rfl, rfl, rfl, by simp, fun j hj => (MapKept.heap_set h1).2 j hj⟩⟩
  · unfold Builtin.delete_
    simp [Sem.run_bind, run_underlying Try.underlying61, Result.andThen_ok, MapKept.run_getObj_map h1, chk16 hd.len, hf, MapKept.run_setObj_map _ h1]
  · rw [Array.toList_eraseIdxIfInBounds]
    exact h2.cut r.1
end Go.Proofs.Ytgndiblonhgihaa
