/-
  The contracts of the document's answer for package sum: Update, Neutral.
-/
import Derived.Test.YtbaeogoojpngbaaRef
namespace Go.Proofs.Ytbaeogoojpngbaa
open Go Go.RowKit Go.Shelf

/-- A contract, kept out of the walk's sight. -/
def HidCalls (f : FuncId) (args : Array Value) (w : World) (R : Ending → World → Prop) : Prop := Calls Try.prog f args w R
theorem calls_hide {f : FuncId} {args : Array Value} {w : World} {R : Ending → World → Prop} (h : Calls Try.prog f args w R) : HidCalls f args w R := h
theorem calls_show {f : FuncId} {args : Array Value} {w : World} {R : Ending → World → Prop} (h : HidCalls f args w R) : Calls Try.prog f args w R := h

/-- A row of one's own lies on while nothing that lay has turned. -/
theorem own_below {w w' : World} {base n : Nat} {e : TypeId} {v : Value} {xs : List Value} (h : w.ownsRow base e 1 v n xs) (hb : Below w.heap.size w w') : w'.ownsRow base e 1 v n xs :=
  h.kept (row := none) ⟨hb.os, hb.tape, hb.output, hb.size, fun k hk _ => hb.block k hk⟩ (by cases hv : v.ownBlock <;> simp)

theorem own_lit (w : World) (x : Int) : (w.alloc (.cells #[.int .i64 x] 3)).ownsRow w.heap.size 3 1 (.slice (some ⟨w.heap.size, 0, none⟩) 1 1) 1 (intsV [x]) :=
  ⟨rfl, .inr ⟨w.heap.size, 1, _, rfl, Nat.le_refl _, World.alloc_heap_new w _, Nat.le_refl _, by decide, rfl, rfl⟩⟩

/-- The words of a row, turned, behind the words ys, when k of them have come. -/
def turnedTo (ys xs : List Int) (k : Nat) : List Int := ys ++ (xs.take k).map (fun z => 65535 - z)
theorem turnedTo_succ (ys xs : List Int) (k : Nat) (x : Int) (h : xs[k]? = some x) : intsV (turnedTo ys xs (k + 1)) = intsV (turnedTo ys xs k) ++ [.int .i64 (65535 - x)] := by
  obtain ⟨hk, rfl⟩ := List.getElem?_eq_some_iff.1 h
  rw [turnedTo, turnedTo, List.take_succ_eq_append_getElem hk, List.map_append, ← List.append_assoc, intsV, List.map_append]
  rfl
theorem turnedTo_length (ys xs : List Int) (k : Nat) (h : k ≤ xs.length) : (turnedTo ys xs k).length = ys.length + k := by
  simp [turnedTo]; omega

theorem turnedTo_all (x : Int) (hx : 0 ≤ x ∧ x ≤ 65535) (xs ys : List Int) : sumW 0 (turnedTo [x] xs xs.length ++ ys) = sumW (sumW x (xs.map (fun z => 65535 - z))) ys := by
  have e : addW 0 x = x := by unfold addW; rw [if_pos (by omega)]; omega
  rw [turnedTo, List.take_length, sumW_append, sumW_append]
  have e2 : sumW 0 [x] = x := e
  rw [e2]
theorem turnedTo_words (zs xs ys : List Int) (k : Nat) (hz : Words zs) (h : Words xs) (hy : Words ys) : Words (turnedTo zs xs k ++ ys) := by
  refine Words.append (Words.append hz (turn_words ?_)) hy
  exact fun z hz => h z (List.mem_of_mem_take hz)

theorem turnedTo_sum (zs xs : List Int) : sumW 0 (turnedTo zs xs xs.length) = sumW (sumW 0 zs) (xs.map (fun z => 65535 - z)) := by
  rw [turnedTo, List.take_length, sumW_append]

end Go.Proofs.Ytbaeogoojpngbaa
