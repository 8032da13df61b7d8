/-
  What nobody made refuses all.
-/
import Derived.Test.YtgndiblonhgihaaPnJ
namespace Go.Proofs.Ytgndiblonhgihaa
open Go Go.RowKit Go.Lib
set_option linter.unusedVariables false
set_option linter.unusedSimpArgs false

/-- A cache that nobody made, whatever the world above. -/
def NobC (v : Value) (W : World) : Prop := ∀ X, Below W.heap.size W X → Calls Try.prog 26 #[v] X fun e w' => e = .returned (.bool false) ∧ w' = X
theorem nob_nil (W : World) : NobC (.pointer none) W := fun X _ => made_nil X
theorem nob_zero {W : World} {p : Nat} (h : W.heap[p]? = some (.cells [Value.pointer none].toArray 52)) : NobC (.pointer (some ⟨p, 0, none⟩)) W := fun X hX => made_zero ((hX.block _ (Array.getElem?_eq_some_iff.1 h).1).trans h)
theorem NobC.on {v : Value} {W W' : World} (h : NobC v W) (hb : Below W.heap.size W W') : NobC v W' := fun X hX => h X (hb.trans (hX.mono hb.size))
theorem nob_get {v : Value} {W : World} (h : NobC v W) (t : Int) (d : List Int) : Calls Try.prog 13 #[v, .int .i64 t, .agg (u8s d).toArray] W fun e w' => e = .returned (.tuple #[.int .i64 0, .int .i64 4]) ∧ Below W.heap.size W w' :=
  get_no t (fun X hX => check_no t (h X hX))
theorem nob_len {v : Value} {W : World} (h : NobC v W) : Calls Try.prog 12 #[v] W fun e w' => e = .returned (.int .i64 0) ∧ w' = W := by
  have H : Hid _ := h W (Below.refl _ W)
  clear h
  go_enter Try.func12, Try.ntmps12
  go_wp2_with fail
  refine Calls.mono H.out ?_
  rintro e w1 ⟨rfl, rfl⟩
  go_wp2_with fail
  try go_returns
  exact ⟨rfl, rfl⟩
theorem nob_next {v : Value} {W : World} (h : NobC v W) : Calls Try.prog 18 #[v] W fun e w' => e = .returned (.tuple #[.int .i64 0, .bool false]) ∧ w' = W := by
  have H : Hid _ := h W (Below.refl _ W)
  clear h
  go_enter Try.func18, Try.ntmps18
  go_wp2_with fail
  refine Calls.mono H.out ?_
  rintro e w1 ⟨rfl, rfl⟩
  go_wp2_with fail
  try go_returns
  exact ⟨rfl, rfl⟩
theorem nob_all {v : Value} {W : World} (h : NobC v W) (t : Int) : Calls Try.prog 17 #[v, .int .i64 t] W fun e w' => e = .returned (.tuple #[.slice none 0 0, .int .i64 4]) ∧ w' = W := by
  have H : Hid _ := check_no t (h W (Below.refl _ W))
  clear h
  go_enter Try.func17, Try.ntmps17
  go_wp2_with fail
  refine Calls.mono H.out ?_
  rintro e w1 ⟨rfl, rfl⟩
  go_wp2_with fail
  try go_returns
  exact ⟨rfl, rfl⟩
theorem nob_drop {v : Value} {W : World} (h : NobC v W) (t : Int) (d : List Int) : Calls Try.prog 16 #[v, .int .i64 t, .agg (u8s d).toArray] W fun e w' => e = .returned (.tuple #[.bool false, .int .i64 4]) ∧ Below W.heap.size W w' := by
  obtain ⟨W1, hW1⟩ : ∃ W1, W1 = W.alloc (.cells (u8s d).toArray 35) := ⟨_, rfl⟩
  have hB1 : Below W.heap.size W W1 := by rw [hW1]; exact (Below.refl W.heap.size W).alloc (Nat.le_refl _) _
  have H : Hid _ := check_no t (h W1 hB1)
  have HB : Hid (Below W.heap.size W W1) := hB1
  have hW := hW1.symm
  clear h hW1 hB1
  go_enter Try.func16, Try.ntmps16
  go_wp2_with fail
  refine Calls.mono H.out ?_
  rintro e w1 ⟨rfl, rfl⟩
  go_wp2_with fail
  try go_returns
  exact ⟨rfl, HB.out⟩
theorem nob_told {v : Value} {W : World} (h : NobC v W) (t : Int) (d : List Int) (z : Int) : Calls Try.prog 15 #[v, .int .i64 t, .agg (u8s d).toArray, .int .i64 z] W fun e w' => e = .returned (.tuple #[.bool false, .int .i64 4]) ∧ Below W.heap.size W w' := by
  obtain ⟨W1, hW1⟩ : ∃ W1, W1 = W.alloc (.cells (u8s d).toArray 35) := ⟨_, rfl⟩
  have hB1 : Below W.heap.size W W1 := by rw [hW1]; exact (Below.refl W.heap.size W).alloc (Nat.le_refl _) _
  have H : Hid _ := check_no t (h W1 hB1)
  have HB : Hid (Below W.heap.size W W1) := hB1
  have hW := hW1.symm
  clear h hW1 hB1
  go_enter Try.func15, Try.ntmps15
  go_wp2_with fail
  refine Calls.mono H.out ?_
  rintro e w1 ⟨rfl, rfl⟩
  go_wp2_with fail
  try go_returns
  exact ⟨rfl, HB.out⟩
end Go.Proofs.Ytgndiblonhgihaa
