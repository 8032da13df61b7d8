/-
  What nobody made refuses all.
  New of good settings.
-/
import Derived.Test.YtgndiblonhgihaaFold19
namespace Go.Proofs.Ytgndiblonhgihaa
open Go Go.RowKit Go.Lib
set_option linter.unusedVariables false
set_option linter.unusedSimpArgs false

/-- A cache that nobody made, whatever the world above. -/
def NobC (v : Value) (W : World) : Prop := ∀ X, Below W.heap.size W X → Calls Try.prog 26 #[v] X fun e w' => e = .returned (.bool false) ∧ w' = X
theorem nob_nil (W : World) : NobC (.pointer none) W := fun X _ => made_nil X
theorem nob_zero {W : World} {p : Nat} (h : W.heap[p]? = some (.cells [Value.pointer none].toArray 52)) : NobC (.pointer (some ⟨p, 0, none⟩)) W := fun X hX => made_zero ((hX.block _ (Array.getElem?_eq_some_iff.1 h).1).trans h)
theorem NobC.on {v : Value} {W W' : World} (h : NobC v W) (hb : Below W.heap.size W W') : NobC v W' := fun X hX => h X (hb.trans (hX.mono hb.size))
theorem nob_get {v : Value} {W : World} (h : NobC v W) (t : Int) (d : List Int) : Calls Try.prog 13 #[v, .int .i64 t, .agg (u8s d).toArray] W fun e w' => e = .returned (.tuple #[.int .i64 0, .int .i64 4]) ∧ Below W.heap.size W w' :=
  get_no t (fun X hX => check_no t (h X hX))
theorem nob_len {v : Value} {W : World} (h : NobC v W) : Calls Try.prog 12 #[v] W fun e w' => e = .returned (.int .i64 0) ∧ w' = W := by
  have H : Hid _ := h W (Below.refl _ W)
  clear h
  go_enter Try.func12, Try.ntmps12
  go_wp2_with fail
  refine Calls.mono H.out ?_
  rintro e w1 ⟨rfl, rfl⟩
  go_wp2_with fail
  try go_returns
  exact ⟨rfl, rfl⟩
theorem nob_next {v : Value} {W : World} (h : NobC v W) : Calls Try.prog 18 #[v] W fun e w' => e = .returned (.tuple #[.int .i64 0, .bool false]) ∧ w' = W := by
  have H : Hid _ := h W (Below.refl _ W)
  clear h
  go_enter Try.func18, Try.ntmps18
  go_wp2_with fail
  refine Calls.mono H.out ?_
  rintro e w1 ⟨rfl, rfl⟩
  go_wp2_with fail
  try go_returns
  exact ⟨rfl, rfl⟩
theorem nob_all {v : Value} {W : World} (h : NobC v W) (t : Int) : Calls Try.prog 17 #[v, .int .i64 t] W fun e w' => e = .returned (.tuple #[.slice none 0 0, .int .i64 4]) ∧ w' = W := by
  have H : Hid _ := check_no t (h W (Below.refl _ W))
  clear h
  go_enter Try.func17, Try.ntmps17
  go_wp2_with fail
  refine Calls.mono H.out ?_
  rintro e w1 ⟨rfl, rfl⟩
  go_wp2_with fail
  try go_returns
  exact ⟨rfl, rfl⟩
theorem nob_drop {v : Value} {W : World} (h : NobC v W) (t : Int) (d : List Int) : Calls Try.prog 16 #[v, .int .i64 t, .agg (u8s d).toArray] W fun e w' => e = .returned (.tuple #[.bool false, .int .i64 4]) ∧ Below W.heap.size W w' := by
  obtain ⟨W1, hW1⟩ : ∃ W1, W1 = W.alloc (.cells (u8s d).toArray 35) := ⟨_, rfl⟩
  have hB1 : Below W.heap.size W W1 := by rw [hW1]; exact (Below.refl W.heap.size W).alloc (Nat.le_refl _) _
  have H : Hid _ := check_no t (h W1 hB1)
  have HB : Hid (Below W.heap.size W W1) := hB1
  have hW := hW1.symm
  clear h hW1 hB1
  go_enter Try.func16, Try.ntmps16
  go_wp2_with fail
  refine Calls.mono H.out ?_
  rintro e w1 ⟨rfl, rfl⟩
  go_wp2_with fail
  try go_returns
  exact ⟨rfl, HB.out⟩
theorem nob_told {v : Value} {W : World} (h : NobC v W) (t : Int) (d : List Int) (z : Int) : Calls Try.prog 15 #[v, .int .i64 t, .agg (u8s d).toArray, .int .i64 z] W fun e w' => e = .returned (.tuple #[.bool false, .int .i64 4]) ∧ Below W.heap.size W w' := by
  obtain ⟨W1, hW1⟩ : ∃ W1, W1 = W.alloc (.cells (u8s d).toArray 35) := ⟨_, rfl⟩
  have hB1 : Below W.heap.size W W1 := by rw [hW1]; exact (Below.refl W.heap.size W).alloc (Nat.le_refl _) _
  have H : Hid _ := check_no t (h W1 hB1)
  have HB : Hid (Below W.heap.size W W1) := hB1
  have hW := hW1.symm
  clear h hW1 hB1
  go_enter Try.func15, Try.ntmps15
  go_wp2_with fail
  refine Calls.mono H.out ?_
  rintro e w1 ⟨rfl, rfl⟩
  go_wp2_with fail
  try go_returns
  exact ⟨rfl, HB.out⟩
end Go.Proofs.Ytgndiblonhgihaa

namespace Go.Proofs.Ytgndiblonhgihaa
open Go Go.RowKit Go.Lib
set_option linter.unusedVariables false
set_option linter.unusedSimpArgs false

def cfC (cf : Cf) : List Value := [.int .i64 cf.lim, .int .i64 cf.link, .int .i64 cf.life, .int .i64 cf.least]
set_option maxHeartbeats 4000000 in
set_option maxRecDepth 100000 in
theorem may_yes {cf : Cf} (h : cf.Ok) (W : World) : Calls Try.prog 19 #[.agg (cfC cf).toArray] W fun e w' => e = .returned (.bool true) ∧ Below W.heap.size W w' := by
  obtain ⟨⟨h1, h2⟩, ⟨h3, h4⟩, h5, ⟨h6, h7⟩⟩ := h
  obtain ⟨lim, link, life, least⟩ := cf
  simp only at h1 h2 h3 h4 h5 h6 h7
  have q1 : decide (lim < 1) = false := decide_eq_false (by omega)
  have q2 : decide (lim > 4096) = false := decide_eq_false (by omega)
  have q2b : decide (4096 < lim) = false := decide_eq_false (by omega)
  have q3 : decide (life < 1) = false := decide_eq_false (by omega)
  have q4 : decide (life > 2147483648) = false := decide_eq_false (by omega)
  have q4b : decide (2147483648 < life) = false := decide_eq_false (by omega)
  have q5 : decide ((68 : Int) ≤ least) = true := decide_eq_true h5
  have q6 : decide (least ≤ link) = true := decide_eq_true h6
  have q7 : decide (link ≤ 65535) = true := decide_eq_true h7
  have HB : Hid (Below W.heap.size W (W.alloc (.cells (cfC ⟨lim, link, life, least⟩).toArray 23))) := (Below.refl W.heap.size W).alloc (Nat.le_refl _) _
  unfold cfC at *
  go_enter Try.func19, Try.ntmps19
  go_wp2
  all_goals (try go_returns)
  all_goals first | exact ⟨rfl, HB.out⟩ | (refine ⟨?_, HB.out⟩; simp_all) | (exfalso; omega)
end Go.Proofs.Ytgndiblonhgihaa
