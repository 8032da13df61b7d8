/-
  A cache: made, check, Get.
-/
import Derived.Test.YtgndiblonhgihaaPnF
namespace Go.Proofs.Ytgndiblonhgihaa
open Go Go.RowKit Go.Lib
set_option linter.unusedVariables false
set_option linter.unusedSimpArgs false

/-- A cache's box. -/
def Box (W : World) (p pb : Nat) : Prop := W.heap[p]? = some (.cells [Value.pointer (some ⟨pb, 0, none⟩)].toArray 52)
theorem made_nil (W : World) : Calls Try.prog 26 #[.pointer none] W fun e w' => e = .returned (.bool false) ∧ w' = W := by
  go_enter Try.func26, Try.ntmps26
  go_wp2
  try go_returns
  exact ⟨rfl, rfl⟩
theorem made_zero {W : World} {p : Nat} (h : W.heap[p]? = some (.cells [Value.pointer none].toArray 52)) : Calls Try.prog 26 #[.pointer (some ⟨p, 0, none⟩)] W fun e w' => e = .returned (.bool false) ∧ w' = W := by
  have c0 : W.cell? ⟨p, 0, none⟩ = some (.pointer none) := blk_cell (j := 0) h rfl
  clear h
  go_enter Try.func26, Try.ntmps26
  go_wp2
  try go_returns
  exact ⟨rfl, rfl⟩
theorem made_yes {W : World} {p pb : Nat} (h : Box W p pb) : Calls Try.prog 26 #[.pointer (some ⟨p, 0, none⟩)] W fun e w' => e = .returned (.bool true) ∧ w' = W := by
  have c0 : W.cell? ⟨p, 0, none⟩ = some (.pointer (some ⟨pb, 0, none⟩)) := blk_cell (j := 0) h rfl
  clear h
  go_enter Try.func26, Try.ntmps26
  go_wp2
  try go_returns
  exact ⟨rfl, rfl⟩
/-- What nobody made refuses. -/
theorem check_no {W : World} {v : Value} (t : Int) (h : Calls Try.prog 26 #[v] W fun e w' => e = .returned (.bool false) ∧ w' = W) : Calls Try.prog 27 #[v, .int .i64 t] W fun e w' => e = .returned (.int .i64 4) ∧ w' = W := by
  have H : Hid (Calls Try.prog 26 #[v] W fun e w' => e = .returned (.bool false) ∧ w' = W) := h
  clear h
  go_enter Try.func27, Try.ntmps27
  go_wp2_with fail
  refine Calls.mono H.out ?_
  rintro e w1 ⟨rfl, rfl⟩
  go_wp2_with fail
  try go_returns
  exact ⟨rfl, rfl⟩
/-- A time at which a cache may be called. -/
def okT (now t : Int) : Prop := now ≤ t ∧ t ≤ 1099511627776
set_option maxHeartbeats 4000000 in
theorem check_yes {W : World} {p pb mb : Nat} {cf : Cf} {now : Int} {line : Value} {L : List (PE × Nat)} (hb : Box W p pb) (h : Paths pb cf now mb line L W) {t : Int} (ht : okT now t) : Calls Try.prog 27 #[.pointer (some ⟨p, 0, none⟩), .int .i64 t] W fun e w' => e = .returned (.int .i64 0) ∧ w' = W := by
  have H := made_yes hb
  have H : Hid _ := H
  have c0 : W.cell? ⟨p, 0, none⟩ = some (.pointer (some ⟨pb, 0, none⟩)) := blk_cell (j := 0) hb rfl
  have c4 := h.cell 4 _ rfl
  have q1 : decide (t < now) = false := decide_eq_false (by have := ht.1; omega)
  have q2 : decide (t > 1099511627776) = false := decide_eq_false (by have := ht.2; omega)
  have q3 : decide (1099511627776 < t) = false := decide_eq_false (by have := ht.2; omega)
  clear hb h ht
  go_enter Try.func27, Try.ntmps27
  go_wp2_with fail
  refine Calls.mono H.out ?_
  rintro e w1 ⟨rfl, rfl⟩
  go_wp2_with fail
  try go_returns
  exact ⟨rfl, rfl⟩
set_option maxHeartbeats 4000000 in
theorem check_bad {W : World} {p pb mb : Nat} {cf : Cf} {now : Int} {line : Value} {L : List (PE × Nat)} (hb : Box W p pb) (h : Paths pb cf now mb line L W) {t : Int} (ht : ¬ okT now t) : Calls Try.prog 27 #[.pointer (some ⟨p, 0, none⟩), .int .i64 t] W fun e w' => e = .returned (.int .i64 153) ∧ w' = W := by
  have H := made_yes hb
  have H : Hid _ := H
  have c0 : W.cell? ⟨p, 0, none⟩ = some (.pointer (some ⟨pb, 0, none⟩)) := blk_cell (j := 0) hb rfl
  have c4 := h.cell 4 _ rfl
  clear hb h
  by_cases c : t < now
  · have q1 : decide (t < now) = true := decide_eq_true c
    clear ht
    go_enter Try.func27, Try.ntmps27
    go_wp2_with fail
    refine Calls.mono H.out ?_
    rintro e w1 ⟨rfl, rfl⟩
    go_wp2_with fail
    try go_returns
    exact ⟨rfl, rfl⟩
  · have q1 : decide (t < now) = false := decide_eq_false c
    have d : t > 1099511627776 := by unfold okT at ht; omega
    have q2 : decide (t > 1099511627776) = true := decide_eq_true d
    have q3 : decide (1099511627776 < t) = true := decide_eq_true d
    clear ht
    go_enter Try.func27, Try.ntmps27
    go_wp2_with fail
    refine Calls.mono H.out ?_
    rintro e w1 ⟨rfl, rfl⟩
    go_wp2_with fail
    try go_returns
    exact ⟨rfl, rfl⟩
theorem Box.on {W W' : World} {p pb : Nat} (h : Box W p pb) (hb : W'.heap[p]? = W.heap[p]?) : Box W' p pb := hb.trans h
theorem Box.lt {W : World} {p pb : Nat} (h : Box W p pb) : p < W.heap.size := (Array.getElem?_eq_some_iff.1 h).1
theorem Keeps.bx {pb mb : Nat} {cf : Cf} {now : Int} {line : Value} {L : List (PE × Nat)} {W : World} (h : Keeps pb cf now mb line L W) {p qb : Nat} (hb : Box W p qb) : p ≠ pb ∧ p ≠ mb ∧ line.ownBlock ≠ some p := by
  refine ⟨fun e => ?_, fun e => ?_, fun e => ?_⟩
  · have h1 := h.p.box
    unfold Box at hb
    rw [← e, hb] at h1
    simp at h1
  · obtain ⟨M, ⟨es, c, h1, _⟩, _⟩ := h.m
    unfold Box at hb
    rw [← e, hb] at h1
    simp at h1
  · unfold Box at hb
    rcases h.p.row.2 with ⟨rfl, _⟩ | ⟨g, cap, cur, rfl, _, h2, _⟩
    · simp [Value.ownBlock] at e
    · simp [Value.ownBlock] at e
      rw [e, hb] at h2
      simp at h2
/-- Get of what nobody made. -/
theorem get_no {W : World} {v : Value} (t : Int) {d : List Int} (h : ∀ X, Below W.heap.size W X → Calls Try.prog 27 #[v, .int .i64 t] X fun e w' => e = .returned (.int .i64 4) ∧ w' = X) : Calls Try.prog 13 #[v, .int .i64 t, .agg (u8s d).toArray] W fun e w' => e = .returned (.tuple #[.int .i64 0, .int .i64 4]) ∧ Below W.heap.size W w' := by
  obtain ⟨W1, hW1⟩ : ∃ W1, W1 = W.alloc (.cells (u8s d).toArray 35) := ⟨_, rfl⟩
  have hB1 : Below W.heap.size W W1 := by rw [hW1]; exact (Below.refl W.heap.size W).alloc (Nat.le_refl _) _
  have H : Hid _ := h W1 hB1
  have HB : Hid (Below W.heap.size W W1) := hB1
  have hW := hW1.symm
  clear h hW1 hB1
  go_enter Try.func13, Try.ntmps13
  go_wp2_with fail
  refine Calls.mono H.out ?_
  rintro e w1 ⟨rfl, rfl⟩
  go_wp2_with fail
  try go_returns
  exact ⟨rfl, HB.out⟩
end Go.Proofs.Ytgndiblonhgihaa
