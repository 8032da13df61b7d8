/-
  place; what a map and a line have in common; mtu.
-/
import Derived.Test.YtgndiblonhgihaaPn5
namespace Go.Proofs.Ytgndiblonhgihaa
open Go Go.RowKit
set_option linter.unusedVariables false
set_option linter.unusedSimpArgs false

theorem entersP {P : Program} {f : FuncId} {fn : Func} {b : Code} (hf : P.funcs[f]? = some fn) (hname : (fn.name == "runtime.NumGoroutine") = false) (hb : fn.body = some b) : ∀ args w, (callFunc f args).run P w = .ok (.enter f args) w := by
  intro args w
  have h1 : fn.name ≠ "runtime.NumGoroutine" := by simpa using hname
  simp [callFunc, hf, h1, hb]
abbrev cE (x y : PE × Nat) : Int := cmpE x.1.u x.1.k y.1.u y.1.k
/-- A line in order. -/
def SortE (L : List (PE × Nat)) : Prop := ∀ (i j : Nat) (x y : PE × Nat), i < j → L[i]? = some x → L[j]? = some y → cE x y = -1
theorem cE_neg {x y : PE × Nat} (h : ¬ 0 ≤ cE x y) : cE x y = -1 := by
  rcases cmpE_vals x.1.u x.1.k y.1.u y.1.k with g | g | g <;> (unfold cE at h ⊢; omega)
def plcB (L : List (PE × Nat)) (y : PE × Nat) (i : Nat) : Bool := match L[i]? with | some x => decide (cE x y ≥ 0) | none => true
theorem plcB_mono {L : List (PE × Nat)} (hs : SortE L) (y : PE × Nat) : ∀ a b, a ≤ b → b < L.length → plcB L y a = true → plcB L y b = true := by
  intro a b hab hb ha
  obtain ⟨xa, hxa⟩ : ∃ x, L[a]? = some x := ⟨_, List.getElem?_eq_getElem (by omega)⟩
  obtain ⟨xb, hxb⟩ : ∃ x, L[b]? = some x := ⟨_, List.getElem?_eq_getElem (by omega)⟩
  unfold plcB at ha ⊢
  rw [hxa] at ha
  rw [hxb]
  simp only [decide_eq_true_eq] at ha ⊢
  by_cases e : a = b
  · subst e
    rw [hxa] at hxb
    injection hxb with hxb
    subst hxb
    exact ha
  · have h1 := hs a b xa xb (by omega) hxa hxb
    by_cases h2 : 0 ≤ cE xb y
    · exact h2
    · have h3 := cE_neg h2
      have h4 : cE xa y = -1 := cmpE_trans h1 h3
      rw [h4] at ha
      omega
/-- Where an entry stands in a line, or would. -/
def Stands (L : List (PE × Nat)) (y : PE × Nat) (k : Nat) : Prop := k ≤ L.length ∧ (∀ i x, i < k → L[i]? = some x → cE x y = -1) ∧ (∀ i x, k ≤ i → L[i]? = some x → 0 ≤ cE x y)
set_option maxHeartbeats 4000000 in
set_option maxRecDepth 100000 in
theorem place_any {V : World} {pb mb : Nat} {cf : Cf} {now : Int} {line : Value} {L : List (PE × Nat)} (h : Paths pb cf now mb line L V) (hs : SortE L) (hl : L.length ≤ 1000000) {y : PE × Nat} (hy : y.1.Ok ∧ PE.At V y) :
    Calls Try.prog 42 #[.pointer (some ⟨pb, 0, none⟩), .pointer (some ⟨y.2, 0, none⟩)] V fun e w' => ∃ k : Nat, e = .returned (.int .i64 (k : Int)) ∧ Stands L y k ∧ Below V.heap.size V w' := by
  generalize hQ : (fun (e : Ending) (w' : World) => ∃ k : Nat, e = .returned (.int .i64 (k : Int)) ∧ Stands L y k ∧ Below V.heap.size V w') = Q
  have HQ : Hid (∀ e w', (∃ k : Nat, e = .returned (.int .i64 (k : Int)) ∧ Stands L y k ∧ Below V.heap.size V w') → Q e w') := fun e w' hh => by rw [← hQ]; exact hh
  clear hQ
  obtain ⟨W1, hW1⟩ : ∃ W1, W1 = (V.alloc (.cells [Value.pointer (some ⟨pb, 0, none⟩)].toArray 50)).alloc (.cells [Value.pointer (some ⟨y.2, 0, none⟩)].toArray 74) := ⟨_, rfl⟩
  have hs1 : W1.heap.size = V.heap.size + 1 + 1 := by rw [hW1]; simp
  have hB1 : Below V.heap.size V W1 := by rw [hW1]; exact ((Below.refl V.heap.size V).alloc (Nat.le_refl _) _).alloc (by simp) _
  have hx1 : W1.heap[V.heap.size]? = some (.cells [Value.pointer (some ⟨pb, 0, none⟩)].toArray 50) := by rw [hW1]; exact blk_alloc (blk_new V _) _
  have hx2 : W1.heap[V.heap.size + 1]? = some (.cells [Value.pointer (some ⟨y.2, 0, none⟩)].toArray 74) := by
    have := blk_new (V.alloc (.cells [Value.pointer (some ⟨pb, 0, none⟩)].toArray 50)) (.cells [Value.pointer (some ⟨y.2, 0, none⟩)].toArray 74)
    rw [show (V.alloc (.cells [Value.pointer (some ⟨pb, 0, none⟩)].toArray 50)).heap.size = V.heap.size + 1 by simp] at this
    rw [hW1]; exact this
  have h1 := h.on hB1
  obtain ⟨sa, sc, hsl⟩ := h.slc
  have c1 : W1.cell? ⟨V.heap.size, 0, none⟩ = some (.pointer (some ⟨pb, 0, none⟩)) := blk_cell (j := 0) hx1 rfl
  have c6 : W1.cell? ⟨pb, 6, none⟩ = some (.slice sa L.length sc) := by rw [← hsl]; exact h1.cell 6 _ rfl
  have hS : Calls Try.prog 38 #[.int .i64 (L.length : Int), .func (.func 49) #[] #[.pointer (some ⟨V.heap.size, 0, none⟩), .pointer (some ⟨V.heap.size + 1, 0, none⟩)]] W1 fun e w' => ∃ k : Nat, e = .returned (.int .i64 (k : Int)) ∧ k ≤ L.length ∧ (∀ i, i < k → plcB L y i = false) ∧ (∀ i, k ≤ i → i < L.length → plcB L y i = true) ∧ Below W1.heap.size W1 w' := by
    refine search_any L.length hl 49 #[.pointer (some ⟨V.heap.size, 0, none⟩), .pointer (some ⟨V.heap.size + 1, 0, none⟩)] (plcB L y) W1 (entersP Try.func49 (by kernel_rfl) rfl) ?_ (plcB_mono hs y)
    intro X hX i hi
    obtain ⟨x, hx⟩ : ∃ x, L[i]? = some x := ⟨_, List.getElem?_eq_getElem hi⟩
    have hp : plcB L y i = decide (cE x y ≥ 0) := by unfold plcB; rw [hx]
    rw [hp]
    exact place1_calls (h1.on hX) ((hX.block _ (by omega)).trans hx1) (y := y) ((hX.block _ (by omega)).trans hx2) ⟨hy.1, (hy.2.on (hB1.block _ hy.2.lt)).on (hX.block _ (by have := hy.2.lt; omega))⟩ hx
  have HS : Hid _ := hS
  have HB1 : Hid (Below V.heap.size V W1) := hB1
  have HS1 : Hid (W1.heap.size = V.heap.size + 1 + 1) := hs1
  have hW := hW1.symm
  clear hW1 hs1 hB1 hx1 hx2 h1 hS hsl h hs hl hy
  go_enter Try.func42, Try.ntmps42
  go_wp2_with fail
  refine Calls.mono HS.out ?_
  rintro e w2 ⟨k, rfl, hk, hlo, hhi, hb⟩
  have HF : Hid (Stands L y k) := by
    refine ⟨hk, fun i x hi hx => ?_, fun i x hi hx => ?_⟩
    · have := hlo i hi
      unfold plcB at this
      rw [hx] at this
      simp only [decide_eq_false_iff_not] at this
      exact cE_neg this
    · have := hhi i hi (List.getElem?_eq_some_iff.1 hx).1
      unfold plcB at this
      rw [hx] at this
      simpa using this
  have HB : Hid (Below V.heap.size V w2) := HB1.out.trans (hb.mono HB1.out.size)
  clear hlo hhi hb hk c1 c6 hW
  go_wp2_with fail
  try go_returns
  exact HQ.out _ _ ⟨k, rfl, HF.out, HB.out⟩
end Go.Proofs.Ytgndiblonhgihaa
