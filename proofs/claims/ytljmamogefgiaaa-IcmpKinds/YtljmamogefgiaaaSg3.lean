/-
  One part more ahead of parts; check and right of package segment.
-/
import Derived.Test.YtljmamogefgiaaaSg2
namespace Go.Proofs.Ytljmamogefgiaaa
open Go Go.RowKit Go.Shelf
set_option linter.unusedVariables false
set_option linter.unusedSimpArgs false

theorem own_one_sl (w : World) (u : Value) : (w.alloc (.cells #[u] 24)).ownsRow w.heap.size 24 1 (.slice (some ⟨w.heap.size, 0, none⟩) 1 1) 1 [u] :=
  ⟨rfl, .inr ⟨w.heap.size, 1, _, rfl, Nat.le_refl _, World.alloc_heap_new w _, Nat.le_refl _, by decide, rfl, rfl⟩⟩
theorem parts_cons {w : World} {u : Value} {zs : List Int} {a : Option Addr} {n c : Nat} {ps : List (List Int)} (hu : BytesAt w.heap.size w u zs) (hp : PartsAt w.heap.size w (.slice a n c) ps) (hn : n ≤ 1000) (ty : TypeId) :
    ∃ v' w', (Builtin.append_ #[76, 76] ty #[.slice (some ⟨w.heap.size, 0, none⟩) 1 1, .slice a n c]).run Try.prog (w.alloc (.cells #[u] 24)) = .ok v' w' ∧ PartsAt w'.heap.size w' v' (zs :: ps) ∧ Below w.heap.size w w' := by
  have hb0 := (Below.refl w.heap.size w).alloc (Nat.le_refl _) (.cells #[u] 24)
  obtain ⟨hl, a', c', e, hz⟩ := hp
  cases e
  obtain ⟨us, hul, hus⟩ : ∃ us : List Value, us.length = ps.length ∧ ∀ j, j < ps.length → ∃ b off, a = some ⟨b, off, none⟩ ∧ b < w.heap.size ∧ w.cell? ⟨b, off + j, none⟩ = some (us[j]?.getD undef) ∧ BytesAt w.heap.size w (us[j]?.getD undef) (ps[j]?.getD []) := by
    rcases hz with h0 | ⟨b, off, rfl, hlt, hc⟩
    · exact ⟨[], by simp [h0], fun j hj => by omega⟩
    · refine ⟨(List.range ps.length).map (fun j => (w.cell? ⟨b, off + j, none⟩).getD undef), by simp, fun j hj => ⟨b, off, rfl, hlt, ?_⟩⟩
      obtain ⟨x, hx, hb⟩ := hc j hj
      simp [hj, hx]
      simpa [hj] using hb
  have hone : ∀ x ∈ us, x.oneCell' = true := by
    intro x hx
    obtain ⟨j, hj, rfl⟩ := List.getElem_of_mem hx
    obtain ⟨b, off, _, _, _, hb⟩ := hus j (by omega)
    obtain ⟨a2, c2, e2, _⟩ := hb.val
    simp [hj] at e2
    rw [e2]
    rfl
  obtain ⟨v', w', h1, h2, h3, h4⟩ := own_append elem_sl (c := c) (own_one_sl w u) a us hul (fun ha => by
      by_cases h0 : ps.length = 0
      · exact h0
      · obtain ⟨b, off, e, _⟩ := hus 0 (by omega)
        rw [ha] at e; cases e) (fun x hx j v hj => by
      have hjl := (List.getElem?_eq_some_iff.1 hj).1
      obtain ⟨b, off, e, hlt, hc, _⟩ := hus j (by omega)
      rw [hx] at e
      cases e
      rw [Go.WideShapes.add_plain]
      rw [hj] at hc
      exact (hb0.cell (p := ⟨b, off + j, none⟩) hlt).trans hc) hone (by unfold maxLen; omega) (by omega) (by simp) ty
  have hB : Below w.heap.size w w' := hb0.trans ((Below.refl _ _).grown h3 (by simp) (fun k hk => by simp [Value.ownBlock] at hk; omega))
  refine ⟨v', w', h1, ?_, hB⟩
  obtain ⟨a1, cap1, rfl, hn1, hz1⟩ := own_form h2
  refine ⟨by simp; omega, a1, cap1, by rw [List.length_cons, Nat.add_comm], ?_⟩
  rcases hz1 with h0 | ⟨g, rfl, hg1, hg2, hc⟩
  · omega
  · refine .inr ⟨g, 0, rfl, hg2, fun j hj => ?_⟩
    rw [Nat.zero_add]
    cases j with
    | zero => exact ⟨u, hc 0 u rfl, hu.later hB⟩
    | succ j =>
      simp only [List.length_cons] at hj
      obtain ⟨b, off, _, _, _, hb⟩ := hus j (by omega)
      refine ⟨us[j]?.getD undef, hc (j + 1) _ ?_, ?_⟩
      · simp [show j < us.length by omega]
      · simpa using hb.later hB

def tot (ps : List (List Int)) : Nat := ps.flatten.length
theorem OverV.own {w : World} {v : Value} {ph : Int → Int → List Int} (h : OverV w v ph) : ∃ g lb, v = .func (.func g) #[] lb := by
  obtain ⟨_, g, lb, hv, _⟩ := h
  exact ⟨g, lb, hv⟩
end Go.Proofs.Ytljmamogefgiaaa
