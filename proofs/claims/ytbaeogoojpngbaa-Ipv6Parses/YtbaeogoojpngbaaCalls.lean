/-
  The contracts of package sum's Fold, Of, paired, Update, Neutral, Alike.
-/
import Derived.Test.YtbaeogoojpngbaaTurn
namespace Go.Proofs.Ytbaeogoojpngbaa
open Go Go.RowKit Go.Shelf

theorem BytesAt.later {w W : World} {v : Value} {zs : List Int} (h : BytesAt w.heap.size w v zs) (hb : Below w.heap.size w W) : BytesAt W.heap.size W v zs := by
  obtain ⟨h1, h2, a, cap, hv, hz⟩ := h.below hb
  refine ⟨h1, h2, a, cap, hv, hz.imp id ?_⟩
  rintro ⟨b, off, rfl, hlt, hc⟩
  exact ⟨b, off, rfl, Nat.lt_of_lt_of_le hlt hb.size, hc⟩

theorem PartsAt.later {w W : World} {v : Value} {ps : List (List Int)} (h : PartsAt w.heap.size w v ps) (hb : Below w.heap.size w W) : PartsAt W.heap.size W v ps := by
  obtain ⟨h2, a, cap, hv, hz⟩ := h
  refine ⟨h2, a, cap, hv, hz.imp id ?_⟩
  rintro ⟨b, off, rfl, hlt, hc⟩
  refine ⟨b, off, rfl, Nat.lt_of_lt_of_le hlt hb.size, fun j hj => ?_⟩
  obtain ⟨u, hu, hbu⟩ := hc j hj
  exact ⟨u, (hb.cell (p := ⟨b, off + j, none⟩) hlt).trans hu, hbu.later hb⟩

theorem wordsL_words {f : List Int} (h : Fit f) : Words (wordsL f) := by
  intro z hz
  obtain ⟨k, _, rfl⟩ := List.mem_map.1 hz
  have h1 := h.at (2 * k)
  have h2 := h.at (2 * k + 1)
  unfold wd; omega

/-- A new row of parts. -/
theorem parts_new (w : World) (us : Array Value) (t : TypeId) (ps : List (List Int)) (len cap : Nat) (hl : len = ps.length) (hs : len ≤ 1000) (h : ∀ j, j < ps.length → ∃ u, us[j]? = some u ∧ BytesAt w.heap.size w u (ps[j]?.getD [])) :
    PartsAt (w.alloc (.cells us t)).heap.size (w.alloc (.cells us t)) (.slice (some ⟨w.heap.size, 0, none⟩) len cap) ps := by
  have hb : Below w.heap.size w (w.alloc (.cells us t)) := (Below.refl _ w).alloc (Nat.le_refl _) _
  refine ⟨by omega, _, _, by rw [hl], .inr ⟨_, _, rfl, by simp, fun j hj => ?_⟩⟩
  obtain ⟨u, hu, hbu⟩ := h j hj
  refine ⟨u, ?_, hbu.later hb⟩
  have hn := World.alloc_heap_new w (.cells us t)
  simp only [World.cell?]
  rw [hn]
  simpa using hu

theorem parts_one (w : World) (u : Value) (t : TypeId) (zs : List Int) (h : BytesAt w.heap.size w u zs) :
    PartsAt (w.alloc (.cells #[u] t)).heap.size (w.alloc (.cells #[u] t)) (.slice (some ⟨w.heap.size, 0, none⟩) 1 1) [zs] :=
  parts_new w #[u] t [zs] 1 1 rfl (by decide) (fun j hj => by
    match j, hj with
    | 0, _ => exact ⟨u, rfl, h⟩)
theorem parts_two (w : World) (u1 u2 : Value) (t : TypeId) (z1 z2 : List Int) (h1 : BytesAt w.heap.size w u1 z1) (h2 : BytesAt w.heap.size w u2 z2) :
    PartsAt (w.alloc (.cells #[u1, u2] t)).heap.size (w.alloc (.cells #[u1, u2] t)) (.slice (some ⟨w.heap.size, 0, none⟩) 2 2) [z1, z2] :=
  parts_new w #[u1, u2] t [z1, z2] 2 2 rfl (by decide) (fun j hj => by
    match j, hj with
    | 0, _ => exact ⟨u1, rfl, h1⟩
    | 1, _ => exact ⟨u2, rfl, h2⟩)
theorem parts_three (w : World) (u1 u2 u3 : Value) (t : TypeId) (z1 z2 z3 : List Int) (h1 : BytesAt w.heap.size w u1 z1) (h2 : BytesAt w.heap.size w u2 z2) (h3 : BytesAt w.heap.size w u3 z3) :
    PartsAt (w.alloc (.cells #[u1, u2, u3] t)).heap.size (w.alloc (.cells #[u1, u2, u3] t)) (.slice (some ⟨w.heap.size, 0, none⟩) 3 3) [z1, z2, z3] :=
  parts_new w #[u1, u2, u3] t [z1, z2, z3] 3 3 rfl (by decide) (fun j hj => by
    match j, hj with
    | 0, _ => exact ⟨u1, rfl, h1⟩
    | 1, _ => exact ⟨u2, rfl, h2⟩
    | 2, _ => exact ⟨u3, rfl, h3⟩)
theorem parts_four (w : World) (u1 u2 u3 u4 : Value) (t : TypeId) (z1 z2 z3 z4 : List Int) (h1 : BytesAt w.heap.size w u1 z1) (h2 : BytesAt w.heap.size w u2 z2) (h3 : BytesAt w.heap.size w u3 z3) (h4 : BytesAt w.heap.size w u4 z4) :
    PartsAt (w.alloc (.cells #[u1, u2, u3, u4] t)).heap.size (w.alloc (.cells #[u1, u2, u3, u4] t)) (.slice (some ⟨w.heap.size, 0, none⟩) 4 4) [z1, z2, z3, z4] :=
  parts_new w #[u1, u2, u3, u4] t [z1, z2, z3, z4] 4 4 rfl (by decide) (fun j hj => by
    match j, hj with
    | 0, _ => exact ⟨u1, rfl, h1⟩
    | 1, _ => exact ⟨u2, rfl, h2⟩
    | 2, _ => exact ⟨u3, rfl, h3⟩
    | 3, _ => exact ⟨u4, rfl, h4⟩)

theorem ret_bool {a b : Bool} (h : a = b) : Ending.returned (.bool a) = .returned (.bool b) := by rw [h]

end Go.Proofs.Ytbaeogoojpngbaa
