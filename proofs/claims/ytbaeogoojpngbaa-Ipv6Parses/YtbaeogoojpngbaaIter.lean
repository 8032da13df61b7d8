/-
  The contracts of package sum's iterators: words gives the words of the bytes of its parts, turned gives each with its bits turned.
-/
import Derived.Test.YtbaeogoojpngbaaSeq
import Derived.Test.YtbaeogoojpngbaaPlain
import Derived.Test.YtbaeogoojpngbaaProg
namespace Go.Proofs.Ytbaeogoojpngbaa
open Go Go.RowKit Go.Shelf
attribute [local go_sem] Oper.semAt_some

def wordsV (f : List Int) : List Value := (wordsL f).map (fun z => .int .u16 z)
theorem wordsV_at (f : List Int) (k : Nat) (h : 2 * k < f.length) : (wordsV f)[k]? = some (.int .u16 (wd f k)) := by
  rw [wordsV, List.getElem?_map, wordsL_at f k h]; rfl

/-- The slice value v holds the bytes zs, in a block below n₀. -/
structure BytesAt (n₀ : Nat) (W : World) (v : Value) (zs : List Int) : Prop where
  fit : Fit zs
  len : zs.length ≤ 140737488351232
  val : ∃ a cap, v = .slice a zs.length cap ∧ (zs.length = 0 ∨ ∃ b off, a = some ⟨b, off, none⟩ ∧ b < n₀ ∧ ∀ j, j < zs.length → W.cell? ⟨b, off + j, none⟩ = some (.int .u8 (zs[j]?.getD 0)))

theorem BytesAt.below {n₀ : Nat} {A B : World} {v : Value} {zs : List Int} (h : BytesAt n₀ A v zs) (hb : Below n₀ A B) : BytesAt n₀ B v zs := by
  obtain ⟨h1, h2, a, cap, hv, hz⟩ := h
  refine ⟨h1, h2, a, cap, hv, hz.imp id ?_⟩
  rintro ⟨b, off, rfl, hlt, hc⟩
  exact ⟨b, off, rfl, hlt, fun j hj => (hb.cell (p := ⟨b, off + j, none⟩) hlt).trans (hc j hj)⟩

/-- The slice value v holds the parts ps. -/
structure PartsAt (n₀ : Nat) (W : World) (v : Value) (ps : List (List Int)) : Prop where
  len : ps.length ≤ 140737488351232
  val : ∃ a cap, v = .slice a ps.length cap ∧ (ps.length = 0 ∨ ∃ b off, a = some ⟨b, off, none⟩ ∧ b < n₀ ∧ ∀ j, j < ps.length → ∃ u, W.cell? ⟨b, off + j, none⟩ = some u ∧ BytesAt n₀ W u (ps[j]?.getD []))

theorem PartsAt.below {n₀ : Nat} {A B : World} {v : Value} {ps : List (List Int)} (h : PartsAt n₀ A v ps) (hb : Below n₀ A B) : PartsAt n₀ B v ps := by
  obtain ⟨h2, a, cap, hv, hz⟩ := h
  refine ⟨h2, a, cap, hv, hz.imp id ?_⟩
  rintro ⟨b, off, rfl, hlt, hc⟩
  refine ⟨b, off, rfl, hlt, fun j hj => ?_⟩
  obtain ⟨u, hu, hbu⟩ := hc j hj
  exact ⟨u, (hb.cell (p := ⟨b, off + j, none⟩) hlt).trans hu, hbu.below hb⟩

theorem PartsAt.fit {n₀ : Nat} {A : World} {v : Value} {ps : List (List Int)} (h : PartsAt n₀ A v ps) : Fit ps.flatten := by
  obtain ⟨_, a, cap, _, hz⟩ := h
  intro z hz'
  obtain ⟨zs, hm, hin⟩ := List.mem_flatten.1 hz'
  obtain ⟨j, hj, rfl⟩ := List.getElem_of_mem hm
  rcases hz with hz | ⟨b, off, _, _, hc⟩
  · omega
  · obtain ⟨u, _, hf, _⟩ := hc j hj
    exact hf z (by simpa [hj] using hin)

/-- What words' closure holds when p bytes of f have come: an odd byte waits. -/
def St (f : List Int) (p : Nat) (h t : Value) : Prop :=
  (p % 2 = 0 ∧ t = .bool false ∧ ∃ z, h = .int .u16 z) ∨ (p % 2 = 1 ∧ t = .bool true ∧ h = .int .u16 (f[p - 1]?.getD 0 * 256))

end Go.Proofs.Ytbaeogoojpngbaa
