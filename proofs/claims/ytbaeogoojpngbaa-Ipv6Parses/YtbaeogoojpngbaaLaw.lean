/-
  The contracts of the statements' own helpers: cut, alive; and of package sum's Alike.
-/
import Derived.Test.YtbaeogoojpngbaaCalls
namespace Go.Proofs.Ytbaeogoojpngbaa
open Go Go.RowKit Go.Shelf

/-- A new row of bytes. -/
theorem bytes_new (w : World) (t : TypeId) (zs : List Int) (us : Array Value) (len cap : Nat) (hu : ∀ j, j < zs.length → us[j]? = some (.int .u8 (zs[j]?.getD 0))) (hl : len = zs.length) (hs : zs.length ≤ 140737488351232) (hf : Fit zs) :
    BytesAt (w.alloc (.cells us t)).heap.size (w.alloc (.cells us t)) (.slice (some ⟨w.heap.size, 0, none⟩) len cap) zs := by
  refine ⟨hf, hs, _, _, by rw [hl], .inr ⟨_, _, rfl, by simp, fun j hj => ?_⟩⟩
  have hn := World.alloc_heap_new w (.cells us t)
  simp only [World.cell?]
  rw [hn]
  simpa using hu j hj
theorem bytes_lit (zs : List Int) (us : Array Value) (hu : us = (zs.map (fun z => Value.int .u8 z)).toArray) (j : Nat) (hj : j < zs.length) : us[j]? = some (.int .u8 (zs[j]?.getD 0)) := by
  rw [hu]; simp [hj]

theorem alive_one : 65535 - sumW (sumW (65535 - 56623) ((wordsL [85, 85]).map (fun z => 65535 - z))) (wordsL [50, 133]) = 0 := by decide
theorem alive_two : 65535 - sumW 0 (wordsL [[0, 1, 242, 3], [244, 245, 246, 247]].flatten) = 8717 := by decide

/-- Two new rows of bytes, one behind the other. -/
theorem bytes_two (w : World) (t t' : TypeId) (zs ys : List Int) (us vs : Array Value) (n n' : Nat) (hu : us = (zs.map (fun z => Value.int .u8 z)).toArray) (hv : vs = (ys.map (fun z => Value.int .u8 z)).toArray)
    (hl : n = zs.length) (hl' : n' = ys.length) (hs : n ≤ 100000) (hs' : n' ≤ 100000) (hf : Fit zs) (hf' : Fit ys) :
    BytesAt ((w.alloc (.cells us t)).alloc (.cells vs t')).heap.size ((w.alloc (.cells us t)).alloc (.cells vs t')) (.slice (some ⟨w.heap.size, 0, none⟩) n n) zs ∧
    BytesAt ((w.alloc (.cells us t)).alloc (.cells vs t')).heap.size ((w.alloc (.cells us t)).alloc (.cells vs t')) (.slice (some ⟨w.heap.size + 1, 0, none⟩) n' n') ys := by
  refine ⟨(bytes_new w t zs us n n (bytes_lit zs us hu) hl (by omega) hf).later ((Below.refl _ _).alloc (Nat.le_refl _) _), ?_⟩
  have := bytes_new (w.alloc (.cells us t)) t' ys vs n' n' (bytes_lit ys vs hv) hl' (by omega) hf'
  have e : (w.alloc (.cells us t)).heap.size = w.heap.size + 1 := World.size_alloc w _
  simpa only [e] using this

theorem fit_of (zs : List Int) (h : zs.all (fun z => decide (0 ≤ z) && decide (z < 256)) = true) : Fit zs := by
  intro z hz
  have := List.all_eq_true.1 h z hz
  simpa using this

/-- Two checksums say the same. -/
def alikeB (a b : Int) : Bool := decide (a % 65535 = b % 65535)
end Go.Proofs.Ytbaeogoojpngbaa
