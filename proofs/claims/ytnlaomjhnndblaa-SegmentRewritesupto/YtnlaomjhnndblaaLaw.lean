/-
  The contracts of the statements' own helpers: cut, alive; and of package sum's Alike.
-/
import Derived.Test.YtnlaomjhnndblaaCalls
namespace Go.Proofs.Ytnlaomjhnndblaa
open Go Go.RowKit Go.Shelf

/-- A new row of bytes. -/
theorem bytes_new (w : World) (t : TypeId) (zs : List Int) (us : Array Value) (len cap : Nat) (hu : ∀ j, j < zs.length → us[j]? = some (.int .u8 (zs[j]?.getD 0))) (hl : len = zs.length) (hs : zs.length ≤ 140737488351232) (hf : Fit zs) :
    BytesAt (w.alloc (.cells us t)).heap.size (w.alloc (.cells us t)) (.slice (some ⟨w.heap.size, 0, none⟩) len cap) zs := by
  refine ⟨hf, hs, _, _, by rw [hl], .inr ⟨_, _, rfl, by simp, fun j hj => ?_⟩⟩
  have hn := World.alloc_heap_new w (.cells us t)
  simp only [World.cell?]
  rw [hn]
  simpa using hu j hj
theorem bytes_lit (zs : List Int) (us : Array Value) (hu : us = (zs.map (fun z => Value.int .u8 z)).toArray) (j : Nat) (hj : j < zs.length) : us[j]? = some (.int .u8 (zs[j]?.getD 0)) := by
  rw [hu]; simp [hj]

theorem alive_one : 65535 - sumW (sumW (65535 - 56623) ((wordsL [85, 85]).map (fun z => 65535 - z))) (wordsL [50, 133]) = 0 := by decide
theorem alive_two : 65535 - sumW 0 (wordsL [[0, 1, 242, 3], [244, 245, 246, 247]].flatten) = 8717 := by decide

/-- Two new rows of bytes, one behind the other. -/
theorem bytes_two (w : World) (t t' : TypeId) (zs ys : List Int) (us vs : Array Value) (n n' : Nat) (hu : us = (zs.map (fun z => Value.int .u8 z)).toArray) (hv : vs = (ys.map (fun z => Value.int .u8 z)).toArray)
    (hl : n = zs.length) (hl' : n' = ys.length) (hs : n ≤ 100000) (hs' : n' ≤ 100000) (hf : Fit zs) (hf' : Fit ys) :
    BytesAt ((w.alloc (.cells us t)).alloc (.cells vs t')).heap.size ((w.alloc (.cells us t)).alloc (.cells vs t')) (.slice (some ⟨w.heap.size, 0, none⟩) n n) zs ∧
    BytesAt ((w.alloc (.cells us t)).alloc (.cells vs t')).heap.size ((w.alloc (.cells us t)).alloc (.cells vs t')) (.slice (some ⟨w.heap.size + 1, 0, none⟩) n' n') ys := by
  refine ⟨(bytes_new w t zs us n n (bytes_lit zs us hu) hl (by omega) hf).later ((Below.refl _ _).alloc (Nat.le_refl _) _), ?_⟩
  have := bytes_new (w.alloc (.cells us t)) t' ys vs n' n' (bytes_lit ys vs hv) hl' (by omega) hf'
  have e : (w.alloc (.cells us t)).heap.size = w.heap.size + 1 := World.size_alloc w _
  simpa only [e] using this

theorem fit_of (zs : List Int) (h : zs.all (fun z => decide (0 ≤ z) && decide (z < 256)) = true) : Fit zs := by
  intro z hz
  have := List.all_eq_true.1 h z hz
  simpa using this

theorem alive_up (w : World) : Calls Try.prog 82 #[.int .u16 56623, .slice (some ⟨w.heap.size, 0, none⟩) 2 2, .slice (some ⟨w.heap.size + 1, 0, none⟩) 2 2] ((w.alloc (.cells #[.int .u8 85, .int .u8 85] 5)).alloc (.cells #[.int .u8 50, .int .u8 133] 5))
    fun e w' => e = .returned (.tuple #[.int .u16 0, .int .i64 0]) ∧ Below w.heap.size w w' := by
  have h2 := bytes_two w 5 5 [85, 85] [50, 133] #[.int .u8 85, .int .u8 85] #[.int .u8 50, .int .u8 133] 2 2 rfl rfl rfl rfl (by decide) (by decide) (fit_of _ rfl) (fit_of _ rfl)
  have hb : Below w.heap.size w ((w.alloc (.cells #[.int .u8 85, .int .u8 85] 5)).alloc (.cells #[.int .u8 50, .int .u8 133] 5)) := ((Below.refl _ w).alloc (Nat.le_refl _) _).alloc (by simp) _
  refine (update_some 56623 (by decide) _ _ 2 2 2 [85, 85] [50, 133] _ h2.1 h2.2 rfl).mono ?_
  rintro e w1 ⟨rfl, hb1⟩
  rw [alive_one]
  exact ⟨rfl, hb.trans (hb1.mono hb.size)⟩

/-- Of, called at two parts of one new row. -/
theorem of_two (u1 u2 : Value) (z1 z2 : List Int) (w : World) (h1 : BytesAt w.heap.size w u1 z1) (h2 : BytesAt w.heap.size w u2 z2) :
    Calls Try.prog 84 #[.slice (some ⟨w.heap.size, 0, none⟩) 2 2] (w.alloc (.cells #[u1, u2] 29)) fun e w' => e = .returned (.int .u16 (65535 - sumW 0 (wordsL [z1, z2].flatten))) ∧ Below w.heap.size w w' := by
  refine (of_calls _ _ _ [z1, z2] _ (parts_two w u1 u2 _ z1 z2 h1 h2)).mono ?_
  rintro e w' ⟨rfl, hb⟩
  exact ⟨rfl, ((Below.refl _ w).alloc (Nat.le_refl _) _).trans (hb.mono (by simp))⟩
theorem of_three (u1 u2 u3 : Value) (z1 z2 z3 : List Int) (w : World) (h1 : BytesAt w.heap.size w u1 z1) (h2 : BytesAt w.heap.size w u2 z2) (h3 : BytesAt w.heap.size w u3 z3) :
    Calls Try.prog 84 #[.slice (some ⟨w.heap.size, 0, none⟩) 3 3] (w.alloc (.cells #[u1, u2, u3] 29)) fun e w' => e = .returned (.int .u16 (65535 - sumW 0 (wordsL [z1, z2, z3].flatten))) ∧ Below w.heap.size w w' := by
  refine (of_calls _ _ _ [z1, z2, z3] _ (parts_three w u1 u2 u3 _ z1 z2 z3 h1 h2 h3)).mono ?_
  rintro e w' ⟨rfl, hb⟩
  exact ⟨rfl, ((Below.refl _ w).alloc (Nat.le_refl _) _).trans (hb.mono (by simp))⟩
theorem of_four (u1 u2 u3 u4 : Value) (z1 z2 z3 z4 : List Int) (w : World) (h1 : BytesAt w.heap.size w u1 z1) (h2 : BytesAt w.heap.size w u2 z2) (h3 : BytesAt w.heap.size w u3 z3) (h4 : BytesAt w.heap.size w u4 z4) :
    Calls Try.prog 84 #[.slice (some ⟨w.heap.size, 0, none⟩) 4 4] (w.alloc (.cells #[u1, u2, u3, u4] 29)) fun e w' => e = .returned (.int .u16 (65535 - sumW 0 (wordsL [z1, z2, z3, z4].flatten))) ∧ Below w.heap.size w w' := by
  refine (of_calls _ _ _ [z1, z2, z3, z4] _ (parts_four w u1 u2 u3 u4 _ z1 z2 z3 z4 h1 h2 h3 h4)).mono ?_
  rintro e w' ⟨rfl, hb⟩
  exact ⟨rfl, ((Below.refl _ w).alloc (Nat.le_refl _) _).trans (hb.mono (by simp))⟩

theorem alive_of (w : World) : Calls Try.prog 84 #[.slice (some ⟨w.heap.size + 1 + 1, 0, none⟩) 2 2] (((w.alloc (.cells #[.int .u8 0, .int .u8 1, .int .u8 242, .int .u8 3] 5)).alloc (.cells #[.int .u8 244, .int .u8 245, .int .u8 246, .int .u8 247] 5)).alloc (.cells #[.slice (some ⟨w.heap.size, 0, none⟩) 4 4, .slice (some ⟨w.heap.size + 1, 0, none⟩) 4 4] 29))
    fun e w' => e = .returned (.int .u16 8717) ∧ Below w.heap.size w w' := by
  have h4 := bytes_two w 5 5 [0, 1, 242, 3] [244, 245, 246, 247] #[.int .u8 0, .int .u8 1, .int .u8 242, .int .u8 3] #[.int .u8 244, .int .u8 245, .int .u8 246, .int .u8 247] 4 4 rfl rfl rfl rfl (by decide) (by decide) (fit_of _ rfl) (fit_of _ rfl)
  have hb : Below w.heap.size w ((w.alloc (.cells #[.int .u8 0, .int .u8 1, .int .u8 242, .int .u8 3] 5)).alloc (.cells #[.int .u8 244, .int .u8 245, .int .u8 246, .int .u8 247] 5)) := ((Below.refl _ w).alloc (Nat.le_refl _) _).alloc (by simp) _
  have h := of_two _ _ _ _ _ h4.1 h4.2
  have e1 : ((w.alloc (.cells #[.int .u8 0, .int .u8 1, .int .u8 242, .int .u8 3] 5)).alloc (.cells #[.int .u8 244, .int .u8 245, .int .u8 246, .int .u8 247] 5)).heap.size = w.heap.size + 1 + 1 := by simp
  rw [alive_two] at h
  have h' := h.mono (R' := fun e w' => e = .returned (.int .u16 8717) ∧ Below w.heap.size w w') (fun e w' hr => ⟨hr.1, hb.trans (hr.2.mono hb.size)⟩)
  rw [e1] at h'
  exact h'

/-- Two checksums say the same. -/
def alikeB (a b : Int) : Bool := decide (a % 65535 = b % 65535)
end Go.Proofs.Ytnlaomjhnndblaa
