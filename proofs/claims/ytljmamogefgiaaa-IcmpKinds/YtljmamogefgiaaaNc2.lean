/-
  Addresses and a message in their boxes, the message's body cut.
-/
import Derived.Test.YtljmamogefgiaaaNc1
namespace Go.Proofs.Ytljmamogefgiaaa
open Go Go.RowKit Go.Shelf
set_option linter.unusedVariables false
set_option linter.unusedSimpArgs false

def cutM (m : Msg) : Msg := ⟨m.ty, m.code, m.rest, m.body.take 70000⟩
structure Box3 (w : World) (A B : List Int) (c : List Value) (m : Msg) (vb u : Value) (W0 W1 : World) : Prop where
  cc : c = [.int .u8 m.ty, .int .u8 m.code, .int .u32 m.rest, vb]
  e0 : ((w.alloc (.cells (u8L A).toArray 22)).alloc (.cells (u8L B).toArray 22)).alloc (.cells c.toArray 26) = W0
  e1 : W0.setCell ⟨w.heap.size + 1 + 1, 3, none⟩ u = W1
  k3 : W0.cell? ⟨w.heap.size + 1 + 1, 3, none⟩ = some vb
  f3 : W0.frozen? ⟨w.heap.size + 1 + 1, 3, none⟩ = false
  cut : ∀ W, Calls Try.prog 9 #[vb] W (fun e w' => e = .returned u ∧ w' = W)
  msg : MsgC W1 [.int .u8 m.ty, .int .u8 m.code, .int .u32 m.rest, u] (cutM m)
  bel : Below w.heap.size w W1
  lA : ∀ W, Below W1.heap.size W1 W → (Instr.loadAt 22 (.pointer (some ⟨w.heap.size, 0, none⟩))).run Try.prog W = .ok (.agg (u8L A).toArray) W
  lB : ∀ W, Below W1.heap.size W1 W → (Instr.loadAt 22 (.pointer (some ⟨w.heap.size + 1, 0, none⟩))).run Try.prog W = .ok (.agg (u8L B).toArray) W
  lM : ∀ W, Below W1.heap.size W1 W → (Instr.loadAt 26 (.pointer (some ⟨w.heap.size + 1 + 1, 0, none⟩))).run Try.prog W = .ok (.agg [.int .u8 m.ty, .int .u8 m.code, .int .u32 m.rest, u].toArray) W
theorem box3 (w : World) (A B : List Int) (hA : A.length = 16) (hB : B.length = 16) (c : List Value) (m : Msg) (h : MsgA w c m) : ∃ ab kb au ku W0 W1, Box3 w A B c m (.slice ab m.body.length kb) (.slice au (m.body.take 70000).length ku) W0 W1 := by
  obtain ⟨vb, rfl, hr, ft, fc, fr⟩ := h
  obtain ⟨u, hu, hcut⟩ := cut_any vb m.body w hr
  obtain ⟨ab, kb, rfl, _⟩ := hr.val
  obtain ⟨au, ku, rfl, _⟩ := hu.val
  have b0 := blk_new w (.cells (u8L A).toArray 22)
  have b1 := blk_new (w.alloc (.cells (u8L A).toArray 22)) (.cells (u8L B).toArray 22)
  have b2 := blk_new ((w.alloc (.cells (u8L A).toArray 22)).alloc (.cells (u8L B).toArray 22)) (.cells [.int .u8 m.ty, .int .u8 m.code, .int .u32 m.rest, .slice ab m.body.length kb].toArray 26)
  have b0' := blk_alloc (blk_alloc b0 (.cells (u8L B).toArray 22)) (.cells [.int .u8 m.ty, .int .u8 m.code, .int .u32 m.rest, .slice ab m.body.length kb].toArray 26)
  have b1' := blk_alloc b1 (.cells [.int .u8 m.ty, .int .u8 m.code, .int .u32 m.rest, .slice ab m.body.length kb].toArray 26)
  have hb : Below w.heap.size w (((w.alloc (.cells (u8L A).toArray 22)).alloc (.cells (u8L B).toArray 22)).alloc (.cells [.int .u8 m.ty, .int .u8 m.code, .int .u32 m.rest, .slice ab m.body.length kb].toArray 26)) := (((Below.refl _ w).alloc (Nat.le_refl _) _).alloc (by simp) _).alloc (by simp <;> omega) _
  have s1 : (w.alloc (.cells (u8L A).toArray 22)).heap.size = w.heap.size + 1 := by simp
  have s2 : ((w.alloc (.cells (u8L A).toArray 22)).alloc (.cells (u8L B).toArray 22)).heap.size = w.heap.size + 1 + 1 := by simp
  rw [s1] at b1'
  rw [s2] at b2
  obtain ⟨W0, hW0⟩ : ∃ W0, ((w.alloc (.cells (u8L A).toArray 22)).alloc (.cells (u8L B).toArray 22)).alloc (.cells [.int .u8 m.ty, .int .u8 m.code, .int .u32 m.rest, .slice ab m.body.length kb].toArray 26) = W0 := ⟨_, rfl⟩
  rw [hW0] at b0' b1' b2 hb
  have c2 := blk_set b2 3 (.slice au (m.body.take 70000).length ku)
  have c0 := blk_set_other (b' := w.heap.size + 1 + 1) b0' (by omega) 3 (.slice au (m.body.take 70000).length ku)
  have c1 := blk_set_other (b' := w.heap.size + 1 + 1) b1' (by omega) 3 (.slice au (m.body.take 70000).length ku)
  have hon : Only (w.heap.size + 1 + 1) W0 (W0.setCell ⟨w.heap.size + 1 + 1, 3, none⟩ (.slice au (m.body.take 70000).length ku)) := (Only.refl _ _).set _ _
  have hb1 := hb.trans (hon.below (by omega))
  refine ⟨ab, kb, au, ku, W0, _, rfl, hW0, rfl, blk_cell (j := 3) b2 rfl, blk_open b2 3, hcut, ⟨⟨_, rfl, (hu.on hb1).bytes⟩, ft, fc, fr⟩, hb1, fun W hW => ?_, fun W hW => ?_, fun W hW => ?_⟩
  · exact agg_load Try.isAgg22 Try.sizeOf22 (by simp [u8L, hA]) (CellsAt.of_blk (blk_on c0 hW))
  · exact agg_load Try.isAgg22 Try.sizeOf22 (by simp [u8L, hB]) (CellsAt.of_blk (blk_on c1 hW))
  · exact agg_load Try.isAgg26 Try.sizeOf26 rfl (CellsAt.of_blk (blk_on c2 hW))

end Go.Proofs.Ytljmamogefgiaaa
