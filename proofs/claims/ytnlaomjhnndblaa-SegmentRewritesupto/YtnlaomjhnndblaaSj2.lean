/-
  A box of ends.
-/
import Derived.Test.YtnlaomjhnndblaaSj1
namespace Go.Proofs.Ytnlaomjhnndblaa
open Go Go.RowKit Go.Shelf
set_option linter.unusedVariables false
set_option linter.unusedSimpArgs false

def endsC (A B C D : List Int) : List Value := u8L A ++ (u8L B ++ (u8L C ++ u8L D))
structure EndsBox (w : World) (b : Nat) (A B C D : List Int) : Prop where
  blk : w.heap[b]? = some (.cells (endsC A B C D).toArray 27)
  la : A.length = 4
  lb : B.length = 4
  lc : C.length = 16
  ld : D.length = 16
  fa : Fit A
  fb : Fit B
  fc : Fit C
  fd : Fit D
section
variable {w W : World} {b : Nat} {A B C D : List Int}
theorem EndsBox.on (h : EndsBox w b A B C D) (hb : Below w.heap.size w W) : EndsBox W b A B C D := ⟨blk_on h.blk hb, h.la, h.lb, h.lc, h.ld, h.fa, h.fb, h.fc, h.fd⟩
theorem EndsBox.lt (h : EndsBox w b A B C D) : b < w.heap.size := (Array.getElem?_eq_some_iff.1 h.blk).1
theorem u8L_length (zs : List Int) : (u8L zs).length = zs.length := by simp [u8L]
theorem EndsBox.cA (h : EndsBox w b A B C D) : CellsAt w b 0 (u8L A) := (CellsAt.of_blk h.blk).fst
theorem EndsBox.cB (h : EndsBox w b A B C D) : CellsAt w b 4 (u8L B) := by
  have := (CellsAt.of_blk h.blk).part (xs := u8L A) (ys := u8L B) (zs := u8L C ++ u8L D)
  rwa [u8L_length, h.la] at this
theorem EndsBox.cC (h : EndsBox w b A B C D) : CellsAt w b 8 (u8L C) := by
  have e : endsC A B C D = (u8L A ++ u8L B) ++ (u8L C ++ u8L D) := by simp [endsC]
  have hb := h.blk
  rw [e] at hb
  have := (CellsAt.of_blk hb).part (xs := u8L A ++ u8L B) (ys := u8L C) (zs := u8L D)
  rwa [List.length_append, u8L_length, u8L_length, h.la, h.lb] at this
theorem EndsBox.cD (h : EndsBox w b A B C D) : CellsAt w b 24 (u8L D) := by
  have e : endsC A B C D = (u8L A ++ (u8L B ++ u8L C)) ++ (u8L D ++ []) := by simp [endsC]
  have hb := h.blk
  rw [e] at hb
  have := (CellsAt.of_blk hb).part (xs := u8L A ++ (u8L B ++ u8L C)) (ys := u8L D) (zs := [])
  rwa [List.length_append, List.length_append, u8L_length, u8L_length, u8L_length, h.la, h.lb, h.lc] at this
theorem cells_bytes {o n cap : Nat} {zs : List Int} (h : CellsAt w b o (u8L zs)) (hb : b < w.heap.size) (hf : Fit zs) (hl : zs.length ≤ 1000) (hn : n = zs.length) : BytesAt w.heap.size w (.slice (some ⟨b, o, none⟩) n cap) zs := by
  refine ⟨hf, by omega, _, _, by rw [hn], .inr ⟨b, o, rfl, hb, fun j hj => ?_⟩⟩
  exact h j _ (by simp [u8L, hj])
theorem EndsBox.lA (h : EndsBox w b A B C D) : (Instr.loadAt 23 (.pointer (some ⟨b, 0, none⟩))).run Try.prog w = .ok (.agg (u8L A).toArray) w := agg_load Try.isAgg23 Try.sizeOf23 (by rw [u8L_length, h.la]) h.cA
theorem EndsBox.lB (h : EndsBox w b A B C D) : (Instr.loadAt 23 (.pointer (some ⟨b, 4, none⟩))).run Try.prog w = .ok (.agg (u8L B).toArray) w := agg_load Try.isAgg23 Try.sizeOf23 (by rw [u8L_length, h.lb]) h.cB
theorem EndsBox.lC (h : EndsBox w b A B C D) : (Instr.loadAt 25 (.pointer (some ⟨b, 8, none⟩))).run Try.prog w = .ok (.agg (u8L C).toArray) w := agg_load Try.isAgg25 Try.sizeOf25 (by rw [u8L_length, h.lc]) h.cC
theorem EndsBox.lD (h : EndsBox w b A B C D) : (Instr.loadAt 25 (.pointer (some ⟨b, 24, none⟩))).run Try.prog w = .ok (.agg (u8L D).toArray) w := agg_load Try.isAgg25 Try.sizeOf25 (by rw [u8L_length, h.ld]) h.cD
theorem EndsBox.bA (h : EndsBox w b A B C D) : BytesAt w.heap.size w (.slice (some ⟨b, 0, none⟩) 4 4) A := cells_bytes h.cA h.lt h.fa (by rw [h.la]; decide) h.la.symm
theorem EndsBox.bB (h : EndsBox w b A B C D) : BytesAt w.heap.size w (.slice (some ⟨b, 4, none⟩) 4 4) B := cells_bytes h.cB h.lt h.fb (by rw [h.lb]; decide) h.lb.symm
theorem EndsBox.bC (h : EndsBox w b A B C D) : BytesAt w.heap.size w (.slice (some ⟨b, 8, none⟩) 16 16) C := cells_bytes h.cC h.lt h.fc (by rw [h.lc]; decide) h.lc.symm
theorem EndsBox.bD (h : EndsBox w b A B C D) : BytesAt w.heap.size w (.slice (some ⟨b, 24, none⟩) 16 16) D := cells_bytes h.cD h.lt h.fd (by rw [h.ld]; decide) h.ld.symm
theorem EndsBox.e4 (h : EndsBox w b A B C D) : EndV w (.slice (some ⟨b, 0, none⟩) 4 4) (.slice (some ⟨b, 4, none⟩) 4 4) 4 (ph4 A B) := EndV.of4 h.bA h.bB h.la h.lb
theorem EndsBox.e6 (h : EndsBox w b A B C D) : EndV w (.slice (some ⟨b, 8, none⟩) 16 16) (.slice (some ⟨b, 24, none⟩) 16 16) 16 (ph6 C D) := EndV.of6 h.bC h.bD h.lc h.ld
theorem ends_new (w : World) (la : A.length = 4) (lb : B.length = 4) (lc : C.length = 16) (ld : D.length = 16) (fa : Fit A) (fb : Fit B) (fc : Fit C) (fd : Fit D) : EndsBox (w.alloc (.cells (endsC A B C D).toArray 27)) w.heap.size A B C D := ⟨blk_new w _, la, lb, lc, ld, fa, fb, fc, fd⟩
end
theorem ex_fieldE {o : Oper} {a : Act} {W : World} (k : Nat) (i n : Nat) {b : Nat} (hop : o.op = Op.fieldAddr 27 (.tmp k) i) (hk : a.eval (.tmp k) = .pointer (some ⟨b, 0, none⟩)) (hi : (i = 0 ∧ n = 0) ∨ (i = 1 ∧ n = 4) ∨ (i = 2 ∧ n = 8) ∨ (i = 3 ∧ n = 24)) :
    (execOp a.eval o).run Try.prog W = .ok (.value (.pointer (some ⟨b, n, none⟩))) W := by
  generalize a.eval = ev at *
  rcases hi with ⟨rfl, rfl⟩ | ⟨rfl, rfl⟩ | ⟨rfl, rfl⟩ | ⟨rfl, rfl⟩ <;> simp [execOp, hop, hk, go_sem]
theorem ex_slice4 {o : Oper} {a : Act} {W : World} (k : Nat) {b n : Nat} (hop : o.op = Op.slice 23 (.tmp k) none none none) (hk : a.eval (.tmp k) = .pointer (some ⟨b, n, none⟩)) :
    (execOp a.eval o).run Try.prog W = .ok (.value (.slice (some ⟨b, n, none⟩) 4 4)) W := by
  generalize a.eval = ev at *
  simp [execOp, hop, hk, go_sem]
theorem ex_slice6 {o : Oper} {a : Act} {W : World} (k : Nat) {b n : Nat} (hop : o.op = Op.slice 25 (.tmp k) none none none) (hk : a.eval (.tmp k) = .pointer (some ⟨b, n, none⟩)) :
    (execOp a.eval o).run Try.prog W = .ok (.value (.slice (some ⟨b, n, none⟩) 16 16)) W := by
  generalize a.eval = ev at *
  simp [execOp, hop, hk, go_sem]
theorem Wrote2.bytes {w w' : World} {zs : List Int} {er : Int} {e : Ending} (h : Wrote2 w zs er e w') (hf : Fit zs) (hl : zs.length ≤ 65535) : ∃ v, e = .returned (.tuple #[v, .int .i64 er]) ∧ BytesAt w'.heap.size w' v zs ∧ Below w.heap.size w w' := by
  obtain ⟨v, he, ho⟩ := h
  exact ⟨v, he, own_bytes ho.own hf (by omega), ho.bel⟩

end Go.Proofs.Ytnlaomjhnndblaa
