/-
  The known datagram of UDP: its header as one of IPv6.
  The known datagram of UDP: Packet.
  The known datagram of UDP: answer, Packet.
  alive of the statements of tosix.
-/
import Derived.Test.YtnjkagopmfenkaaGreatFold25
import Derived.Test.YtnjkagopmfenkaaGreatXt2
import Derived.Test.YtnjkagopmfenkaaGreatFold15
import Derived.Test.YtnjkagopmfenkaaGreatFold14
import Derived.Test.YtnjkagopmfenkaaGreatFold00
namespace Go.Proofs.YtnjkagopmfenkaaGreat
open Go Go.RowKit Go.Shelf
set_option linter.unusedVariables false
set_option linter.unusedSimpArgs false

theorem next17c (w : World) : Calls Tryz.prog 73 #[.int .u8 17] w fun e w' => ∃ v, e = .returned v ∧ (v = .int .u8 17 ∧ w' = w) := (next17 w).mono (fun e w' k => ⟨_, k.1, rfl, k.2⟩)
theorem ex_fV4 {o : Oper} {a : Act} {W : World} (k : Nat) (i n : Nat) {b : Nat} (hop : o.op = Op.fieldAddr 27 (.tmp k) i) (hk : a.eval (.tmp k) = .pointer (some ⟨b, 0, none⟩)) (hi : (i = 0 ∧ n = 0) ∨ (i = 5 ∧ n = 5) ∨ (i = 6 ∧ n = 6)) :
    (execOp a.eval o).run Tryz.prog W = .ok (.value (.pointer (some ⟨b, n, none⟩))) W := by
  generalize a.eval = ev at *
  rcases hi with ⟨rfl, rfl⟩ | ⟨rfl, rfl⟩ | ⟨rfl, rfl⟩ <;> simp [execOp, hop, hk, go_sem]
theorem ex_fE6 {o : Oper} {a : Act} {W : World} (k : Nat) (i n : Nat) {b : Nat} (hop : o.op = Op.fieldAddr 31 (.tmp k) i) (hk : a.eval (.tmp k) = .pointer (some ⟨b, 0, none⟩)) (hi : (i = 0 ∧ n = 0) ∨ (i = 1 ∧ n = 16)) :
    (execOp a.eval o).run Tryz.prog W = .ok (.value (.pointer (some ⟨b, n, none⟩))) W := by
  generalize a.eval = ev at *
  rcases hi with ⟨rfl, rfl⟩ | ⟨rfl, rfl⟩ <;> simp [execOp, hop, hk, go_sem]
theorem ex_l8 {o : Oper} {a : Act} {W : World} (k : Nat) {p : Addr} {x : Int} (hop : o.op = Op.load 5 (.tmp k)) (hk : a.eval (.tmp k) = .pointer (some p)) (hc : W.cell? p = some (.int .u8 x)) :
    (execOp a.eval o).run Tryz.prog W = .ok (.value (.int .u8 x)) W := by
  generalize a.eval = ev at *
  simp [execOp, hop, hk, hc, go_sem]
theorem ex_b6 {o : Oper} {a : Act} {W : World} (p q r s t : Operand) (hop : o.op = Op.build 36 #[(0, p), (2, q), (3, r), (4, s), (10, t)]) (hp : a.eval p = .int .u8 0) (hq : a.eval q = .int .u8 7) (hr : a.eval r = .agg [.int .u8 1, .int .u8 0, .int .u8 0, .int .u8 0, .int .u8 0, .int .u8 0, .int .u8 0, .int .u8 0, .int .u8 0, .int .u8 0, .int .u8 0, .int .u8 0, .int .u8 0, .int .u8 0, .int .u8 0, .int .u8 0].toArray) (hs : a.eval s = .agg [.int .u8 2, .int .u8 0, .int .u8 0, .int .u8 0, .int .u8 0, .int .u8 0, .int .u8 0, .int .u8 0, .int .u8 0, .int .u8 0, .int .u8 0, .int .u8 0, .int .u8 0, .int .u8 0, .int .u8 0, .int .u8 0].toArray) (ht : a.eval t = .int .u8 17) :
    (execOp a.eval o).run Tryz.prog W = .ok (.value (.agg [.int .u8 0, .int .u32 0, .int .u8 7, .int .u8 1, .int .u8 0, .int .u8 0, .int .u8 0, .int .u8 0, .int .u8 0, .int .u8 0, .int .u8 0, .int .u8 0, .int .u8 0, .int .u8 0, .int .u8 0, .int .u8 0, .int .u8 0, .int .u8 0, .int .u8 0, .int .u8 2, .int .u8 0, .int .u8 0, .int .u8 0, .int .u8 0, .int .u8 0, .int .u8 0, .int .u8 0, .int .u8 0, .int .u8 0, .int .u8 0, .int .u8 0, .int .u8 0, .int .u8 0, .int .u8 0, .int .u8 0, .slice none 0 0, .bool false, .int .u32 0, .int .i64 0, .bool false, .int .u8 17, .slice none 0 0].toArray)) W := by
  generalize a.eval = ev at *
  simp [execOp, hop, hp, hq, hr, hs, ht, go_sem]

set_option maxHeartbeats 4000000 in
set_option maxRecDepth 100000 in
theorem header_known (w : World) (R : Nat) :
    Calls Tryz.prog 38 #[.agg [.int .u8 0, .int .u16 0, .bool false, .bool false, .int .i64 0, .int .u8 7, .int .u8 17, .int .u8 10, .int .u8 0, .int .u8 0, .int .u8 1, .int .u8 10, .int .u8 0, .int .u8 0, .int .u8 2, .slice none 0 0, .slice (some ⟨R, 0, none⟩) 8 8].toArray, .agg [.int .u8 1, .int .u8 0, .int .u8 0, .int .u8 0, .int .u8 0, .int .u8 0, .int .u8 0, .int .u8 0, .int .u8 0, .int .u8 0, .int .u8 0, .int .u8 0, .int .u8 0, .int .u8 0, .int .u8 0, .int .u8 0, .int .u8 2, .int .u8 0, .int .u8 0, .int .u8 0, .int .u8 0, .int .u8 0, .int .u8 0, .int .u8 0, .int .u8 0, .int .u8 0, .int .u8 0, .int .u8 0, .int .u8 0, .int .u8 0, .int .u8 0, .int .u8 0].toArray] w fun e w' => e = .returned (.agg [.int .u8 0, .int .u32 0, .int .u8 7, .int .u8 1, .int .u8 0, .int .u8 0, .int .u8 0, .int .u8 0, .int .u8 0, .int .u8 0, .int .u8 0, .int .u8 0, .int .u8 0, .int .u8 0, .int .u8 0, .int .u8 0, .int .u8 0, .int .u8 0, .int .u8 0, .int .u8 2, .int .u8 0, .int .u8 0, .int .u8 0, .int .u8 0, .int .u8 0, .int .u8 0, .int .u8 0, .int .u8 0, .int .u8 0, .int .u8 0, .int .u8 0, .int .u8 0, .int .u8 0, .int .u8 0, .int .u8 0, .slice none 0 0, .bool false, .int .u32 0, .int .i64 0, .bool false, .int .u8 17, .slice none 0 0].toArray) ∧ Below w.heap.size w w' := by
  obtain ⟨W0, hW0⟩ : ∃ W0, w.alloc (.cells [.int .u8 0, .int .u16 0, .bool false, .bool false, .int .i64 0, .int .u8 7, .int .u8 17, .int .u8 10, .int .u8 0, .int .u8 0, .int .u8 1, .int .u8 10, .int .u8 0, .int .u8 0, .int .u8 2, .slice none 0 0, .slice (some ⟨R, 0, none⟩) 8 8].toArray 27) = W0 := ⟨_, rfl⟩
  obtain ⟨W1, hW1⟩ : ∃ W1, W0.alloc (.cells [.int .u8 1, .int .u8 0, .int .u8 0, .int .u8 0, .int .u8 0, .int .u8 0, .int .u8 0, .int .u8 0, .int .u8 0, .int .u8 0, .int .u8 0, .int .u8 0, .int .u8 0, .int .u8 0, .int .u8 0, .int .u8 0, .int .u8 2, .int .u8 0, .int .u8 0, .int .u8 0, .int .u8 0, .int .u8 0, .int .u8 0, .int .u8 0, .int .u8 0, .int .u8 0, .int .u8 0, .int .u8 0, .int .u8 0, .int .u8 0, .int .u8 0, .int .u8 0].toArray 31) = W1 := ⟨_, rfl⟩
  obtain ⟨W2, hW2⟩ : ∃ W2, W1.alloc (.cells [.int .u8 0, .int .u32 0, .int .u8 0, .int .u8 0, .int .u8 0, .int .u8 0, .int .u8 0, .int .u8 0, .int .u8 0, .int .u8 0, .int .u8 0, .int .u8 0, .int .u8 0, .int .u8 0, .int .u8 0, .int .u8 0, .int .u8 0, .int .u8 0, .int .u8 0, .int .u8 0, .int .u8 0, .int .u8 0, .int .u8 0, .int .u8 0, .int .u8 0, .int .u8 0, .int .u8 0, .int .u8 0, .int .u8 0, .int .u8 0, .int .u8 0, .int .u8 0, .int .u8 0, .int .u8 0, .int .u8 0, .slice none 0 0, .bool false, .int .u32 0, .int .i64 0, .bool false, .int .u8 0, .slice none 0 0].toArray 36) = W2 := ⟨_, rfl⟩
  have b0 := blk_new w (.cells [.int .u8 0, .int .u16 0, .bool false, .bool false, .int .i64 0, .int .u8 7, .int .u8 17, .int .u8 10, .int .u8 0, .int .u8 0, .int .u8 1, .int .u8 10, .int .u8 0, .int .u8 0, .int .u8 2, .slice none 0 0, .slice (some ⟨R, 0, none⟩) 8 8].toArray 27)
  have hB0 := (Below.refl w.heap.size w).alloc (Nat.le_refl _) (.cells [.int .u8 0, .int .u16 0, .bool false, .bool false, .int .i64 0, .int .u8 7, .int .u8 17, .int .u8 10, .int .u8 0, .int .u8 0, .int .u8 1, .int .u8 10, .int .u8 0, .int .u8 0, .int .u8 2, .slice none 0 0, .slice (some ⟨R, 0, none⟩) 8 8].toArray 27)
  rw [hW0] at b0 hB0
  have b1 := blk_new W0 (.cells [.int .u8 1, .int .u8 0, .int .u8 0, .int .u8 0, .int .u8 0, .int .u8 0, .int .u8 0, .int .u8 0, .int .u8 0, .int .u8 0, .int .u8 0, .int .u8 0, .int .u8 0, .int .u8 0, .int .u8 0, .int .u8 0, .int .u8 2, .int .u8 0, .int .u8 0, .int .u8 0, .int .u8 0, .int .u8 0, .int .u8 0, .int .u8 0, .int .u8 0, .int .u8 0, .int .u8 0, .int .u8 0, .int .u8 0, .int .u8 0, .int .u8 0, .int .u8 0].toArray 31)
  have hB1 := (Below.refl W0.heap.size W0).alloc (Nat.le_refl _) (.cells [.int .u8 1, .int .u8 0, .int .u8 0, .int .u8 0, .int .u8 0, .int .u8 0, .int .u8 0, .int .u8 0, .int .u8 0, .int .u8 0, .int .u8 0, .int .u8 0, .int .u8 0, .int .u8 0, .int .u8 0, .int .u8 0, .int .u8 2, .int .u8 0, .int .u8 0, .int .u8 0, .int .u8 0, .int .u8 0, .int .u8 0, .int .u8 0, .int .u8 0, .int .u8 0, .int .u8 0, .int .u8 0, .int .u8 0, .int .u8 0, .int .u8 0, .int .u8 0].toArray 31)
  have b01 := blk_alloc b0 (.cells [.int .u8 1, .int .u8 0, .int .u8 0, .int .u8 0, .int .u8 0, .int .u8 0, .int .u8 0, .int .u8 0, .int .u8 0, .int .u8 0, .int .u8 0, .int .u8 0, .int .u8 0, .int .u8 0, .int .u8 0, .int .u8 0, .int .u8 2, .int .u8 0, .int .u8 0, .int .u8 0, .int .u8 0, .int .u8 0, .int .u8 0, .int .u8 0, .int .u8 0, .int .u8 0, .int .u8 0, .int .u8 0, .int .u8 0, .int .u8 0, .int .u8 0, .int .u8 0].toArray 31)
  rw [hW1] at b1 hB1 b01
  have b2 := blk_new W1 (.cells [.int .u8 0, .int .u32 0, .int .u8 0, .int .u8 0, .int .u8 0, .int .u8 0, .int .u8 0, .int .u8 0, .int .u8 0, .int .u8 0, .int .u8 0, .int .u8 0, .int .u8 0, .int .u8 0, .int .u8 0, .int .u8 0, .int .u8 0, .int .u8 0, .int .u8 0, .int .u8 0, .int .u8 0, .int .u8 0, .int .u8 0, .int .u8 0, .int .u8 0, .int .u8 0, .int .u8 0, .int .u8 0, .int .u8 0, .int .u8 0, .int .u8 0, .int .u8 0, .int .u8 0, .int .u8 0, .int .u8 0, .slice none 0 0, .bool false, .int .u32 0, .int .i64 0, .bool false, .int .u8 0, .slice none 0 0].toArray 36)
  have hB2 := (Below.refl W1.heap.size W1).alloc (Nat.le_refl _) (.cells [.int .u8 0, .int .u32 0, .int .u8 0, .int .u8 0, .int .u8 0, .int .u8 0, .int .u8 0, .int .u8 0, .int .u8 0, .int .u8 0, .int .u8 0, .int .u8 0, .int .u8 0, .int .u8 0, .int .u8 0, .int .u8 0, .int .u8 0, .int .u8 0, .int .u8 0, .int .u8 0, .int .u8 0, .int .u8 0, .int .u8 0, .int .u8 0, .int .u8 0, .int .u8 0, .int .u8 0, .int .u8 0, .int .u8 0, .int .u8 0, .int .u8 0, .int .u8 0, .int .u8 0, .int .u8 0, .int .u8 0, .slice none 0 0, .bool false, .int .u32 0, .int .i64 0, .bool false, .int .u8 0, .slice none 0 0].toArray 36)
  have b02 := blk_alloc b01 (.cells [.int .u8 0, .int .u32 0, .int .u8 0, .int .u8 0, .int .u8 0, .int .u8 0, .int .u8 0, .int .u8 0, .int .u8 0, .int .u8 0, .int .u8 0, .int .u8 0, .int .u8 0, .int .u8 0, .int .u8 0, .int .u8 0, .int .u8 0, .int .u8 0, .int .u8 0, .int .u8 0, .int .u8 0, .int .u8 0, .int .u8 0, .int .u8 0, .int .u8 0, .int .u8 0, .int .u8 0, .int .u8 0, .int .u8 0, .int .u8 0, .int .u8 0, .int .u8 0, .int .u8 0, .int .u8 0, .int .u8 0, .slice none 0 0, .bool false, .int .u32 0, .int .i64 0, .bool false, .int .u8 0, .slice none 0 0].toArray 36)
  have b12 := blk_alloc b1 (.cells [.int .u8 0, .int .u32 0, .int .u8 0, .int .u8 0, .int .u8 0, .int .u8 0, .int .u8 0, .int .u8 0, .int .u8 0, .int .u8 0, .int .u8 0, .int .u8 0, .int .u8 0, .int .u8 0, .int .u8 0, .int .u8 0, .int .u8 0, .int .u8 0, .int .u8 0, .int .u8 0, .int .u8 0, .int .u8 0, .int .u8 0, .int .u8 0, .int .u8 0, .int .u8 0, .int .u8 0, .int .u8 0, .int .u8 0, .int .u8 0, .int .u8 0, .int .u8 0, .int .u8 0, .int .u8 0, .int .u8 0, .slice none 0 0, .bool false, .int .u32 0, .int .i64 0, .bool false, .int .u8 0, .slice none 0 0].toArray 36)
  rw [hW2] at b2 hB2 b02 b12
  have hX1 := hB0.trans (hB1.mono hB0.size)
  have hX2 := hX1.trans (hB2.mono hX1.size)
  have hlt : W1.heap.size < W2.heap.size := (Array.getElem?_eq_some_iff.1 b2).1
  have hle1 := hX1.size
  have HC : Hid (∀ W, Below W2.heap.size W2 W → W.cell? ⟨w.heap.size, 0, none⟩ = some (.int .u8 0) ∧ W.cell? ⟨w.heap.size, 5, none⟩ = some (.int .u8 7) ∧ W.cell? ⟨w.heap.size, 6, none⟩ = some (.int .u8 17)) := fun W hW => ⟨blk_cell (blk_on b02 hW) rfl, blk_cell (blk_on b02 hW) rfl, blk_cell (blk_on b02 hW) rfl⟩
  have HLV : Hid (∀ W, Below W2.heap.size W2 W → (Instr.loadAt 27 (.pointer (some ⟨w.heap.size, 0, none⟩))).run Tryz.prog W = .ok (.agg [.int .u8 0, .int .u16 0, .bool false, .bool false, .int .i64 0, .int .u8 7, .int .u8 17, .int .u8 10, .int .u8 0, .int .u8 0, .int .u8 1, .int .u8 10, .int .u8 0, .int .u8 0, .int .u8 2, .slice none 0 0, .slice (some ⟨R, 0, none⟩) 8 8].toArray) W) := fun W hW => agg_load Tryz.isAgg27 Tryz.sizeOf27 rfl (CellsAt.of_blk (blk_on b02 hW))
  have HLA : Hid (∀ W, Below W2.heap.size W2 W → (Instr.loadAt 29 (.pointer (some ⟨W0.heap.size, 0, none⟩))).run Tryz.prog W = .ok (.agg [.int .u8 1, .int .u8 0, .int .u8 0, .int .u8 0, .int .u8 0, .int .u8 0, .int .u8 0, .int .u8 0, .int .u8 0, .int .u8 0, .int .u8 0, .int .u8 0, .int .u8 0, .int .u8 0, .int .u8 0, .int .u8 0].toArray) W) := fun W hW => agg_load Tryz.isAgg29 Tryz.sizeOf29 rfl (CellsAt.fst (ys := [.int .u8 2, .int .u8 0, .int .u8 0, .int .u8 0, .int .u8 0, .int .u8 0, .int .u8 0, .int .u8 0, .int .u8 0, .int .u8 0, .int .u8 0, .int .u8 0, .int .u8 0, .int .u8 0, .int .u8 0, .int .u8 0]) (CellsAt.of_blk (blk_on b12 hW)))
  have HLB : Hid (∀ W, Below W2.heap.size W2 W → (Instr.loadAt 29 (.pointer (some ⟨W0.heap.size, 16, none⟩))).run Tryz.prog W = .ok (.agg [.int .u8 2, .int .u8 0, .int .u8 0, .int .u8 0, .int .u8 0, .int .u8 0, .int .u8 0, .int .u8 0, .int .u8 0, .int .u8 0, .int .u8 0, .int .u8 0, .int .u8 0, .int .u8 0, .int .u8 0, .int .u8 0].toArray) W) := fun W hW => agg_load Tryz.isAgg29 Tryz.sizeOf29 rfl (CellsAt.part (o := 0) (xs := [.int .u8 1, .int .u8 0, .int .u8 0, .int .u8 0, .int .u8 0, .int .u8 0, .int .u8 0, .int .u8 0, .int .u8 0, .int .u8 0, .int .u8 0, .int .u8 0, .int .u8 0, .int .u8 0, .int .u8 0, .int .u8 0]) (ys := [.int .u8 2, .int .u8 0, .int .u8 0, .int .u8 0, .int .u8 0, .int .u8 0, .int .u8 0, .int .u8 0, .int .u8 0, .int .u8 0, .int .u8 0, .int .u8 0, .int .u8 0, .int .u8 0, .int .u8 0, .int .u8 0]) (zs := []) (CellsAt.of_blk (blk_on b12 hW)))
  have HFR : Hid (∀ W, Calls Tryz.prog 58 #[.agg [.int .u8 0, .int .u16 0, .bool false, .bool false, .int .i64 0, .int .u8 7, .int .u8 17, .int .u8 10, .int .u8 0, .int .u8 0, .int .u8 1, .int .u8 10, .int .u8 0, .int .u8 0, .int .u8 2, .slice none 0 0, .slice (some ⟨R, 0, none⟩) 8 8].toArray] W fun e w' => e = .returned (.bool false) ∧ Below W.heap.size W w') := fun W => fragment_calls [.int .u8 0, .int .u16 0, .bool false, .bool false, .int .i64 0, .int .u8 7, .int .u8 17, .int .u8 10, .int .u8 0, .int .u8 0, .int .u8 1, .int .u8 10, .int .u8 0, .int .u8 0, .int .u8 2, .slice none 0 0, .slice (some ⟨R, 0, none⟩) 8 8] false 0 W rfl rfl
  -- the box of the answer, and one that is made in the region
  have HST : Hid (∀ W, Below W2.heap.size W2 W → ∃ w', (Instr.storeAt 36 (.pointer (some ⟨W1.heap.size, 0, none⟩)) (.agg [.int .u8 0, .int .u32 0, .int .u8 7, .int .u8 1, .int .u8 0, .int .u8 0, .int .u8 0, .int .u8 0, .int .u8 0, .int .u8 0, .int .u8 0, .int .u8 0, .int .u8 0, .int .u8 0, .int .u8 0, .int .u8 0, .int .u8 0, .int .u8 0, .int .u8 0, .int .u8 2, .int .u8 0, .int .u8 0, .int .u8 0, .int .u8 0, .int .u8 0, .int .u8 0, .int .u8 0, .int .u8 0, .int .u8 0, .int .u8 0, .int .u8 0, .int .u8 0, .int .u8 0, .int .u8 0, .int .u8 0, .slice none 0 0, .bool false, .int .u32 0, .int .i64 0, .bool false, .int .u8 17, .slice none 0 0].toArray)).run Tryz.prog W = .ok () w' ∧ w'.heap[W1.heap.size]? = some (.cells [.int .u8 0, .int .u32 0, .int .u8 7, .int .u8 1, .int .u8 0, .int .u8 0, .int .u8 0, .int .u8 0, .int .u8 0, .int .u8 0, .int .u8 0, .int .u8 0, .int .u8 0, .int .u8 0, .int .u8 0, .int .u8 0, .int .u8 0, .int .u8 0, .int .u8 0, .int .u8 2, .int .u8 0, .int .u8 0, .int .u8 0, .int .u8 0, .int .u8 0, .int .u8 0, .int .u8 0, .int .u8 0, .int .u8 0, .int .u8 0, .int .u8 0, .int .u8 0, .int .u8 0, .int .u8 0, .int .u8 0, .slice none 0 0, .bool false, .int .u32 0, .int .i64 0, .bool false, .int .u8 17, .slice none 0 0].toArray 36) ∧ Below w.heap.size w w') := fun W hW => by
    obtain ⟨w', k1, k2, k3⟩ := box_store Tryz.sizeOf36 (blk_on b2 hW) rfl [.int .u8 0, .int .u32 0, .int .u8 7, .int .u8 1, .int .u8 0, .int .u8 0, .int .u8 0, .int .u8 0, .int .u8 0, .int .u8 0, .int .u8 0, .int .u8 0, .int .u8 0, .int .u8 0, .int .u8 0, .int .u8 0, .int .u8 0, .int .u8 0, .int .u8 0, .int .u8 2, .int .u8 0, .int .u8 0, .int .u8 0, .int .u8 0, .int .u8 0, .int .u8 0, .int .u8 0, .int .u8 0, .int .u8 0, .int .u8 0, .int .u8 0, .int .u8 0, .int .u8 0, .int .u8 0, .int .u8 0, .slice none 0 0, .bool false, .int .u32 0, .int .i64 0, .bool false, .int .u8 17, .slice none 0 0] rfl (by simp [Value.oneCell'])
    exact ⟨w', k1, k2, (hX2.trans (hW.mono hX2.size)).trans (k3.below hle1)⟩
  have HNB : Hid (∃ w', (Instr.storeAt 36 (.pointer (some ⟨W2.drew.heap.size, 0, none⟩)) (.agg [.int .u8 0, .int .u32 0, .int .u8 7, .int .u8 1, .int .u8 0, .int .u8 0, .int .u8 0, .int .u8 0, .int .u8 0, .int .u8 0, .int .u8 0, .int .u8 0, .int .u8 0, .int .u8 0, .int .u8 0, .int .u8 0, .int .u8 0, .int .u8 0, .int .u8 0, .int .u8 2, .int .u8 0, .int .u8 0, .int .u8 0, .int .u8 0, .int .u8 0, .int .u8 0, .int .u8 0, .int .u8 0, .int .u8 0, .int .u8 0, .int .u8 0, .int .u8 0, .int .u8 0, .int .u8 0, .int .u8 0, .slice none 0 0, .bool false, .int .u32 0, .int .i64 0, .bool false, .int .u8 17, .slice none 0 0].toArray)).run Tryz.prog (W2.drew.alloc (.cells [.int .u8 0, .int .u32 0, .int .u8 0, .int .u8 0, .int .u8 0, .int .u8 0, .int .u8 0, .int .u8 0, .int .u8 0, .int .u8 0, .int .u8 0, .int .u8 0, .int .u8 0, .int .u8 0, .int .u8 0, .int .u8 0, .int .u8 0, .int .u8 0, .int .u8 0, .int .u8 0, .int .u8 0, .int .u8 0, .int .u8 0, .int .u8 0, .int .u8 0, .int .u8 0, .int .u8 0, .int .u8 0, .int .u8 0, .int .u8 0, .int .u8 0, .int .u8 0, .int .u8 0, .int .u8 0, .int .u8 0, .slice none 0 0, .bool false, .int .u32 0, .int .i64 0, .bool false, .int .u8 0, .slice none 0 0].toArray 36)) = .ok () w' ∧ w'.heap[W2.drew.heap.size]? = some (.cells [.int .u8 0, .int .u32 0, .int .u8 7, .int .u8 1, .int .u8 0, .int .u8 0, .int .u8 0, .int .u8 0, .int .u8 0, .int .u8 0, .int .u8 0, .int .u8 0, .int .u8 0, .int .u8 0, .int .u8 0, .int .u8 0, .int .u8 0, .int .u8 0, .int .u8 0, .int .u8 2, .int .u8 0, .int .u8 0, .int .u8 0, .int .u8 0, .int .u8 0, .int .u8 0, .int .u8 0, .int .u8 0, .int .u8 0, .int .u8 0, .int .u8 0, .int .u8 0, .int .u8 0, .int .u8 0, .int .u8 0, .slice none 0 0, .bool false, .int .u32 0, .int .i64 0, .bool false, .int .u8 17, .slice none 0 0].toArray 36) ∧ Below W2.heap.size W2 w') := by
    obtain ⟨w', k1, k2, k3⟩ := box_new Tryz.sizeOf36 W2.drew [.int .u8 0, .int .u32 0, .int .u8 0, .int .u8 0, .int .u8 0, .int .u8 0, .int .u8 0, .int .u8 0, .int .u8 0, .int .u8 0, .int .u8 0, .int .u8 0, .int .u8 0, .int .u8 0, .int .u8 0, .int .u8 0, .int .u8 0, .int .u8 0, .int .u8 0, .int .u8 0, .int .u8 0, .int .u8 0, .int .u8 0, .int .u8 0, .int .u8 0, .int .u8 0, .int .u8 0, .int .u8 0, .int .u8 0, .int .u8 0, .int .u8 0, .int .u8 0, .int .u8 0, .int .u8 0, .int .u8 0, .slice none 0 0, .bool false, .int .u32 0, .int .i64 0, .bool false, .int .u8 0, .slice none 0 0] rfl [.int .u8 0, .int .u32 0, .int .u8 7, .int .u8 1, .int .u8 0, .int .u8 0, .int .u8 0, .int .u8 0, .int .u8 0, .int .u8 0, .int .u8 0, .int .u8 0, .int .u8 0, .int .u8 0, .int .u8 0, .int .u8 0, .int .u8 0, .int .u8 0, .int .u8 0, .int .u8 2, .int .u8 0, .int .u8 0, .int .u8 0, .int .u8 0, .int .u8 0, .int .u8 0, .int .u8 0, .int .u8 0, .int .u8 0, .int .u8 0, .int .u8 0, .int .u8 0, .int .u8 0, .int .u8 0, .int .u8 0, .slice none 0 0, .bool false, .int .u32 0, .int .i64 0, .bool false, .int .u8 17, .slice none 0 0] rfl (by simp [Value.oneCell'])
    have : ∃ w', (Instr.storeAt 36 (.pointer (some ⟨W2.drew.heap.size, 0, none⟩)) (.agg [.int .u8 0, .int .u32 0, .int .u8 7, .int .u8 1, .int .u8 0, .int .u8 0, .int .u8 0, .int .u8 0, .int .u8 0, .int .u8 0, .int .u8 0, .int .u8 0, .int .u8 0, .int .u8 0, .int .u8 0, .int .u8 0, .int .u8 0, .int .u8 0, .int .u8 0, .int .u8 2, .int .u8 0, .int .u8 0, .int .u8 0, .int .u8 0, .int .u8 0, .int .u8 0, .int .u8 0, .int .u8 0, .int .u8 0, .int .u8 0, .int .u8 0, .int .u8 0, .int .u8 0, .int .u8 0, .int .u8 0, .slice none 0 0, .bool false, .int .u32 0, .int .i64 0, .bool false, .int .u8 17, .slice none 0 0].toArray)).run Tryz.prog (W2.drew.alloc (.cells [.int .u8 0, .int .u32 0, .int .u8 0, .int .u8 0, .int .u8 0, .int .u8 0, .int .u8 0, .int .u8 0, .int .u8 0, .int .u8 0, .int .u8 0, .int .u8 0, .int .u8 0, .int .u8 0, .int .u8 0, .int .u8 0, .int .u8 0, .int .u8 0, .int .u8 0, .int .u8 0, .int .u8 0, .int .u8 0, .int .u8 0, .int .u8 0, .int .u8 0, .int .u8 0, .int .u8 0, .int .u8 0, .int .u8 0, .int .u8 0, .int .u8 0, .int .u8 0, .int .u8 0, .int .u8 0, .int .u8 0, .slice none 0 0, .bool false, .int .u32 0, .int .i64 0, .bool false, .int .u8 0, .slice none 0 0].toArray 36)) = .ok () w' ∧ w'.heap[W2.drew.heap.size]? = some (.cells [.int .u8 0, .int .u32 0, .int .u8 7, .int .u8 1, .int .u8 0, .int .u8 0, .int .u8 0, .int .u8 0, .int .u8 0, .int .u8 0, .int .u8 0, .int .u8 0, .int .u8 0, .int .u8 0, .int .u8 0, .int .u8 0, .int .u8 0, .int .u8 0, .int .u8 0, .int .u8 2, .int .u8 0, .int .u8 0, .int .u8 0, .int .u8 0, .int .u8 0, .int .u8 0, .int .u8 0, .int .u8 0, .int .u8 0, .int .u8 0, .int .u8 0, .int .u8 0, .int .u8 0, .int .u8 0, .int .u8 0, .slice none 0 0, .bool false, .int .u32 0, .int .i64 0, .bool false, .int .u8 17, .slice none 0 0].toArray 36) ∧ Below W2.heap.size W2 w' := ⟨w', k1, k2, (Below.refl W2.heap.size W2).drew.trans k3⟩
    exact this
  have hyd : Below W2.heap.size W2 W2.drew := (Below.refl _ _).drew
  have hya : Below W2.heap.size W2 (W2.drew.alloc (.cells [.int .u8 0, .int .u32 0, .int .u8 0, .int .u8 0, .int .u8 0, .int .u8 0, .int .u8 0, .int .u8 0, .int .u8 0, .int .u8 0, .int .u8 0, .int .u8 0, .int .u8 0, .int .u8 0, .int .u8 0, .int .u8 0, .int .u8 0, .int .u8 0, .int .u8 0, .int .u8 0, .int .u8 0, .int .u8 0, .int .u8 0, .int .u8 0, .int .u8 0, .int .u8 0, .int .u8 0, .int .u8 0, .int .u8 0, .int .u8 0, .int .u8 0, .int .u8 0, .int .u8 0, .int .u8 0, .int .u8 0, .slice none 0 0, .bool false, .int .u32 0, .int .i64 0, .bool false, .int .u8 0, .slice none 0 0].toArray 36)) := hyd.alloc hyd.size _
  clear b0 hB0 b1 hB1 b01 hX1 b2 hB2 b02 b12 hX2 hlt hle1
  go_enter Tryz.func38, Tryz.ntmps38
  go_wp2_with fail
  refine wp_region_held (S := fun W => Below W2.heap.size W2 W) (by kernel_rfl) ?_
  show wpAnyH _ _ _ _ _ 14 (Array.replicate 14 false) _ _
  refine take_one (i := 0) (d := some 6) (v := .pointer (some ⟨w.heap.size, 0, none⟩)) rfl rfl rfl (by kernel_rfl) (by kernel_rfl) (by kernel_rfl) (fun _ _ d _ _ h => by cases d <;> exact h) (fun W hS => ex_fV4 2 0 0 rfl rfl (by decide)) hyd ?_
  simp only [Act.put, List.setIfInBounds_toArray, List.set_cons_zero, List.set_cons_succ]
  refine take_one (i := 1) (d := some 7) (v := .int .u8 0) rfl rfl rfl (by kernel_rfl) (by kernel_rfl) (by kernel_rfl) (fun _ _ d _ _ h => by cases d <;> exact h) (fun W hS => ex_l8 6 rfl rfl (HC.out W hS).1) hyd ?_
  simp only [Act.put, List.setIfInBounds_toArray, List.set_cons_zero, List.set_cons_succ]
  refine take_one (i := 2) (d := some 8) (v := .pointer (some ⟨w.heap.size, 5, none⟩)) rfl rfl rfl (by kernel_rfl) (by kernel_rfl) (by kernel_rfl) (fun _ _ d _ _ h => by cases d <;> exact h) (fun W hS => ex_fV4 2 5 5 rfl rfl (by decide)) hyd ?_
  simp only [Act.put, List.setIfInBounds_toArray, List.set_cons_zero, List.set_cons_succ]
  refine take_one (i := 3) (d := some 9) (v := .int .u8 7) rfl rfl rfl (by kernel_rfl) (by kernel_rfl) (by kernel_rfl) (fun _ _ d _ _ h => by cases d <;> exact h) (fun W hS => ex_l8 8 rfl rfl (HC.out W hS).2.1) hyd ?_
  simp only [Act.put, List.setIfInBounds_toArray, List.set_cons_zero, List.set_cons_succ]
  refine take_one (i := 4) (d := some 10) (v := .pointer (some ⟨W0.heap.size, 0, none⟩)) rfl rfl rfl (by kernel_rfl) (by kernel_rfl) (by kernel_rfl) (fun _ _ d _ _ h => by cases d <;> exact h) (fun W hS => ex_fE6 3 0 0 rfl rfl (by decide)) hyd ?_
  simp only [Act.put, List.setIfInBounds_toArray, List.set_cons_zero, List.set_cons_succ]
  refine take_one (i := 5) (d := some 11) (v := .agg [.int .u8 1, .int .u8 0, .int .u8 0, .int .u8 0, .int .u8 0, .int .u8 0, .int .u8 0, .int .u8 0, .int .u8 0, .int .u8 0, .int .u8 0, .int .u8 0, .int .u8 0, .int .u8 0, .int .u8 0, .int .u8 0].toArray) rfl rfl rfl (by kernel_rfl) (by kernel_rfl) (by kernel_rfl) (fun _ _ d _ _ h => by cases d <;> exact h) (fun W hS => ex_loadv (vp := .pointer (some ⟨W0.heap.size, 0, none⟩)) (.tmp 10) 29 rfl rfl (HLA.out W hS)) hyd ?_
  simp only [Act.put, List.setIfInBounds_toArray, List.set_cons_zero, List.set_cons_succ]
  refine take_one (i := 6) (d := some 12) (v := .pointer (some ⟨W0.heap.size, 16, none⟩)) rfl rfl rfl (by kernel_rfl) (by kernel_rfl) (by kernel_rfl) (fun _ _ d _ _ h => by cases d <;> exact h) (fun W hS => ex_fE6 3 1 16 rfl rfl (by decide)) hyd ?_
  simp only [Act.put, List.setIfInBounds_toArray, List.set_cons_zero, List.set_cons_succ]
  refine take_one (i := 7) (d := some 13) (v := .agg [.int .u8 2, .int .u8 0, .int .u8 0, .int .u8 0, .int .u8 0, .int .u8 0, .int .u8 0, .int .u8 0, .int .u8 0, .int .u8 0, .int .u8 0, .int .u8 0, .int .u8 0, .int .u8 0, .int .u8 0, .int .u8 0].toArray) rfl rfl rfl (by kernel_rfl) (by kernel_rfl) (by kernel_rfl) (fun _ _ d _ _ h => by cases d <;> exact h) (fun W hS => ex_loadv (vp := .pointer (some ⟨W0.heap.size, 16, none⟩)) (.tmp 12) 29 rfl rfl (HLB.out W hS)) hyd ?_
  simp only [Act.put, List.setIfInBounds_toArray, List.set_cons_zero, List.set_cons_succ]
  refine take_one (i := 8) (d := some 14) (v := .pointer (some ⟨w.heap.size, 6, none⟩)) rfl rfl rfl (by kernel_rfl) (by kernel_rfl) (by kernel_rfl) (fun _ _ d _ _ h => by cases d <;> exact h) (fun W hS => ex_fV4 2 6 6 rfl rfl (by decide)) hyd ?_
  simp only [Act.put, List.setIfInBounds_toArray, List.set_cons_zero, List.set_cons_succ]
  refine take_one (i := 9) (d := some 15) (v := .int .u8 17) rfl rfl rfl (by kernel_rfl) (by kernel_rfl) (by kernel_rfl) (fun _ _ d _ _ h => by cases d <;> exact h) (fun W hS => ex_l8 14 rfl rfl (HC.out W hS).2.2) hyd ?_
  simp only [Act.put, List.setIfInBounds_toArray, List.set_cons_zero, List.set_cons_succ]
  refine all_two (i1 := 10) (i2 := 12) (by kernel_rfl) rfl rfl rfl rfl ?_ ?_
  · skip
    refine wp_call (d := some 16) 73 _ rfl (by kernel_rfl) (next17c _) ?_
    rintro _ _ ⟨hv, rfl⟩
    subst hv
    refine ⟨hyd, ?_⟩
    simp only [Act.put, List.setIfInBounds_toArray, List.set_cons_zero, List.set_cons_succ]
    refine take_one (i := 11) (d := some 17) (v := .agg [.int .u8 0, .int .u32 0, .int .u8 7, .int .u8 1, .int .u8 0, .int .u8 0, .int .u8 0, .int .u8 0, .int .u8 0, .int .u8 0, .int .u8 0, .int .u8 0, .int .u8 0, .int .u8 0, .int .u8 0, .int .u8 0, .int .u8 0, .int .u8 0, .int .u8 0, .int .u8 2, .int .u8 0, .int .u8 0, .int .u8 0, .int .u8 0, .int .u8 0, .int .u8 0, .int .u8 0, .int .u8 0, .int .u8 0, .int .u8 0, .int .u8 0, .int .u8 0, .int .u8 0, .int .u8 0, .int .u8 0, .slice none 0 0, .bool false, .int .u32 0, .int .i64 0, .bool false, .int .u8 17, .slice none 0 0].toArray) rfl rfl rfl (by kernel_rfl) (by kernel_rfl) (by kernel_rfl) (fun _ _ d _ _ h => by cases d <;> exact h) (fun W hS => ex_b6 (.tmp 7) (.tmp 9) (.tmp 11) (.tmp 13) (.tmp 16) rfl rfl rfl rfl rfl rfl) hyd ?_
    simp only [Act.put, List.setIfInBounds_toArray, List.set_cons_zero, List.set_cons_succ]
    refine all_one (i := 12) (by kernel_rfl) rfl rfl ?_
    refine V6.wp_allocA (d := some 5) 36 rfl rfl (v := .pointer (some ⟨W2.drew.heap.size, 0, none⟩)) (w2 := W2.drew.alloc (.cells [.int .u8 0, .int .u32 0, .int .u8 0, .int .u8 0, .int .u8 0, .int .u8 0, .int .u8 0, .int .u8 0, .int .u8 0, .int .u8 0, .int .u8 0, .int .u8 0, .int .u8 0, .int .u8 0, .int .u8 0, .int .u8 0, .int .u8 0, .int .u8 0, .int .u8 0, .int .u8 0, .int .u8 0, .int .u8 0, .int .u8 0, .int .u8 0, .int .u8 0, .int .u8 0, .int .u8 0, .int .u8 0, .int .u8 0, .int .u8 0, .int .u8 0, .int .u8 0, .int .u8 0, .int .u8 0, .int .u8 0, .slice none 0 0, .bool false, .int .u32 0, .int .i64 0, .bool false, .int .u8 0, .slice none 0 0].toArray 36)) (by kernel_rfl) ⟨hya, ?_⟩
    simp only [Act.put, List.setIfInBounds_toArray, List.set_cons_zero, List.set_cons_succ]
    obtain ⟨w3, st3, b3, hb3⟩ := HNB.out
    refine all_one (i := 13) (by kernel_rfl) rfl rfl ?_
    refine store_wp (.tmp 5) (.tmp 17) 36 rfl rfl rfl st3 ⟨hb3, ?_⟩
    simp only [Act.put, List.setIfInBounds_toArray, List.set_cons_zero, List.set_cons_succ]
    refine wpAnyH_done (by kernel_rfl) ?_ _
    have B3 : Hid _ := b3
    have hl3 := HLV.out _ hb3
    clear st3 HNB b3
    go_wp2_with ((with_reducible show wpList _ _ _ _ _ _); refine arm_load rfl (.tmp 2) 27 rfl rfl hl3 ?_)
    refine Calls.mono (HFR.out _) ?_
    rintro _ w4 ⟨rfl, hb4⟩
    have hy4 := hb3.trans (hb4.mono hb3.size)
    have HL4 : Hid ((Instr.loadAt 36 (.pointer (some ⟨W2.drew.heap.size, 0, none⟩))).run Tryz.prog w4 = .ok (.agg [.int .u8 0, .int .u32 0, .int .u8 7, .int .u8 1, .int .u8 0, .int .u8 0, .int .u8 0, .int .u8 0, .int .u8 0, .int .u8 0, .int .u8 0, .int .u8 0, .int .u8 0, .int .u8 0, .int .u8 0, .int .u8 0, .int .u8 0, .int .u8 0, .int .u8 0, .int .u8 2, .int .u8 0, .int .u8 0, .int .u8 0, .int .u8 0, .int .u8 0, .int .u8 0, .int .u8 0, .int .u8 0, .int .u8 0, .int .u8 0, .int .u8 0, .int .u8 0, .int .u8 0, .int .u8 0, .int .u8 0, .slice none 0 0, .bool false, .int .u32 0, .int .i64 0, .bool false, .int .u8 17, .slice none 0 0].toArray) w4) := agg_load Tryz.isAgg36 Tryz.sizeOf36 rfl (CellsAt.of_blk (blk_on B3.out hb4))
    obtain ⟨w5, st5, b5, hb5⟩ := HST.out w4 hy4
    have HS5 : Hid _ := st5
    clear st5 hl3 hb4
    go_wp2_with first
      | ((with_reducible show wpList _ _ _ _ _ _); refine arm_load rfl (.tmp 5) 36 rfl rfl HL4.out ?_)
      | ((with_reducible show wpList _ _ _ _ _ _); refine arm_store rfl (.tmp 4) (.tmp 31) 36 rfl rfl rfl HS5.out ?_)
    exact bodyPost_ret (res1t rfl rfl (agg_loadVar Tryz.isAgg36 Tryz.sizeOf36 rfl (CellsAt.of_blk b5))) rfl ⟨rfl, hb5⟩
  · skip
    refine V6.wp_allocA (d := some 5) 36 rfl rfl (v := .pointer (some ⟨W2.drew.heap.size, 0, none⟩)) (w2 := W2.drew.alloc (.cells [.int .u8 0, .int .u32 0, .int .u8 0, .int .u8 0, .int .u8 0, .int .u8 0, .int .u8 0, .int .u8 0, .int .u8 0, .int .u8 0, .int .u8 0, .int .u8 0, .int .u8 0, .int .u8 0, .int .u8 0, .int .u8 0, .int .u8 0, .int .u8 0, .int .u8 0, .int .u8 0, .int .u8 0, .int .u8 0, .int .u8 0, .int .u8 0, .int .u8 0, .int .u8 0, .int .u8 0, .int .u8 0, .int .u8 0, .int .u8 0, .int .u8 0, .int .u8 0, .int .u8 0, .int .u8 0, .int .u8 0, .slice none 0 0, .bool false, .int .u32 0, .int .i64 0, .bool false, .int .u8 0, .slice none 0 0].toArray 36)) (by kernel_rfl) ⟨hya, ?_⟩
    simp only [Act.put, List.setIfInBounds_toArray, List.set_cons_zero, List.set_cons_succ]
    refine all_one (i := 10) (by kernel_rfl) rfl rfl ?_
    refine wp_call (d := some 16) 73 _ rfl (by kernel_rfl) (next17c _) ?_
    rintro _ _ ⟨hv, rfl⟩
    subst hv
    refine ⟨hya, ?_⟩
    simp only [Act.put, List.setIfInBounds_toArray, List.set_cons_zero, List.set_cons_succ]
    refine take_one (i := 11) (d := some 17) (v := .agg [.int .u8 0, .int .u32 0, .int .u8 7, .int .u8 1, .int .u8 0, .int .u8 0, .int .u8 0, .int .u8 0, .int .u8 0, .int .u8 0, .int .u8 0, .int .u8 0, .int .u8 0, .int .u8 0, .int .u8 0, .int .u8 0, .int .u8 0, .int .u8 0, .int .u8 0, .int .u8 2, .int .u8 0, .int .u8 0, .int .u8 0, .int .u8 0, .int .u8 0, .int .u8 0, .int .u8 0, .int .u8 0, .int .u8 0, .int .u8 0, .int .u8 0, .int .u8 0, .int .u8 0, .int .u8 0, .int .u8 0, .slice none 0 0, .bool false, .int .u32 0, .int .i64 0, .bool false, .int .u8 17, .slice none 0 0].toArray) rfl rfl rfl (by kernel_rfl) (by kernel_rfl) (by kernel_rfl) (fun _ _ d _ _ h => by cases d <;> exact h) (fun W hS => ex_b6 (.tmp 7) (.tmp 9) (.tmp 11) (.tmp 13) (.tmp 16) rfl rfl rfl rfl rfl rfl) hya ?_
    simp only [Act.put, List.setIfInBounds_toArray, List.set_cons_zero, List.set_cons_succ]
    obtain ⟨w3, st3, b3, hb3⟩ := HNB.out
    refine all_one (i := 13) (by kernel_rfl) rfl rfl ?_
    refine store_wp (.tmp 5) (.tmp 17) 36 rfl rfl rfl st3 ⟨hb3, ?_⟩
    simp only [Act.put, List.setIfInBounds_toArray, List.set_cons_zero, List.set_cons_succ]
    refine wpAnyH_done (by kernel_rfl) ?_ _
    have B3 : Hid _ := b3
    have hl3 := HLV.out _ hb3
    clear st3 HNB b3
    go_wp2_with ((with_reducible show wpList _ _ _ _ _ _); refine arm_load rfl (.tmp 2) 27 rfl rfl hl3 ?_)
    refine Calls.mono (HFR.out _) ?_
    rintro _ w4 ⟨rfl, hb4⟩
    have hy4 := hb3.trans (hb4.mono hb3.size)
    have HL4 : Hid ((Instr.loadAt 36 (.pointer (some ⟨W2.drew.heap.size, 0, none⟩))).run Tryz.prog w4 = .ok (.agg [.int .u8 0, .int .u32 0, .int .u8 7, .int .u8 1, .int .u8 0, .int .u8 0, .int .u8 0, .int .u8 0, .int .u8 0, .int .u8 0, .int .u8 0, .int .u8 0, .int .u8 0, .int .u8 0, .int .u8 0, .int .u8 0, .int .u8 0, .int .u8 0, .int .u8 0, .int .u8 2, .int .u8 0, .int .u8 0, .int .u8 0, .int .u8 0, .int .u8 0, .int .u8 0, .int .u8 0, .int .u8 0, .int .u8 0, .int .u8 0, .int .u8 0, .int .u8 0, .int .u8 0, .int .u8 0, .int .u8 0, .slice none 0 0, .bool false, .int .u32 0, .int .i64 0, .bool false, .int .u8 17, .slice none 0 0].toArray) w4) := agg_load Tryz.isAgg36 Tryz.sizeOf36 rfl (CellsAt.of_blk (blk_on B3.out hb4))
    obtain ⟨w5, st5, b5, hb5⟩ := HST.out w4 hy4
    have HS5 : Hid _ := st5
    clear st5 hl3 hb4
    go_wp2_with first
      | ((with_reducible show wpList _ _ _ _ _ _); refine arm_load rfl (.tmp 5) 36 rfl rfl HL4.out ?_)
      | ((with_reducible show wpList _ _ _ _ _ _); refine arm_store rfl (.tmp 4) (.tmp 31) 36 rfl rfl rfl HS5.out ?_)
    exact bodyPost_ret (res1t rfl rfl (agg_loadVar Tryz.isAgg36 Tryz.sizeOf36 rfl (CellsAt.of_blk b5))) rfl ⟨rfl, hb5⟩
end Go.Proofs.YtnjkagopmfenkaaGreat

namespace Go.Proofs.YtnjkagopmfenkaaGreat
open Go Go.RowKit Go.Shelf
set_option linter.unusedVariables false
set_option linter.unusedSimpArgs false

/-- The body's bytes, behind base. -/
def KW (z : List Int) (base : Nat) (W : World) (v : Value) : Prop := ∃ b k, v = .slice (some ⟨b, 0, none⟩) 8 k ∧ base ≤ b ∧ b < W.heap.size ∧ ∀ j, j < 8 → W.cell? ⟨b, j, none⟩ = some (.int .u8 (gz z j))
theorem KW.of_ob {z : List Int} (hz : z.length = 8) {base : Nat} {w W : World} {v : Value} (h : OB base w W v z) : KW z base W v := by
  have ho := h.own
  rw [hz] at ho
  obtain ⟨g, cap, rfl, h1, h2, h3, h4⟩ := own_G ho (by decide)
  refine ⟨g, cap, rfl, h3, h4.lt, fun j hj => ?_⟩
  have := h4.cell j (by rw [hz]; exact hj)
  simpa [gz] using this
theorem KW.on {z : List Int} {base : Nat} {W W' : World} {v : Value} (h : KW z base W v) (hb : Below W.heap.size W W') : KW z base W' v := by
  obtain ⟨b, k, rfl, h1, h2, h3⟩ := h
  exact ⟨b, k, rfl, h1, Nat.lt_of_lt_of_le h2 hb.size, fun j hj => (hb.cell (p := ⟨b, j, none⟩) h2).trans (h3 j hj)⟩
theorem KW.only {z : List Int} {base g : Nat} {W W' : World} {v : Value} (h : KW z base W v) (ho : Only g W W') (hg : g < base) : KW z base W' v := by
  obtain ⟨b, k, rfl, h1, h2, h3⟩ := h
  refine ⟨b, k, rfl, h1, by rw [ho.size]; exact h2, fun j hj => ?_⟩
  have e := ho.other b (by omega)
  rw [← h3 j hj]
  simp only [World.cell?, e]
theorem KW.mono {z : List Int} {base base' : Nat} {W : World} {v : Value} (h : KW z base W v) (hb : base' ≤ base) : KW z base' W v := by
  obtain ⟨b, k, rfl, h1, h2, h3⟩ := h
  exact ⟨b, k, rfl, Nat.le_trans hb h1, h2, h3⟩
theorem kZ_fit : Fit kZ := by
  have : ∀ z ∈ kZ, 0 ≤ z ∧ z < 256 := by decide +kernel
  exact this
theorem KW.bytes {z : List Int} (hz : z.length = 8) (fz : Fit z) {base : Nat} {W : World} {v : Value} (h : KW z base W v) : BytesAt W.heap.size W v z := by
  obtain ⟨b, k, rfl, h1, h2, h3⟩ := h
  refine ⟨fz, by rw [hz]; decide, some ⟨b, 0, none⟩, k, by rw [hz], .inr ⟨b, 0, rfl, h2, fun j hj => ?_⟩⟩
  rw [hz] at hj
  simpa [gz] using h3 j hj
theorem chk6_zero {er : Int} (h : V6.Chk6 0 [] false 0 0 false 17 8 er) : er = 0 := by
  rcases h with ⟨a, rfl⟩ | ⟨a, b, rfl⟩ | ⟨a, b, rfl⟩
  · exact absurd ⟨by decide, ⟨Nat.zero_le _, fun j hj => absurd hj (Nat.not_lt_zero _)⟩, by decide⟩ a
  · exact absurd b (by decide)
  · rfl

set_option maxHeartbeats 1000000 in
set_option maxRecDepth 100000 in
theorem check6_known (w : World) (a : Option Addr) (n k : Nat) (zs : List Int) (hz : zs.length = 8) (h : BytesAt w.heap.size w (.slice a n k) zs) :
    Calls Tryz.prog 41 #[.agg [.int .u8 0, .int .u32 0, .int .u8 7, .int .u8 1, .int .u8 0, .int .u8 0, .int .u8 0, .int .u8 0, .int .u8 0, .int .u8 0, .int .u8 0, .int .u8 0, .int .u8 0, .int .u8 0, .int .u8 0, .int .u8 0, .int .u8 0, .int .u8 0, .int .u8 0, .int .u8 2, .int .u8 0, .int .u8 0, .int .u8 0, .int .u8 0, .int .u8 0, .int .u8 0, .int .u8 0, .int .u8 0, .int .u8 0, .int .u8 0, .int .u8 0, .int .u8 0, .int .u8 0, .int .u8 0, .int .u8 0, .slice none 0 0, .bool false, .int .u32 0, .int .i64 0, .bool false, .int .u8 17, .slice a n k].toArray] w fun e w' => e = .returned (.int .i64 0) ∧ Below w.heap.size w w' := by
  have hl : V6.L6 [.int .u8 0, .int .u32 0, .int .u8 7, .int .u8 1, .int .u8 0, .int .u8 0, .int .u8 0, .int .u8 0, .int .u8 0, .int .u8 0, .int .u8 0, .int .u8 0, .int .u8 0, .int .u8 0, .int .u8 0, .int .u8 0, .int .u8 0, .int .u8 0, .int .u8 0, .int .u8 2, .int .u8 0, .int .u8 0, .int .u8 0, .int .u8 0, .int .u8 0, .int .u8 0, .int .u8 0, .int .u8 0, .int .u8 0, .int .u8 0, .int .u8 0, .int .u8 0, .int .u8 0, .int .u8 0, .int .u8 0, .slice none 0 0, .bool false, .int .u32 0, .int .i64 0, .bool false, .int .u8 17, .slice a n k] 0 0 7 (.slice none 0 0) false 0 0 false 17 (.slice a n k) := ⟨rfl, by simp [Value.oneCell'], rfl, rfl, rfl, rfl, rfl, rfl, rfl, rfl, rfl, rfl⟩
  refine (V6.Check_calls w hl [] ⟨fun j => by simp [V6.oK], by simp, none, 0, rfl, .inl rfl⟩ zs h (by decide)).mono ?_
  rintro e w' ⟨er, k1, k2, k3⟩
  rw [hz] at k2
  have := chk6_zero k2
  subst this
  exact ⟨k1, k3⟩
set_option maxHeartbeats 4000000 in
set_option maxRecDepth 100000 in
theorem way_known (z : List Int) (hz : z.length = 8) (fz : Fit z) (hbd : ∀ (w : World) (R : Nat), RowC w (.slice (some ⟨R, 0, none⟩) 8 8) kB → Calls Tryz.prog 40 #[.agg [.int .u8 0, .int .u16 0, .bool false, .bool false, .int .i64 0, .int .u8 7, .int .u8 17, .int .u8 10, .int .u8 0, .int .u8 0, .int .u8 1, .int .u8 10, .int .u8 0, .int .u8 0, .int .u8 2, .slice none 0 0, .slice (some ⟨R, 0, none⟩) 8 8].toArray, .agg [.int .u8 1, .int .u8 0, .int .u8 0, .int .u8 0, .int .u8 0, .int .u8 0, .int .u8 0, .int .u8 0, .int .u8 0, .int .u8 0, .int .u8 0, .int .u8 0, .int .u8 0, .int .u8 0, .int .u8 0, .int .u8 0, .int .u8 2, .int .u8 0, .int .u8 0, .int .u8 0, .int .u8 0, .int .u8 0, .int .u8 0, .int .u8 0, .int .u8 0, .int .u8 0, .int .u8 0, .int .u8 0, .int .u8 0, .int .u8 0, .int .u8 0, .int .u8 0].toArray] w fun e w' => ∃ v, e = .returned v ∧ OB w.heap.size w w' v z) (hrt : ∀ W, Calls Tryz.prog 37 #[.slice none 0 0] W fun e w' => e = .returned (.bool false) ∧ Below W.heap.size W w') (w : World) (R p q r : Nat) (hp : w.heap[p]? = some (.cells [.int .u8 0, .int .u16 0, .bool false, .bool false, .int .i64 0, .int .u8 7, .int .u8 17, .int .u8 10, .int .u8 0, .int .u8 0, .int .u8 1, .int .u8 10, .int .u8 0, .int .u8 0, .int .u8 2, .slice none 0 0, .slice (some ⟨R, 0, none⟩) 8 8].toArray 27)) (hq : w.heap[q]? = some (.cells [.int .u8 1, .int .u8 0, .int .u8 0, .int .u8 0, .int .u8 0, .int .u8 0, .int .u8 0, .int .u8 0, .int .u8 0, .int .u8 0, .int .u8 0, .int .u8 0, .int .u8 0, .int .u8 0, .int .u8 0, .int .u8 0, .int .u8 2, .int .u8 0, .int .u8 0, .int .u8 0, .int .u8 0, .int .u8 0, .int .u8 0, .int .u8 0, .int .u8 0, .int .u8 0, .int .u8 0, .int .u8 0, .int .u8 0, .int .u8 0, .int .u8 0, .int .u8 0].toArray 31)) (hr : RowC w (.slice (some ⟨R, 0, none⟩) 8 8) kB) :
    Calls Tryz.prog 33 #[.pointer (some ⟨p, 0, none⟩), .pointer (some ⟨q, 0, none⟩), .pointer (some ⟨r, 0, none⟩)] w fun e w' => ∃ v, e = .returned (.agg [.int .u8 0, .int .u32 0, .int .u8 7, .int .u8 1, .int .u8 0, .int .u8 0, .int .u8 0, .int .u8 0, .int .u8 0, .int .u8 0, .int .u8 0, .int .u8 0, .int .u8 0, .int .u8 0, .int .u8 0, .int .u8 0, .int .u8 0, .int .u8 0, .int .u8 0, .int .u8 2, .int .u8 0, .int .u8 0, .int .u8 0, .int .u8 0, .int .u8 0, .int .u8 0, .int .u8 0, .int .u8 0, .int .u8 0, .int .u8 0, .int .u8 0, .int .u8 0, .int .u8 0, .int .u8 0, .int .u8 0, .slice none 0 0, .bool false, .int .u32 0, .int .i64 0, .bool false, .int .u8 17, v].toArray) ∧ KW z w.heap.size w' v ∧ Below w.heap.size w w' := by
  obtain ⟨W0, hW0⟩ : ∃ W0, w.alloc (.cells [.int .u8 0, .int .u32 0, .int .u8 0, .int .u8 0, .int .u8 0, .int .u8 0, .int .u8 0, .int .u8 0, .int .u8 0, .int .u8 0, .int .u8 0, .int .u8 0, .int .u8 0, .int .u8 0, .int .u8 0, .int .u8 0, .int .u8 0, .int .u8 0, .int .u8 0, .int .u8 0, .int .u8 0, .int .u8 0, .int .u8 0, .int .u8 0, .int .u8 0, .int .u8 0, .int .u8 0, .int .u8 0, .int .u8 0, .int .u8 0, .int .u8 0, .int .u8 0, .int .u8 0, .int .u8 0, .int .u8 0, .slice none 0 0, .bool false, .int .u32 0, .int .i64 0, .bool false, .int .u8 0, .slice none 0 0].toArray 36) = W0 := ⟨_, rfl⟩
  have b0 := blk_new w (.cells [.int .u8 0, .int .u32 0, .int .u8 0, .int .u8 0, .int .u8 0, .int .u8 0, .int .u8 0, .int .u8 0, .int .u8 0, .int .u8 0, .int .u8 0, .int .u8 0, .int .u8 0, .int .u8 0, .int .u8 0, .int .u8 0, .int .u8 0, .int .u8 0, .int .u8 0, .int .u8 0, .int .u8 0, .int .u8 0, .int .u8 0, .int .u8 0, .int .u8 0, .int .u8 0, .int .u8 0, .int .u8 0, .int .u8 0, .int .u8 0, .int .u8 0, .int .u8 0, .int .u8 0, .int .u8 0, .int .u8 0, .slice none 0 0, .bool false, .int .u32 0, .int .i64 0, .bool false, .int .u8 0, .slice none 0 0].toArray 36)
  have hB0 := (Below.refl w.heap.size w).alloc (Nat.le_refl _) (.cells [.int .u8 0, .int .u32 0, .int .u8 0, .int .u8 0, .int .u8 0, .int .u8 0, .int .u8 0, .int .u8 0, .int .u8 0, .int .u8 0, .int .u8 0, .int .u8 0, .int .u8 0, .int .u8 0, .int .u8 0, .int .u8 0, .int .u8 0, .int .u8 0, .int .u8 0, .int .u8 0, .int .u8 0, .int .u8 0, .int .u8 0, .int .u8 0, .int .u8 0, .int .u8 0, .int .u8 0, .int .u8 0, .int .u8 0, .int .u8 0, .int .u8 0, .int .u8 0, .int .u8 0, .int .u8 0, .int .u8 0, .slice none 0 0, .bool false, .int .u32 0, .int .i64 0, .bool false, .int .u8 0, .slice none 0 0].toArray 36)
  rw [hW0] at b0 hB0
  have HR : Hid (∀ W, Below W0.heap.size W0 W → RowC W (.slice (some ⟨R, 0, none⟩) 8 8) kB) := fun W hW => hr.on (hB0.trans (hW.mono hB0.size))
  have HC : Hid (∀ W, Below W0.heap.size W0 W → W.cell? ⟨p, 15, none⟩ = some (.slice none 0 0) ∧ W.cell? ⟨p, 6, none⟩ = some (.int .u8 17)) := fun W hW => ⟨blk_cell (blk_on (blk_on hp hB0) hW) rfl, blk_cell (blk_on (blk_on hp hB0) hW) rfl⟩
  have HLV : Hid (∀ W, Below W0.heap.size W0 W → (Instr.loadAt 27 (.pointer (some ⟨p, 0, none⟩))).run Tryz.prog W = .ok (.agg [.int .u8 0, .int .u16 0, .bool false, .bool false, .int .i64 0, .int .u8 7, .int .u8 17, .int .u8 10, .int .u8 0, .int .u8 0, .int .u8 1, .int .u8 10, .int .u8 0, .int .u8 0, .int .u8 2, .slice none 0 0, .slice (some ⟨R, 0, none⟩) 8 8].toArray) W) := fun W hW => agg_load Tryz.isAgg27 Tryz.sizeOf27 rfl (CellsAt.of_blk (blk_on (blk_on hp hB0) hW))
  have HLE : Hid (∀ W, Below W0.heap.size W0 W → (Instr.loadAt 31 (.pointer (some ⟨q, 0, none⟩))).run Tryz.prog W = .ok (.agg [.int .u8 1, .int .u8 0, .int .u8 0, .int .u8 0, .int .u8 0, .int .u8 0, .int .u8 0, .int .u8 0, .int .u8 0, .int .u8 0, .int .u8 0, .int .u8 0, .int .u8 0, .int .u8 0, .int .u8 0, .int .u8 0, .int .u8 2, .int .u8 0, .int .u8 0, .int .u8 0, .int .u8 0, .int .u8 0, .int .u8 0, .int .u8 0, .int .u8 0, .int .u8 0, .int .u8 0, .int .u8 0, .int .u8 0, .int .u8 0, .int .u8 0, .int .u8 0].toArray) W) := fun W hW => agg_load Tryz.isAgg31 Tryz.sizeOf31 rfl (CellsAt.of_blk (blk_on (blk_on hq hB0) hW))
  have HCK : Hid (∀ W, Calls Tryz.prog 35 #[.agg [.int .u8 0, .int .u16 0, .bool false, .bool false, .int .i64 0, .int .u8 7, .int .u8 17, .int .u8 10, .int .u8 0, .int .u8 0, .int .u8 1, .int .u8 10, .int .u8 0, .int .u8 0, .int .u8 2, .slice none 0 0, .slice (some ⟨R, 0, none⟩) 8 8].toArray] W fun e w' => e = .returned (.int .i64 0) ∧ Below W.heap.size W w') := fun W => V4.Check_calls [.int .u8 0, .int .u16 0, .bool false, .bool false, .int .i64 0, .int .u8 7, .int .u8 17, .int .u8 10, .int .u8 0, .int .u8 0, .int .u8 1, .int .u8 10, .int .u8 0, .int .u8 0, .int .u8 2, .slice none 0 0, .slice (some ⟨R, 0, none⟩) 8 8] 0 0 8 W ⟨rfl, rfl, ⟨_, _, rfl⟩, ⟨_, _, rfl⟩, by decide, by decide, by decide⟩
  have HRT : Hid (∀ W, Calls Tryz.prog 37 #[.slice none 0 0] W fun e w' => e = .returned (.bool false) ∧ Below W.heap.size W w') := hrt
  have HZ : Hid _ := hz
  have FZ : Hid _ := fz
  have HBD : Hid _ := hbd
  have HB0 : Hid _ := hB0
  have B0 : Hid _ := b0
  have hy0 : Below W0.heap.size W0 W0 := Below.refl _ _
  have hlt : w.heap.size < W0.heap.size := (Array.getElem?_eq_some_iff.1 b0).1
  have HLT : Hid _ := hlt
  clear hp hq hr b0 hB0 hlt hrt hz fz hbd
  go_enter Tryz.func33, Tryz.ntmps33
  go_wp2_with ((with_reducible show wpList _ _ _ _ _ _); refine arm_load rfl (.tmp 0) 27 rfl rfl (HLV.out _ hy0) ?_)
  refine Calls.mono (HCK.out _) ?_
  rintro _ w1 ⟨rfl, hb1⟩
  have hy1 := hy0.trans (hb1.mono hy0.size)
  clear hb1 HCK
  go_wp2_with fail
  refine Calls.mono ((good_good _).mono (fun e w' k => (⟨k.1, k.2.symm⟩ : _ ∧ _ = w'))) ?_
  rintro _ _ ⟨rfl, rfl⟩
  obtain ⟨k15, k6⟩ := HC.out w1 hy1
  go_wp2_with fail
  refine Calls.mono (HRT.out _) ?_
  rintro _ w2 ⟨rfl, hb2⟩
  have hy2 := hy1.trans (hb2.mono hy1.size)
  clear hb2 HRT k15 k6
  go_wp2_with fail
  refine Calls.mono ((must_good 170 _).mono (fun e w' k => (⟨k.1, k.2.symm⟩ : _ ∧ _ = w'))) ?_
  rintro _ _ ⟨rfl, rfl⟩
  go_wp2_with first
    | ((with_reducible show wpList _ _ _ _ _ _); refine arm_load rfl (.tmp 0) 27 rfl rfl (HLV.out _ hy2) ?_)
    | ((with_reducible show wpList _ _ _ _ _ _); refine arm_load rfl (.tmp 1) 31 rfl rfl (HLE.out _ hy2) ?_)
  refine Calls.mono (header_known w2 R) ?_
  rintro _ w3 ⟨rfl, hb3⟩
  have hy3 := hy2.trans (hb3.mono hy2.size)
  obtain ⟨w4, st4, b4, hb4⟩ := box_new Tryz.sizeOf36 w3 [.int .u8 0, .int .u32 0, .int .u8 0, .int .u8 0, .int .u8 0, .int .u8 0, .int .u8 0, .int .u8 0, .int .u8 0, .int .u8 0, .int .u8 0, .int .u8 0, .int .u8 0, .int .u8 0, .int .u8 0, .int .u8 0, .int .u8 0, .int .u8 0, .int .u8 0, .int .u8 0, .int .u8 0, .int .u8 0, .int .u8 0, .int .u8 0, .int .u8 0, .int .u8 0, .int .u8 0, .int .u8 0, .int .u8 0, .int .u8 0, .int .u8 0, .int .u8 0, .int .u8 0, .int .u8 0, .int .u8 0, .slice none 0 0, .bool false, .int .u32 0, .int .i64 0, .bool false, .int .u8 0, .slice none 0 0] rfl [.int .u8 0, .int .u32 0, .int .u8 7, .int .u8 1, .int .u8 0, .int .u8 0, .int .u8 0, .int .u8 0, .int .u8 0, .int .u8 0, .int .u8 0, .int .u8 0, .int .u8 0, .int .u8 0, .int .u8 0, .int .u8 0, .int .u8 0, .int .u8 0, .int .u8 0, .int .u8 2, .int .u8 0, .int .u8 0, .int .u8 0, .int .u8 0, .int .u8 0, .int .u8 0, .int .u8 0, .int .u8 0, .int .u8 0, .int .u8 0, .int .u8 0, .int .u8 0, .int .u8 0, .int .u8 0, .int .u8 0, .slice none 0 0, .bool false, .int .u32 0, .int .i64 0, .bool false, .int .u8 17, .slice none 0 0] rfl (by simp [Value.oneCell'])
  have hy4 := hy3.trans (hb4.mono hy3.size)
  obtain ⟨k15, k6⟩ := HC.out w4 hy4
  have HS4 : Hid _ := st4
  have B4 : Hid _ := b4
  clear st4 b4 hb4 hb3
  go_wp2_with first
    | ((with_reducible show wpList _ _ _ _ _ _); refine arm_store rfl (.tmp 4) (.tmp 15) 36 rfl rfl rfl HS4.out ?_)
    | ((with_reducible show wpList _ _ _ _ _ _); refine arm_load rfl (.tmp 0) 27 rfl rfl (HLV.out _ hy4) ?_)
    | ((with_reducible show wpList _ _ _ _ _ _); refine arm_load rfl (.tmp 1) 31 rfl rfl (HLE.out _ hy4) ?_)
  refine Calls.mono (HBD.out w4 R (HR.out _ hy4)) ?_
  rintro _ w5 ⟨v, rfl, ho⟩
  have hb5 := ho.bel
  have hy5 := hy4.trans (hb5.mono hy4.size)
  have hk5 := KW.of_ob HZ.out ho
  obtain ⟨bb, kb, rfl, _⟩ := id hk5
  have hle34 : w3.heap.size < w4.heap.size := (Array.getElem?_eq_some_iff.1 B4.out).1
  have b5 := blk_on B4.out hb5
  have c41 : w5.cell? ⟨w3.heap.size, 41, none⟩ = some (.slice none 0 0) := blk_cell b5 rfl
  have f41 : w5.frozen? ⟨w3.heap.size, 41, none⟩ = false := blk_open b5 41
  obtain ⟨w6, hw6⟩ : ∃ w6, w5.setCell ⟨w3.heap.size, 41, none⟩ (.slice (some ⟨bb, 0, none⟩) 8 kb) = w6 := ⟨_, rfl⟩
  have b6 := blk_set b5 41 (.slice (some ⟨bb, 0, none⟩) 8 kb)
  have o6 : Only w3.heap.size w5 (w5.setCell ⟨w3.heap.size, 41, none⟩ (.slice (some ⟨bb, 0, none⟩) 8 kb)) := (Only.refl _ w5).set 41 _
  rw [hw6] at b6 o6
  have b6' : w6.heap[w3.heap.size]? = some (.cells [.int .u8 0, .int .u32 0, .int .u8 7, .int .u8 1, .int .u8 0, .int .u8 0, .int .u8 0, .int .u8 0, .int .u8 0, .int .u8 0, .int .u8 0, .int .u8 0, .int .u8 0, .int .u8 0, .int .u8 0, .int .u8 0, .int .u8 0, .int .u8 0, .int .u8 0, .int .u8 2, .int .u8 0, .int .u8 0, .int .u8 0, .int .u8 0, .int .u8 0, .int .u8 0, .int .u8 0, .int .u8 0, .int .u8 0, .int .u8 0, .int .u8 0, .int .u8 0, .int .u8 0, .int .u8 0, .int .u8 0, .slice none 0 0, .bool false, .int .u32 0, .int .i64 0, .bool false, .int .u8 17, .slice (some ⟨bb, 0, none⟩) 8 kb].toArray 36) := b6
  have hk6 := KW.only hk5 o6 hle34
  have hbk6 := KW.bytes HZ.out FZ.out hk6
  have hy6 : Below W0.heap.size W0 w6 := hy5.trans (o6.below (by have := hy3.size; omega))
  have HL6 : Hid ((Instr.loadAt 36 (.pointer (some ⟨w3.heap.size, 0, none⟩))).run Tryz.prog w6 = .ok (.agg [.int .u8 0, .int .u32 0, .int .u8 7, .int .u8 1, .int .u8 0, .int .u8 0, .int .u8 0, .int .u8 0, .int .u8 0, .int .u8 0, .int .u8 0, .int .u8 0, .int .u8 0, .int .u8 0, .int .u8 0, .int .u8 0, .int .u8 0, .int .u8 0, .int .u8 0, .int .u8 2, .int .u8 0, .int .u8 0, .int .u8 0, .int .u8 0, .int .u8 0, .int .u8 0, .int .u8 0, .int .u8 0, .int .u8 0, .int .u8 0, .int .u8 0, .int .u8 0, .int .u8 0, .int .u8 0, .int .u8 0, .slice none 0 0, .bool false, .int .u32 0, .int .i64 0, .bool false, .int .u8 17, .slice (some ⟨bb, 0, none⟩) 8 kb].toArray) w6) := agg_load Tryz.isAgg36 Tryz.sizeOf36 rfl (CellsAt.of_blk b6')
  have HC6 : Hid (Calls Tryz.prog 41 #[.agg [.int .u8 0, .int .u32 0, .int .u8 7, .int .u8 1, .int .u8 0, .int .u8 0, .int .u8 0, .int .u8 0, .int .u8 0, .int .u8 0, .int .u8 0, .int .u8 0, .int .u8 0, .int .u8 0, .int .u8 0, .int .u8 0, .int .u8 0, .int .u8 0, .int .u8 0, .int .u8 2, .int .u8 0, .int .u8 0, .int .u8 0, .int .u8 0, .int .u8 0, .int .u8 0, .int .u8 0, .int .u8 0, .int .u8 0, .int .u8 0, .int .u8 0, .int .u8 0, .int .u8 0, .int .u8 0, .int .u8 0, .slice none 0 0, .bool false, .int .u32 0, .int .i64 0, .bool false, .int .u8 17, .slice (some ⟨bb, 0, none⟩) 8 kb].toArray] w6 fun e w' => e = .returned (.int .i64 0) ∧ Below w6.heap.size w6 w') := check6_known w6 _ 8 kb z HZ.out hbk6
  have HK6 : Hid _ := hk6
  have HLE4 : Hid (w.heap.size < w4.heap.size) := by
    have h1 := HLT.out
    have h2 := hy4.size
    have : w.heap.size < w4.heap.size := by omega
    exact this
  have B6 : Hid _ := b6'
  clear hk5 b5 b6 b6' o6 hbk6 hk6 ho hb5 hle34
  go_wp2_with ((with_reducible show wpList _ _ _ _ _ _); refine arm_load rfl (.tmp 4) 36 rfl rfl HL6.out ?_)
  refine Calls.mono HC6.out ?_
  rintro _ w7 ⟨rfl, hb7⟩
  have hy7 := hy6.trans (hb7.mono hy6.size)
  go_wp2_with fail
  refine Calls.mono ((must_good 2 _).mono (fun e w' k => (⟨k.1, k.2.symm⟩ : _ ∧ _ = w'))) ?_
  rintro _ _ ⟨rfl, rfl⟩
  have HL7 : Hid ((Instr.loadAt 36 (.pointer (some ⟨w3.heap.size, 0, none⟩))).run Tryz.prog w7 = .ok (.agg [.int .u8 0, .int .u32 0, .int .u8 7, .int .u8 1, .int .u8 0, .int .u8 0, .int .u8 0, .int .u8 0, .int .u8 0, .int .u8 0, .int .u8 0, .int .u8 0, .int .u8 0, .int .u8 0, .int .u8 0, .int .u8 0, .int .u8 0, .int .u8 0, .int .u8 0, .int .u8 2, .int .u8 0, .int .u8 0, .int .u8 0, .int .u8 0, .int .u8 0, .int .u8 0, .int .u8 0, .int .u8 0, .int .u8 0, .int .u8 0, .int .u8 0, .int .u8 0, .int .u8 0, .int .u8 0, .int .u8 0, .slice none 0 0, .bool false, .int .u32 0, .int .i64 0, .bool false, .int .u8 17, .slice (some ⟨bb, 0, none⟩) 8 kb].toArray) w7) := agg_load Tryz.isAgg36 Tryz.sizeOf36 rfl (CellsAt.of_blk (blk_on B6.out hb7))
  obtain ⟨w8, st8, b8, o8⟩ := box_store Tryz.sizeOf36 (blk_on B0.out hy7) rfl [.int .u8 0, .int .u32 0, .int .u8 7, .int .u8 1, .int .u8 0, .int .u8 0, .int .u8 0, .int .u8 0, .int .u8 0, .int .u8 0, .int .u8 0, .int .u8 0, .int .u8 0, .int .u8 0, .int .u8 0, .int .u8 0, .int .u8 0, .int .u8 0, .int .u8 0, .int .u8 2, .int .u8 0, .int .u8 0, .int .u8 0, .int .u8 0, .int .u8 0, .int .u8 0, .int .u8 0, .int .u8 0, .int .u8 0, .int .u8 0, .int .u8 0, .int .u8 0, .int .u8 0, .int .u8 0, .int .u8 0, .slice none 0 0, .bool false, .int .u32 0, .int .i64 0, .bool false, .int .u8 17, .slice (some ⟨bb, 0, none⟩) 8 kb] rfl (by simp [Value.oneCell'])
  have HS8 : Hid _ := st8
  have B8 : Hid _ := b8
  have HO8 : Hid (KW z w.heap.size w8 (.slice (some ⟨bb, 0, none⟩) 8 kb) ∧ Below w.heap.size w w8) := by
    have h1 := ((KW.only (KW.on HK6.out hb7) o8 HLE4.out)).mono (Nat.le_of_lt HLE4.out)
    have h2 := (HB0.out.trans (hy7.mono HB0.out.size)).trans (o8.below (Nat.le_refl _))
    have : KW z w.heap.size w8 (.slice (some ⟨bb, 0, none⟩) 8 kb) ∧ Below w.heap.size w w8 := ⟨h1, h2⟩
    exact this
  clear st8 b8 o8
  go_wp2_with first
    | ((with_reducible show wpList _ _ _ _ _ _); refine arm_load rfl (.tmp 4) 36 rfl rfl HL7.out ?_)
    | ((with_reducible show wpList _ _ _ _ _ _); refine arm_store rfl (.tmp 3) (.tmp 32) 36 rfl rfl rfl HS8.out ?_)
  exact bodyPost_ret (res1t rfl rfl (agg_loadVar Tryz.isAgg36 Tryz.sizeOf36 rfl (CellsAt.of_blk B8.out))) rfl ⟨_, rfl, HO8.out⟩
end Go.Proofs.YtnjkagopmfenkaaGreat

namespace Go.Proofs.YtnjkagopmfenkaaGreat
open Go Go.RowKit Go.Shelf
set_option linter.unusedVariables false
set_option linter.unusedSimpArgs false

theorem routed_nil (W : World) : Calls Tryz.prog 37 #[.slice none 0 0] W fun e w' => e = .returned (.bool false) ∧ Below W.heap.size W w' := V4.Routed_calls (.slice none 0 0) [] W (RowC.nil W) (by decide)

set_option maxHeartbeats 2000000 in
set_option maxRecDepth 100000 in
theorem ans_known (z : List Int) (hz : z.length = 8) (fz : Fit z) (hbd : ∀ (w : World) (R : Nat), RowC w (.slice (some ⟨R, 0, none⟩) 8 8) kB → Calls Tryz.prog 40 #[.agg [.int .u8 0, .int .u16 0, .bool false, .bool false, .int .i64 0, .int .u8 7, .int .u8 17, .int .u8 10, .int .u8 0, .int .u8 0, .int .u8 1, .int .u8 10, .int .u8 0, .int .u8 0, .int .u8 2, .slice none 0 0, .slice (some ⟨R, 0, none⟩) 8 8].toArray, .agg [.int .u8 1, .int .u8 0, .int .u8 0, .int .u8 0, .int .u8 0, .int .u8 0, .int .u8 0, .int .u8 0, .int .u8 0, .int .u8 0, .int .u8 0, .int .u8 0, .int .u8 0, .int .u8 0, .int .u8 0, .int .u8 0, .int .u8 2, .int .u8 0, .int .u8 0, .int .u8 0, .int .u8 0, .int .u8 0, .int .u8 0, .int .u8 0, .int .u8 0, .int .u8 0, .int .u8 0, .int .u8 0, .int .u8 0, .int .u8 0, .int .u8 0, .int .u8 0].toArray] w fun e w' => ∃ v, e = .returned v ∧ OB w.heap.size w w' v z) (p q r R : Nat) (w : World) (hp : w.heap[p]? = some (.cells [.int .u8 0, .int .u16 0, .bool false, .bool false, .int .i64 0, .int .u8 7, .int .u8 17, .int .u8 10, .int .u8 0, .int .u8 0, .int .u8 1, .int .u8 10, .int .u8 0, .int .u8 0, .int .u8 2, .slice none 0 0, .slice (some ⟨R, 0, none⟩) 8 8].toArray 27)) (hq : w.heap[q]? = some (.cells [.int .u8 1, .int .u8 0, .int .u8 0, .int .u8 0, .int .u8 0, .int .u8 0, .int .u8 0, .int .u8 0, .int .u8 0, .int .u8 0, .int .u8 0, .int .u8 0, .int .u8 0, .int .u8 0, .int .u8 0, .int .u8 0, .int .u8 2, .int .u8 0, .int .u8 0, .int .u8 0, .int .u8 0, .int .u8 0, .int .u8 0, .int .u8 0, .int .u8 0, .int .u8 0, .int .u8 0, .int .u8 0, .int .u8 0, .int .u8 0, .int .u8 0, .int .u8 0].toArray 31)) (hr : RowC w (.slice (some ⟨R, 0, none⟩) 8 8) kB) :
    Calls Tryz.prog 32 #[.func (.func 33) #[] #[.pointer (some ⟨p, 0, none⟩), .pointer (some ⟨q, 0, none⟩), .pointer (some ⟨r, 0, none⟩)]] w fun e w' => ∃ v, e = .returned (.tuple #[.agg [.int .u8 0, .int .u32 0, .int .u8 7, .int .u8 1, .int .u8 0, .int .u8 0, .int .u8 0, .int .u8 0, .int .u8 0, .int .u8 0, .int .u8 0, .int .u8 0, .int .u8 0, .int .u8 0, .int .u8 0, .int .u8 0, .int .u8 0, .int .u8 0, .int .u8 0, .int .u8 2, .int .u8 0, .int .u8 0, .int .u8 0, .int .u8 0, .int .u8 0, .int .u8 0, .int .u8 0, .int .u8 0, .int .u8 0, .int .u8 0, .int .u8 0, .int .u8 0, .int .u8 0, .int .u8 0, .int .u8 0, .slice none 0 0, .bool false, .int .u32 0, .int .i64 0, .bool false, .int .u8 17, v].toArray, .int .i64 0]) ∧ KW z w.heap.size w' v ∧ Below w.heap.size w w' := by
  have hmf : ∀ (fn : Fn) (first cap : Array Value) (w : World), (Instr.makeFunc fn first cap).run Tryz.prog w = .ok (.func fn first cap) w := fun _ _ _ _ => rfl
  obtain ⟨W0, hW0⟩ : ∃ W0, W0 = (w.alloc (.cells [.int .u8 0, .int .u32 0, .int .u8 0, .int .u8 0, .int .u8 0, .int .u8 0, .int .u8 0, .int .u8 0, .int .u8 0, .int .u8 0, .int .u8 0, .int .u8 0, .int .u8 0, .int .u8 0, .int .u8 0, .int .u8 0, .int .u8 0, .int .u8 0, .int .u8 0, .int .u8 0, .int .u8 0, .int .u8 0, .int .u8 0, .int .u8 0, .int .u8 0, .int .u8 0, .int .u8 0, .int .u8 0, .int .u8 0, .int .u8 0, .int .u8 0, .int .u8 0, .int .u8 0, .int .u8 0, .int .u8 0, .slice none 0 0, .bool false, .int .u32 0, .int .i64 0, .bool false, .int .u8 0, .slice none 0 0].toArray 36)).alloc (eBox 0) := ⟨_, rfl⟩
  have hbA : W0.heap[w.heap.size]? = some (.cells [.int .u8 0, .int .u32 0, .int .u8 0, .int .u8 0, .int .u8 0, .int .u8 0, .int .u8 0, .int .u8 0, .int .u8 0, .int .u8 0, .int .u8 0, .int .u8 0, .int .u8 0, .int .u8 0, .int .u8 0, .int .u8 0, .int .u8 0, .int .u8 0, .int .u8 0, .int .u8 0, .int .u8 0, .int .u8 0, .int .u8 0, .int .u8 0, .int .u8 0, .int .u8 0, .int .u8 0, .int .u8 0, .int .u8 0, .int .u8 0, .int .u8 0, .int .u8 0, .int .u8 0, .int .u8 0, .int .u8 0, .slice none 0 0, .bool false, .int .u32 0, .int .i64 0, .bool false, .int .u8 0, .slice none 0 0].toArray 36) := by rw [hW0]; exact blk_alloc (blk_new w _) _
  have hbB : W0.heap[w.heap.size + 1]? = some (eBox 0) := by
    have := blk_new (w.alloc (.cells [.int .u8 0, .int .u32 0, .int .u8 0, .int .u8 0, .int .u8 0, .int .u8 0, .int .u8 0, .int .u8 0, .int .u8 0, .int .u8 0, .int .u8 0, .int .u8 0, .int .u8 0, .int .u8 0, .int .u8 0, .int .u8 0, .int .u8 0, .int .u8 0, .int .u8 0, .int .u8 0, .int .u8 0, .int .u8 0, .int .u8 0, .int .u8 0, .int .u8 0, .int .u8 0, .int .u8 0, .int .u8 0, .int .u8 0, .int .u8 0, .int .u8 0, .int .u8 0, .int .u8 0, .int .u8 0, .int .u8 0, .slice none 0 0, .bool false, .int .u32 0, .int .i64 0, .bool false, .int .u8 0, .slice none 0 0].toArray 36)) (eBox 0)
    rw [show (w.alloc (.cells [.int .u8 0, .int .u32 0, .int .u8 0, .int .u8 0, .int .u8 0, .int .u8 0, .int .u8 0, .int .u8 0, .int .u8 0, .int .u8 0, .int .u8 0, .int .u8 0, .int .u8 0, .int .u8 0, .int .u8 0, .int .u8 0, .int .u8 0, .int .u8 0, .int .u8 0, .int .u8 0, .int .u8 0, .int .u8 0, .int .u8 0, .int .u8 0, .int .u8 0, .int .u8 0, .int .u8 0, .int .u8 0, .int .u8 0, .int .u8 0, .int .u8 0, .int .u8 0, .int .u8 0, .int .u8 0, .int .u8 0, .slice none 0 0, .bool false, .int .u32 0, .int .i64 0, .bool false, .int .u8 0, .slice none 0 0].toArray 36)).heap.size = w.heap.size + 1 by simp] at this
    rw [hW0]; exact this
  have hB0 : Below w.heap.size w W0 := by rw [hW0]; exact ((Below.refl w.heap.size w).alloc (Nat.le_refl _) _).alloc (by simp) _
  have hs0 : W0.heap.size = w.heap.size + 2 := by rw [hW0]; simp
  have HC : Hid _ := way_known z hz fz hbd routed_nil W0 R p q r (blk_on hp hB0) (blk_on hq hB0) (hr.on hB0)
  have HA0 : Hid (W0.heap[w.heap.size]? = some (.cells [.int .u8 0, .int .u32 0, .int .u8 0, .int .u8 0, .int .u8 0, .int .u8 0, .int .u8 0, .int .u8 0, .int .u8 0, .int .u8 0, .int .u8 0, .int .u8 0, .int .u8 0, .int .u8 0, .int .u8 0, .int .u8 0, .int .u8 0, .int .u8 0, .int .u8 0, .int .u8 0, .int .u8 0, .int .u8 0, .int .u8 0, .int .u8 0, .int .u8 0, .int .u8 0, .int .u8 0, .int .u8 0, .int .u8 0, .int .u8 0, .int .u8 0, .int .u8 0, .int .u8 0, .int .u8 0, .int .u8 0, .slice none 0 0, .bool false, .int .u32 0, .int .i64 0, .bool false, .int .u8 0, .slice none 0 0].toArray 36)) := hbA
  have HB0 : Hid (W0.heap[w.heap.size + 1]? = some (eBox 0)) := hbB
  have HBB : Hid (Below w.heap.size w W0) := hB0
  have HS0 : Hid (W0.heap.size = w.heap.size + 2) := hs0
  have hW := hW0.symm
  unfold eBox at hW
  clear hbA hbB hB0 hW0 hs0 hp hq hr hz fz hbd
  go_enter_defers Tryz.func32, Tryz.ntmps32
  go_wp2_with fail
  refine Calls.mono HC.out ?_
  rintro e1 w1 ⟨v, rfl, hk, hb1⟩
  obtain ⟨vb, vk, rfl, _⟩ := id hk
  obtain ⟨w2, hst, hbx, ho⟩ := box_store Tryz.sizeOf36 (blk_on HA0.out hb1) (by rfl) [.int .u8 0, .int .u32 0, .int .u8 7, .int .u8 1, .int .u8 0, .int .u8 0, .int .u8 0, .int .u8 0, .int .u8 0, .int .u8 0, .int .u8 0, .int .u8 0, .int .u8 0, .int .u8 0, .int .u8 0, .int .u8 0, .int .u8 0, .int .u8 0, .int .u8 0, .int .u8 2, .int .u8 0, .int .u8 0, .int .u8 0, .int .u8 0, .int .u8 0, .int .u8 0, .int .u8 0, .int .u8 0, .int .u8 0, .int .u8 0, .int .u8 0, .int .u8 0, .int .u8 0, .int .u8 0, .int .u8 0, .slice none 0 0, .bool false, .int .u32 0, .int .i64 0, .bool false, .int .u8 17, .slice (some ⟨vb, 0, none⟩) 8 vk] rfl (by simp [Value.oneCell'])
  have hB2 : w2.heap[w.heap.size + 1]? = some (eBox 0) := (ho.other _ (by omega)).trans (blk_on HB0.out hb1)
  obtain ⟨w3, hst3, hA3, hB3, ho3⟩ : ∃ w3, (Instr.storeAt 37 (.pointer (some ⟨w.heap.size + 1, 0, none⟩)) (.int .i64 0)).run Tryz.prog w2 = .ok () w3 ∧ w3.heap[w.heap.size]? = some (.cells [.int .u8 0, .int .u32 0, .int .u8 7, .int .u8 1, .int .u8 0, .int .u8 0, .int .u8 0, .int .u8 0, .int .u8 0, .int .u8 0, .int .u8 0, .int .u8 0, .int .u8 0, .int .u8 0, .int .u8 0, .int .u8 0, .int .u8 0, .int .u8 0, .int .u8 0, .int .u8 2, .int .u8 0, .int .u8 0, .int .u8 0, .int .u8 0, .int .u8 0, .int .u8 0, .int .u8 0, .int .u8 0, .int .u8 0, .int .u8 0, .int .u8 0, .int .u8 0, .int .u8 0, .int .u8 0, .int .u8 0, .slice none 0 0, .bool false, .int .u32 0, .int .i64 0, .bool false, .int .u8 17, .slice (some ⟨vb, 0, none⟩) 8 vk].toArray 36) ∧ w3.heap[w.heap.size + 1]? = some (eBox 0) ∧ Only (w.heap.size + 1) w2 w3 := ⟨_, st_err (y := 0) hB2, blk_set_other hbx (by omega) _ _, blk_set hB2 0 (.int .i64 0), (Only.refl _ w2).set 0 _⟩
  have hs0 := HS0.out
  have HK : Hid (KW z w.heap.size w3 (.slice (some ⟨vb, 0, none⟩) 8 vk)) := KW.mono (KW.only (KW.only hk ho (by omega)) ho3 (by omega)) (by omega)
  have HBE : Hid (Below w.heap.size w w3) := ((HBB.out.trans (Below.mono hb1 HBB.out.size)).trans (ho.below (Nat.le_refl _))).trans (ho3.below (by omega))
  have HST : Hid _ := hst
  have HST3 : Hid _ := hst3
  have HA3 : Hid _ := hA3
  have HB3 : Hid _ := hB3
  clear hst hbx ho hB2 hst3 hA3 hB3 ho3 hk hb1 HC HA0 HB0 HBB hs0 HS0
  go_wp2_with first
    | ((with_reducible show wpList _ _ _ ({ dst := _, op := Op.store 36 (Operand.tmp 2) (Operand.tmp 6), type := _, pos := _, after := _, guard := _ } :: _) _ _); refine armS (.tmp 2) (Operand.tmp 6) 36 rfl rfl rfl rfl HST.out ?_; try simp only [Act.put])
    | ((with_reducible show wpList _ _ _ ({ dst := _, op := Op.store 37 (Operand.tmp 3) _, type := _, pos := _, after := _, guard := _ } :: _) _ _); refine armS (.tmp 3) (.const (.int .i64 0)) 37 rfl rfl rfl rfl HST3.out ?_; try simp only [Act.put])
  refine leaves_cons (f := 68) (args := #[.pointer (some ⟨w.heap.size + 1, 0, none⟩)]) (by simp) (by simp [go_sem]) ?_
  refine (catch_idleV _ _).mono ?_
  rintro e9 u9 w9 ⟨rfl, rfl, rfl⟩
  exact ⟨_, resCC rfl rfl rfl (agg_loadVar Tryz.isAgg36 Tryz.sizeOf36 rfl (CellsAt.of_blk HA3.out)) (loadErr HB3.out), .slice (some ⟨vb, 0, none⟩) 8 vk, rfl, HK.out, HBE.out⟩

set_option maxHeartbeats 2000000 in
set_option maxRecDepth 100000 in
theorem Packet_known (z : List Int) (hz : z.length = 8) (fz : Fit z) (hbd : ∀ (w : World) (R : Nat), RowC w (.slice (some ⟨R, 0, none⟩) 8 8) kB → Calls Tryz.prog 40 #[.agg [.int .u8 0, .int .u16 0, .bool false, .bool false, .int .i64 0, .int .u8 7, .int .u8 17, .int .u8 10, .int .u8 0, .int .u8 0, .int .u8 1, .int .u8 10, .int .u8 0, .int .u8 0, .int .u8 2, .slice none 0 0, .slice (some ⟨R, 0, none⟩) 8 8].toArray, .agg [.int .u8 1, .int .u8 0, .int .u8 0, .int .u8 0, .int .u8 0, .int .u8 0, .int .u8 0, .int .u8 0, .int .u8 0, .int .u8 0, .int .u8 0, .int .u8 0, .int .u8 0, .int .u8 0, .int .u8 0, .int .u8 0, .int .u8 2, .int .u8 0, .int .u8 0, .int .u8 0, .int .u8 0, .int .u8 0, .int .u8 0, .int .u8 0, .int .u8 0, .int .u8 0, .int .u8 0, .int .u8 0, .int .u8 0, .int .u8 0, .int .u8 0, .int .u8 0].toArray] w fun e w' => ∃ v, e = .returned v ∧ OB w.heap.size w w' v z) (w : World) (R : Nat) (hr : RowC w (.slice (some ⟨R, 0, none⟩) 8 8) kB) :
    Calls Tryz.prog 10 #[.agg [.int .u8 0, .int .u16 0, .bool false, .bool false, .int .i64 0, .int .u8 7, .int .u8 17, .int .u8 10, .int .u8 0, .int .u8 0, .int .u8 1, .int .u8 10, .int .u8 0, .int .u8 0, .int .u8 2, .slice none 0 0, .slice (some ⟨R, 0, none⟩) 8 8].toArray, .agg [.int .u8 1, .int .u8 0, .int .u8 0, .int .u8 0, .int .u8 0, .int .u8 0, .int .u8 0, .int .u8 0, .int .u8 0, .int .u8 0, .int .u8 0, .int .u8 0, .int .u8 0, .int .u8 0, .int .u8 0, .int .u8 0, .int .u8 2, .int .u8 0, .int .u8 0, .int .u8 0, .int .u8 0, .int .u8 0, .int .u8 0, .int .u8 0, .int .u8 0, .int .u8 0, .int .u8 0, .int .u8 0, .int .u8 0, .int .u8 0, .int .u8 0, .int .u8 0].toArray, .agg [.int .u8 0, .int .u8 0, .int .u8 0, .int .u8 0, .int .u8 0, .int .u8 0, .int .u8 0, .int .u8 0, .int .u8 0, .int .u8 0, .int .u8 0, .int .u8 0, .int .u8 0, .int .u8 0, .int .u8 0, .int .u8 0, .int .u8 0, .int .u8 0, .int .u8 0, .int .u8 0, .int .u8 0, .int .u8 0, .int .u8 0, .int .u8 0, .int .u8 0, .int .u8 0, .int .u8 0, .int .u8 0, .int .u8 0, .int .u8 0, .int .u8 0, .int .u8 0].toArray] w fun e w' => ∃ v, e = .returned (.tuple #[.agg [.int .u8 0, .int .u32 0, .int .u8 7, .int .u8 1, .int .u8 0, .int .u8 0, .int .u8 0, .int .u8 0, .int .u8 0, .int .u8 0, .int .u8 0, .int .u8 0, .int .u8 0, .int .u8 0, .int .u8 0, .int .u8 0, .int .u8 0, .int .u8 0, .int .u8 0, .int .u8 2, .int .u8 0, .int .u8 0, .int .u8 0, .int .u8 0, .int .u8 0, .int .u8 0, .int .u8 0, .int .u8 0, .int .u8 0, .int .u8 0, .int .u8 0, .int .u8 0, .int .u8 0, .int .u8 0, .int .u8 0, .slice none 0 0, .bool false, .int .u32 0, .int .i64 0, .bool false, .int .u8 17, v].toArray, .int .i64 0]) ∧ KW z w.heap.size w' v ∧ Below w.heap.size w w' := by
  have hmf : ∀ (fn : Fn) (first cap : Array Value) (w : World), (Instr.makeFunc fn first cap).run Tryz.prog w = .ok (.func fn first cap) w := fun _ _ _ _ => rfl
  obtain ⟨W0, hW0⟩ : ∃ W0, w.alloc (.cells [.int .u8 0, .int .u16 0, .bool false, .bool false, .int .i64 0, .int .u8 7, .int .u8 17, .int .u8 10, .int .u8 0, .int .u8 0, .int .u8 1, .int .u8 10, .int .u8 0, .int .u8 0, .int .u8 2, .slice none 0 0, .slice (some ⟨R, 0, none⟩) 8 8].toArray 27) = W0 := ⟨_, rfl⟩
  obtain ⟨W1, hW1⟩ : ∃ W1, W0.alloc (.cells [.int .u8 1, .int .u8 0, .int .u8 0, .int .u8 0, .int .u8 0, .int .u8 0, .int .u8 0, .int .u8 0, .int .u8 0, .int .u8 0, .int .u8 0, .int .u8 0, .int .u8 0, .int .u8 0, .int .u8 0, .int .u8 0, .int .u8 2, .int .u8 0, .int .u8 0, .int .u8 0, .int .u8 0, .int .u8 0, .int .u8 0, .int .u8 0, .int .u8 0, .int .u8 0, .int .u8 0, .int .u8 0, .int .u8 0, .int .u8 0, .int .u8 0, .int .u8 0].toArray 31) = W1 := ⟨_, rfl⟩
  obtain ⟨W2, hW2⟩ : ∃ W2, W1.alloc (.cells [.int .u8 0, .int .u8 0, .int .u8 0, .int .u8 0, .int .u8 0, .int .u8 0, .int .u8 0, .int .u8 0, .int .u8 0, .int .u8 0, .int .u8 0, .int .u8 0, .int .u8 0, .int .u8 0, .int .u8 0, .int .u8 0, .int .u8 0, .int .u8 0, .int .u8 0, .int .u8 0, .int .u8 0, .int .u8 0, .int .u8 0, .int .u8 0, .int .u8 0, .int .u8 0, .int .u8 0, .int .u8 0, .int .u8 0, .int .u8 0, .int .u8 0, .int .u8 0].toArray 31) = W2 := ⟨_, rfl⟩
  obtain ⟨W3, hW3⟩ : ∃ W3, W2.alloc (.cells [.int .u8 0, .int .u32 0, .int .u8 0, .int .u8 0, .int .u8 0, .int .u8 0, .int .u8 0, .int .u8 0, .int .u8 0, .int .u8 0, .int .u8 0, .int .u8 0, .int .u8 0, .int .u8 0, .int .u8 0, .int .u8 0, .int .u8 0, .int .u8 0, .int .u8 0, .int .u8 0, .int .u8 0, .int .u8 0, .int .u8 0, .int .u8 0, .int .u8 0, .int .u8 0, .int .u8 0, .int .u8 0, .int .u8 0, .int .u8 0, .int .u8 0, .int .u8 0, .int .u8 0, .int .u8 0, .int .u8 0, .slice none 0 0, .bool false, .int .u32 0, .int .i64 0, .bool false, .int .u8 0, .slice none 0 0].toArray 36) = W3 := ⟨_, rfl⟩
  have b0 := blk_new w (.cells [.int .u8 0, .int .u16 0, .bool false, .bool false, .int .i64 0, .int .u8 7, .int .u8 17, .int .u8 10, .int .u8 0, .int .u8 0, .int .u8 1, .int .u8 10, .int .u8 0, .int .u8 0, .int .u8 2, .slice none 0 0, .slice (some ⟨R, 0, none⟩) 8 8].toArray 27)
  have hB0 := (Below.refl w.heap.size w).alloc (Nat.le_refl _) (.cells [.int .u8 0, .int .u16 0, .bool false, .bool false, .int .i64 0, .int .u8 7, .int .u8 17, .int .u8 10, .int .u8 0, .int .u8 0, .int .u8 1, .int .u8 10, .int .u8 0, .int .u8 0, .int .u8 2, .slice none 0 0, .slice (some ⟨R, 0, none⟩) 8 8].toArray 27)
  rw [hW0] at b0 hB0
  have b1 := blk_new W0 (.cells [.int .u8 1, .int .u8 0, .int .u8 0, .int .u8 0, .int .u8 0, .int .u8 0, .int .u8 0, .int .u8 0, .int .u8 0, .int .u8 0, .int .u8 0, .int .u8 0, .int .u8 0, .int .u8 0, .int .u8 0, .int .u8 0, .int .u8 2, .int .u8 0, .int .u8 0, .int .u8 0, .int .u8 0, .int .u8 0, .int .u8 0, .int .u8 0, .int .u8 0, .int .u8 0, .int .u8 0, .int .u8 0, .int .u8 0, .int .u8 0, .int .u8 0, .int .u8 0].toArray 31)
  have hB1 := (Below.refl W0.heap.size W0).alloc (Nat.le_refl _) (.cells [.int .u8 1, .int .u8 0, .int .u8 0, .int .u8 0, .int .u8 0, .int .u8 0, .int .u8 0, .int .u8 0, .int .u8 0, .int .u8 0, .int .u8 0, .int .u8 0, .int .u8 0, .int .u8 0, .int .u8 0, .int .u8 0, .int .u8 2, .int .u8 0, .int .u8 0, .int .u8 0, .int .u8 0, .int .u8 0, .int .u8 0, .int .u8 0, .int .u8 0, .int .u8 0, .int .u8 0, .int .u8 0, .int .u8 0, .int .u8 0, .int .u8 0, .int .u8 0].toArray 31)
  rw [hW1] at b1 hB1
  have hB2 := (Below.refl W1.heap.size W1).alloc (Nat.le_refl _) (.cells [.int .u8 0, .int .u8 0, .int .u8 0, .int .u8 0, .int .u8 0, .int .u8 0, .int .u8 0, .int .u8 0, .int .u8 0, .int .u8 0, .int .u8 0, .int .u8 0, .int .u8 0, .int .u8 0, .int .u8 0, .int .u8 0, .int .u8 0, .int .u8 0, .int .u8 0, .int .u8 0, .int .u8 0, .int .u8 0, .int .u8 0, .int .u8 0, .int .u8 0, .int .u8 0, .int .u8 0, .int .u8 0, .int .u8 0, .int .u8 0, .int .u8 0, .int .u8 0].toArray 31)
  rw [hW2] at hB2
  have b3 := blk_new W2 (.cells [.int .u8 0, .int .u32 0, .int .u8 0, .int .u8 0, .int .u8 0, .int .u8 0, .int .u8 0, .int .u8 0, .int .u8 0, .int .u8 0, .int .u8 0, .int .u8 0, .int .u8 0, .int .u8 0, .int .u8 0, .int .u8 0, .int .u8 0, .int .u8 0, .int .u8 0, .int .u8 0, .int .u8 0, .int .u8 0, .int .u8 0, .int .u8 0, .int .u8 0, .int .u8 0, .int .u8 0, .int .u8 0, .int .u8 0, .int .u8 0, .int .u8 0, .int .u8 0, .int .u8 0, .int .u8 0, .int .u8 0, .slice none 0 0, .bool false, .int .u32 0, .int .i64 0, .bool false, .int .u8 0, .slice none 0 0].toArray 36)
  have hB3 := (Below.refl W2.heap.size W2).alloc (Nat.le_refl _) (.cells [.int .u8 0, .int .u32 0, .int .u8 0, .int .u8 0, .int .u8 0, .int .u8 0, .int .u8 0, .int .u8 0, .int .u8 0, .int .u8 0, .int .u8 0, .int .u8 0, .int .u8 0, .int .u8 0, .int .u8 0, .int .u8 0, .int .u8 0, .int .u8 0, .int .u8 0, .int .u8 0, .int .u8 0, .int .u8 0, .int .u8 0, .int .u8 0, .int .u8 0, .int .u8 0, .int .u8 0, .int .u8 0, .int .u8 0, .int .u8 0, .int .u8 0, .int .u8 0, .int .u8 0, .int .u8 0, .int .u8 0, .slice none 0 0, .bool false, .int .u32 0, .int .i64 0, .bool false, .int .u8 0, .slice none 0 0].toArray 36)
  rw [hW3] at b3 hB3
  have hX2 := (hB0.trans (hB1.mono hB0.size)).trans (hB2.mono (hB0.trans (hB1.mono hB0.size)).size)
  have hX3 := hX2.trans (hB3.mono hX2.size)
  have h1 := hB0.size
  have h2 := hB1.size
  have h3 := hB2.size
  have h4 : W2.heap.size < W3.heap.size := (Array.getElem?_eq_some_iff.1 b3).1
  have l0 : w.heap.size < W0.heap.size := (Array.getElem?_eq_some_iff.1 b0).1
  have HA : Hid _ := ans_known z hz fz hbd w.heap.size W0.heap.size W1.heap.size R W3 (blk_on (blk_on (blk_on b0 hB1) hB2) hB3) (blk_on (blk_on b1 hB2) hB3) (hr.on hX3)
  have HLE : Hid (w.heap.size ≤ W2.heap.size) := hX2.size
  have HX3 : Hid _ := hX3
  have B3 : Hid _ := b3
  have HL4 : Hid (W2.heap.size < W3.heap.size) := h4
  clear hz fz hbd hr b0 hB0 b1 hB1 hB2 b3 hB3 hX2 hX3 h1 h2 h3 h4 l0
  go_enter Tryz.func10, Tryz.ntmps10
  go_wp2_with fail
  refine Calls.mono HA.out ?_
  rintro _ w4 ⟨v, rfl, hk, hb4⟩
  obtain ⟨vb, vk, rfl, _⟩ := id hk
  obtain ⟨w5, hst, hbx, ho⟩ := box_store Tryz.sizeOf36 (blk_on B3.out hb4) rfl [.int .u8 0, .int .u32 0, .int .u8 7, .int .u8 1, .int .u8 0, .int .u8 0, .int .u8 0, .int .u8 0, .int .u8 0, .int .u8 0, .int .u8 0, .int .u8 0, .int .u8 0, .int .u8 0, .int .u8 0, .int .u8 0, .int .u8 0, .int .u8 0, .int .u8 0, .int .u8 2, .int .u8 0, .int .u8 0, .int .u8 0, .int .u8 0, .int .u8 0, .int .u8 0, .int .u8 0, .int .u8 0, .int .u8 0, .int .u8 0, .int .u8 0, .int .u8 0, .int .u8 0, .int .u8 0, .int .u8 0, .slice none 0 0, .bool false, .int .u32 0, .int .i64 0, .bool false, .int .u8 17, .slice (some ⟨vb, 0, none⟩) 8 vk] rfl (by simp [Value.oneCell'])
  have hle := HLE.out
  have h4 := HL4.out
  have HK : Hid (KW z w.heap.size w5 (.slice (some ⟨vb, 0, none⟩) 8 vk)) := KW.mono (KW.only hk ho h4) (by omega)
  have HBE : Hid (Below w.heap.size w w5) := (HX3.out.trans (hb4.mono HX3.out.size)).trans (ho.below hle)
  have HST : Hid _ := hst
  have HB5 : Hid _ := hbx
  clear hst hbx ho hk hb4 hle h4 HA
  go_wp2_with ((with_reducible show wpList _ _ _ _ _ _); refine arm_store rfl (.tmp 6) (.tmp 10) 36 rfl rfl rfl HST.out ?_)
  exact bodyPost_ret (res2 rfl rfl (agg_loadVar Tryz.isAgg36 Tryz.sizeOf36 rfl (CellsAt.of_blk HB5.out))) rfl ⟨.slice (some ⟨vb, 0, none⟩) 8 vk, rfl, HK.out, HBE.out⟩
end Go.Proofs.YtnjkagopmfenkaaGreat

namespace Go.Proofs.YtnjkagopmfenkaaGreat
open Go Go.RowKit Go.Shelf
set_option linter.unusedVariables false
set_option linter.unusedSimpArgs false

theorem kZ6 : gz kZ 6 = 252 := by decide +kernel
theorem kZ7 : gz kZ 7 = 219 := by decide +kernel
theorem kZ_any : ∃ z : List Int, gz z 6 = 252 ∧ gz z 7 = 219 ∧ ∀ (w : World) (R : Nat), RowC w (.slice (some ⟨R, 0, none⟩) 8 8) kB → Calls Tryz.prog 10 #[.agg [.int .u8 0, .int .u16 0, .bool false, .bool false, .int .i64 0, .int .u8 7, .int .u8 17, .int .u8 10, .int .u8 0, .int .u8 0, .int .u8 1, .int .u8 10, .int .u8 0, .int .u8 0, .int .u8 2, .slice none 0 0, .slice (some ⟨R, 0, none⟩) 8 8].toArray, .agg [.int .u8 1, .int .u8 0, .int .u8 0, .int .u8 0, .int .u8 0, .int .u8 0, .int .u8 0, .int .u8 0, .int .u8 0, .int .u8 0, .int .u8 0, .int .u8 0, .int .u8 0, .int .u8 0, .int .u8 0, .int .u8 0, .int .u8 2, .int .u8 0, .int .u8 0, .int .u8 0, .int .u8 0, .int .u8 0, .int .u8 0, .int .u8 0, .int .u8 0, .int .u8 0, .int .u8 0, .int .u8 0, .int .u8 0, .int .u8 0, .int .u8 0, .int .u8 0].toArray, .agg [.int .u8 0, .int .u8 0, .int .u8 0, .int .u8 0, .int .u8 0, .int .u8 0, .int .u8 0, .int .u8 0, .int .u8 0, .int .u8 0, .int .u8 0, .int .u8 0, .int .u8 0, .int .u8 0, .int .u8 0, .int .u8 0, .int .u8 0, .int .u8 0, .int .u8 0, .int .u8 0, .int .u8 0, .int .u8 0, .int .u8 0, .int .u8 0, .int .u8 0, .int .u8 0, .int .u8 0, .int .u8 0, .int .u8 0, .int .u8 0, .int .u8 0, .int .u8 0].toArray] w fun e w' => ∃ v, e = .returned (.tuple #[.agg [.int .u8 0, .int .u32 0, .int .u8 7, .int .u8 1, .int .u8 0, .int .u8 0, .int .u8 0, .int .u8 0, .int .u8 0, .int .u8 0, .int .u8 0, .int .u8 0, .int .u8 0, .int .u8 0, .int .u8 0, .int .u8 0, .int .u8 0, .int .u8 0, .int .u8 0, .int .u8 2, .int .u8 0, .int .u8 0, .int .u8 0, .int .u8 0, .int .u8 0, .int .u8 0, .int .u8 0, .int .u8 0, .int .u8 0, .int .u8 0, .int .u8 0, .int .u8 0, .int .u8 0, .int .u8 0, .int .u8 0, .slice none 0 0, .bool false, .int .u32 0, .int .i64 0, .bool false, .int .u8 17, v].toArray, .int .i64 0]) ∧ KW z w.heap.size w' v ∧ Below w.heap.size w w' := ⟨kZ, kZ6, kZ7, fun w R hr => Packet_known kZ kZ_len kZ_fit body_known w R hr⟩

set_option maxHeartbeats 4000000 in
set_option maxRecDepth 100000 in
theorem alive_calls (w : World) : Calls Tryz.prog 13 #[] w fun e w' => e = .returned (.bool true) ∧ Below w.heap.size w w' := by
  obtain ⟨z, z6, z7, hpk⟩ := kZ_any
  obtain ⟨W0, hW0⟩ : ∃ W0, w.alloc (.cells [.int .u8 0, .int .u8 1, .int .u8 0, .int .u8 2, .int .u8 0, .int .u8 8, .int .u8 0, .int .u8 0].toArray 5) = W0 := ⟨_, rfl⟩
  have b0 := blk_new w (.cells [.int .u8 0, .int .u8 1, .int .u8 0, .int .u8 2, .int .u8 0, .int .u8 8, .int .u8 0, .int .u8 0].toArray 5)
  have hB0 := (Below.refl w.heap.size w).alloc (Nat.le_refl _) (.cells [.int .u8 0, .int .u8 1, .int .u8 0, .int .u8 2, .int .u8 0, .int .u8 8, .int .u8 0, .int .u8 0].toArray 5)
  rw [hW0] at b0 hB0
  have l0 : w.heap.size < W0.heap.size := (Array.getElem?_eq_some_iff.1 b0).1
  obtain ⟨w1, st1, b1, hb1⟩ := box_new Tryz.sizeOf27 W0 [.int .u8 0, .int .u16 0, .bool false, .bool false, .int .i64 0, .int .u8 0, .int .u8 0, .int .u8 0, .int .u8 0, .int .u8 0, .int .u8 0, .int .u8 0, .int .u8 0, .int .u8 0, .int .u8 0, .slice none 0 0, .slice none 0 0] rfl [.int .u8 0, .int .u16 0, .bool false, .bool false, .int .i64 0, .int .u8 7, .int .u8 17, .int .u8 10, .int .u8 0, .int .u8 0, .int .u8 1, .int .u8 10, .int .u8 0, .int .u8 0, .int .u8 2, .slice none 0 0, .slice (some ⟨w.heap.size, 0, none⟩) 8 8] rfl (by simp [Value.oneCell'])
  have hr : RowC w1 (.slice (some ⟨w.heap.size, 0, none⟩) 8 8) kB := by
    refine RowC.on ?_ hb1
    refine ⟨by intro z hz; simp [kB] at hz; omega, by decide, some ⟨w.heap.size, 0, none⟩, 8, rfl, Nat.le_refl _, .inr ⟨w.heap.size, 0, rfl, l0, fun j hj => ?_⟩⟩
    have hj' : j < 8 := hj
    rw [Nat.zero_add]
    match j, hj' with
    | 0, _ => exact blk_cell b0 rfl
    | 1, _ => exact blk_cell b0 rfl
    | 2, _ => exact blk_cell b0 rfl
    | 3, _ => exact blk_cell b0 rfl
    | 4, _ => exact blk_cell b0 rfl
    | 5, _ => exact blk_cell b0 rfl
    | 6, _ => exact blk_cell b0 rfl
    | 7, _ => exact blk_cell b0 rfl
    | n + 8, h => exact absurd h (by omega)
  have HP : Hid _ := hpk w1 w.heap.size hr
  have hL : Hid ((Instr.loadAt 27 (.pointer (some ⟨W0.heap.size, 0, none⟩))).run Tryz.prog w1 = .ok (.agg [.int .u8 0, .int .u16 0, .bool false, .bool false, .int .i64 0, .int .u8 7, .int .u8 17, .int .u8 10, .int .u8 0, .int .u8 0, .int .u8 1, .int .u8 10, .int .u8 0, .int .u8 0, .int .u8 2, .slice none 0 0, .slice (some ⟨w.heap.size, 0, none⟩) 8 8].toArray) w1) := agg_load Tryz.isAgg27 Tryz.sizeOf27 rfl (CellsAt.of_blk b1)
  have HS1 : Hid _ := st1
  have HX1 : Hid (Below w.heap.size w w1) := hB0.trans (hb1.mono hB0.size)
  clear b0 hB0 l0 st1 b1 hb1 hr
  have hmt : ∀ W, Calls Tryz.prog 23 #[.int .u16 1400] W fun e w' => e = .returned (.int .u32 1420) ∧ w' = W := fun W => MTU_calls 1400 (by decide) W
  have HMT : Hid _ := hmt
  clear hmt
  go_enter Tryz.func13, Tryz.ntmps13
  go_wp2_with first
    | ((with_reducible show wpList _ _ _ _ _ _); refine arm_store rfl (.tmp 1) (.tmp 7) 27 rfl rfl rfl HS1.out ?_)
    | ((with_reducible show wpList _ _ _ _ _ _); refine arm_load rfl (.tmp 1) 27 rfl rfl hL.out ?_)
  refine Calls.mono HP.out ?_
  rintro _ w2 ⟨v, rfl, hk, hb2⟩
  obtain ⟨vb, vk, rfl, hvb, hvl, hvc⟩ := id hk
  obtain ⟨w3, st3, b3, hb3⟩ := box_new Tryz.sizeOf36 w2 [.int .u8 0, .int .u32 0, .int .u8 0, .int .u8 0, .int .u8 0, .int .u8 0, .int .u8 0, .int .u8 0, .int .u8 0, .int .u8 0, .int .u8 0, .int .u8 0, .int .u8 0, .int .u8 0, .int .u8 0, .int .u8 0, .int .u8 0, .int .u8 0, .int .u8 0, .int .u8 0, .int .u8 0, .int .u8 0, .int .u8 0, .int .u8 0, .int .u8 0, .int .u8 0, .int .u8 0, .int .u8 0, .int .u8 0, .int .u8 0, .int .u8 0, .int .u8 0, .int .u8 0, .int .u8 0, .int .u8 0, .slice none 0 0, .bool false, .int .u32 0, .int .i64 0, .bool false, .int .u8 0, .slice none 0 0] rfl [.int .u8 0, .int .u32 0, .int .u8 7, .int .u8 1, .int .u8 0, .int .u8 0, .int .u8 0, .int .u8 0, .int .u8 0, .int .u8 0, .int .u8 0, .int .u8 0, .int .u8 0, .int .u8 0, .int .u8 0, .int .u8 0, .int .u8 0, .int .u8 0, .int .u8 0, .int .u8 2, .int .u8 0, .int .u8 0, .int .u8 0, .int .u8 0, .int .u8 0, .int .u8 0, .int .u8 0, .int .u8 0, .int .u8 0, .int .u8 0, .int .u8 0, .int .u8 0, .int .u8 0, .int .u8 0, .int .u8 0, .slice none 0 0, .bool false, .int .u32 0, .int .i64 0, .bool false, .int .u8 17, .slice (some ⟨vb, 0, none⟩) 8 vk] rfl (by simp [Value.oneCell'])
  have c2 : w3.cell? ⟨w2.heap.size, 2, none⟩ = some (.int .u8 7) := blk_cell b3 rfl
  have c40 : w3.cell? ⟨w2.heap.size, 40, none⟩ = some (.int .u8 17) := blk_cell b3 rfl
  have c41 : w3.cell? ⟨w2.heap.size, 41, none⟩ = some (.slice (some ⟨vb, 0, none⟩) 8 vk) := blk_cell b3 rfl
  have d6 : w3.cell? ⟨vb, 6, none⟩ = some (.int .u8 252) := by
    have := (hb3.cell (p := ⟨vb, 6, none⟩) hvl).trans (hvc 6 (by decide))
    rwa [z6] at this
  have d7 : w3.cell? ⟨vb, 7, none⟩ = some (.int .u8 219) := by
    have := (hb3.cell (p := ⟨vb, 7, none⟩) hvl).trans (hvc 7 (by decide))
    rwa [z7] at this
  have hor : bits .or .u8 252 219 = 255 := by decide
  have HS3 : Hid _ := st3
  have HX3 : Hid (Below w.heap.size w w3) := (HX1.out.trans (hb2.mono HX1.out.size)).trans (hb3.mono (HX1.out.trans (hb2.mono HX1.out.size)).size)
  clear st3 b3 hb3 hk hvb hvl hvc hb2 HP z6 z7 hpk
  go_wp2_with ((with_reducible show wpList _ _ _ _ _ _); refine arm_store rfl (.tmp 2) (.tmp 15) 36 rfl rfl rfl HS3.out ?_)
  go_quiet ((go_at_call 23; exact Calls.quiet_of_same (HMT.out _)))
  go_wp2
  go_ret
  exact ⟨rfl, bDr HX3.out _⟩
end Go.Proofs.YtnjkagopmfenkaaGreat
