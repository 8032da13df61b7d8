/-
  header of package tofour, of any datagram without a fragment header.
  body of package tofour, of a datagram of UDP.
  Packet$1 of package tofour, of a datagram of UDP without heads.
-/
import Derived.Test.YtpgnnplpcalbbaaGreatFold37
import Derived.Test.YtpgnnplpcalbbaaGreatFold34
set_option linter.unusedVariables false
set_option linter.unusedSimpArgs false
namespace Go.Proofs.YtpgnnplpcalbbaaGreat
open Go Go.RowKit Go.Shelf
theorem protc {p : Int} (h : wrongS p = false) (w : World) : Calls Tryz.prog 169 #[.int .u8 p] w fun e w' => ∃ v, e = .returned v ∧ (v = .int .u8 (protS p) ∧ w' = w) := (protocol_yes p h w).mono (fun e w' k => ⟨_, k.1, rfl, k.2⟩)
theorem ex_fV6b {o : Oper} {a : Act} {W : World} (k : Nat) (i n : Nat) {b : Nat} (hop : o.op = Op.fieldAddr 36 (.tmp k) i) (hk : a.eval (.tmp k) = .pointer (some ⟨b, 0, none⟩)) (hi : (i = 0 ∧ n = 0) ∨ (i = 2 ∧ n = 2) ∨ (i = 10 ∧ n = 40) ∨ (i = 11 ∧ n = 41)) :
    (execOp a.eval o).run Tryz.prog W = .ok (.value (.pointer (some ⟨b, n, none⟩))) W := by
  generalize a.eval = ev at *
  rcases hi with ⟨rfl, rfl⟩ | ⟨rfl, rfl⟩ | ⟨rfl, rfl⟩ | ⟨rfl, rfl⟩ <;> simp [execOp, hop, hk, go_sem]
theorem ex_l8S {o : Oper} {a : Act} {W : World} (k : Nat) {p : Addr} {x : Int} (hop : o.op = Op.load 5 (.tmp k)) (hk : a.eval (.tmp k) = .pointer (some p)) (hc : W.cell? p = some (.int .u8 x)) :
    (execOp a.eval o).run Tryz.prog W = .ok (.value (.int .u8 x)) W := by
  generalize a.eval = ev at *
  simp [execOp, hop, hk, hc, go_sem]
theorem ex_loadvS {P : Program} {o : Oper} {a : Act} {W : World} (k : Nat) (t : TypeId) {vp v : Value} (hop : o.op = Op.load t (.tmp k)) (hp : a.eval (.tmp k) = vp) (hrun : (Instr.loadAt t vp).run P W = .ok v W) : (execOp a.eval o).run P W = .ok (.value v) W := by
  simp [execOp, hop, hp, hrun]
theorem ex_b4S (f : V6.F6) (g : V6.G6) (vh vb : Value) (c0 c1 c2 c3 d0 d1 d2 d3 : Int) {o : Oper} {a : Act} {W : World} (p q r s t : Operand) (hop : o.op = Op.build 27 #[(0, p), (5, q), (7, r), (8, s), (6, t)]) (hp : a.eval p = .int .u8 f.cls) (hq : a.eval q = .int .u8 f.hop) (hr : a.eval r = .agg [.int .u8 c0, .int .u8 c1, .int .u8 c2, .int .u8 c3].toArray) (hs : a.eval s = .agg [.int .u8 d0, .int .u8 d1, .int .u8 d2, .int .u8 d3].toArray) (ht : a.eval t = .int .u8 (protS f.proto)) :
    (execOp a.eval o).run Tryz.prog W = .ok (.value (.agg [.int .u8 f.cls, .int .u16 0, .bool false, .bool false, .int .i64 0, .int .u8 f.hop, .int .u8 (protS f.proto), .int .u8 c0, .int .u8 c1, .int .u8 c2, .int .u8 c3, .int .u8 d0, .int .u8 d1, .int .u8 d2, .int .u8 d3, .slice none 0 0, .slice none 0 0].toArray)) W := by
  generalize a.eval = ev at *
  simp [execOp, hop, hp, hq, hr, hs, ht, go_sem]
set_option maxHeartbeats 4000000 in
set_option maxRecDepth 100000 in
theorem header_plainS (f : V6.F6) (g : V6.G6) (vh vb : Value) (c0 c1 c2 c3 d0 d1 d2 d3 : Int) (hg : g.fr = false) (hw : wrongS f.proto = false) (w : World) :
    Calls Tryz.prog 95 #[V6.VV f g vh vb, .agg [.int .u8 c0, .int .u8 c1, .int .u8 c2, .int .u8 c3, .int .u8 d0, .int .u8 d1, .int .u8 d2, .int .u8 d3].toArray] w fun e w' => e = .returned (.agg [.int .u8 f.cls, .int .u16 0, .bool true, .bool false, .int .i64 0, .int .u8 f.hop, .int .u8 (protS f.proto), .int .u8 c0, .int .u8 c1, .int .u8 c2, .int .u8 c3, .int .u8 d0, .int .u8 d1, .int .u8 d2, .int .u8 d3, .slice none 0 0, .slice none 0 0].toArray) ∧ Below w.heap.size w w' := by
  obtain ⟨W0, hW0⟩ : ∃ W0, w.alloc (V6.BV f g vh vb) = W0 := ⟨_, rfl⟩
  obtain ⟨W1, hW1⟩ : ∃ W1, W0.alloc (.cells [.int .u8 c0, .int .u8 c1, .int .u8 c2, .int .u8 c3, .int .u8 d0, .int .u8 d1, .int .u8 d2, .int .u8 d3].toArray 59) = W1 := ⟨_, rfl⟩
  obtain ⟨W2, hW2⟩ : ∃ W2, W1.alloc (.cells [.int .u8 0, .int .u16 0, .bool false, .bool false, .int .i64 0, .int .u8 0, .int .u8 0, .int .u8 0, .int .u8 0, .int .u8 0, .int .u8 0, .int .u8 0, .int .u8 0, .int .u8 0, .int .u8 0, .slice none 0 0, .slice none 0 0].toArray 27) = W2 := ⟨_, rfl⟩
  have b0 := blk_new w (V6.BV f g vh vb)
  have hB0 := (Below.refl w.heap.size w).alloc (Nat.le_refl _) (V6.BV f g vh vb)
  rw [hW0] at b0 hB0
  have b1 := blk_new W0 (.cells [.int .u8 c0, .int .u8 c1, .int .u8 c2, .int .u8 c3, .int .u8 d0, .int .u8 d1, .int .u8 d2, .int .u8 d3].toArray 59)
  have hB1 := (Below.refl W0.heap.size W0).alloc (Nat.le_refl _) (.cells [.int .u8 c0, .int .u8 c1, .int .u8 c2, .int .u8 c3, .int .u8 d0, .int .u8 d1, .int .u8 d2, .int .u8 d3].toArray 59)
  have b01 := blk_alloc b0 (.cells [.int .u8 c0, .int .u8 c1, .int .u8 c2, .int .u8 c3, .int .u8 d0, .int .u8 d1, .int .u8 d2, .int .u8 d3].toArray 59)
  rw [hW1] at b1 hB1 b01
  have b2 := blk_new W1 (.cells [.int .u8 0, .int .u16 0, .bool false, .bool false, .int .i64 0, .int .u8 0, .int .u8 0, .int .u8 0, .int .u8 0, .int .u8 0, .int .u8 0, .int .u8 0, .int .u8 0, .int .u8 0, .int .u8 0, .slice none 0 0, .slice none 0 0].toArray 27)
  have hB2 := (Below.refl W1.heap.size W1).alloc (Nat.le_refl _) (.cells [.int .u8 0, .int .u16 0, .bool false, .bool false, .int .i64 0, .int .u8 0, .int .u8 0, .int .u8 0, .int .u8 0, .int .u8 0, .int .u8 0, .int .u8 0, .int .u8 0, .int .u8 0, .int .u8 0, .slice none 0 0, .slice none 0 0].toArray 27)
  have b02 := blk_alloc b01 (.cells [.int .u8 0, .int .u16 0, .bool false, .bool false, .int .i64 0, .int .u8 0, .int .u8 0, .int .u8 0, .int .u8 0, .int .u8 0, .int .u8 0, .int .u8 0, .int .u8 0, .int .u8 0, .int .u8 0, .slice none 0 0, .slice none 0 0].toArray 27)
  have b12 := blk_alloc b1 (.cells [.int .u8 0, .int .u16 0, .bool false, .bool false, .int .i64 0, .int .u8 0, .int .u8 0, .int .u8 0, .int .u8 0, .int .u8 0, .int .u8 0, .int .u8 0, .int .u8 0, .int .u8 0, .int .u8 0, .slice none 0 0, .slice none 0 0].toArray 27)
  rw [hW2] at b2 hB2 b02 b12
  have hX1 := hB0.trans (hB1.mono hB0.size)
  have hX2 := hX1.trans (hB2.mono hX1.size)
  have hlt : W1.heap.size < W2.heap.size := (Array.getElem?_eq_some_iff.1 b2).1
  have hle1 := hX1.size
  obtain ⟨p, hp⟩ : ∃ p, f.proto = p := ⟨_, rfl⟩
  have HC : Hid (∀ W, Below W2.heap.size W2 W → W.cell? ⟨w.heap.size, 0, none⟩ = some (.int .u8 f.cls) ∧ W.cell? ⟨w.heap.size, 2, none⟩ = some (.int .u8 f.hop) ∧ W.cell? ⟨w.heap.size, 40, none⟩ = some (.int .u8 f.proto) ∧ W.cell? ⟨w.heap.size, 36, none⟩ = some (.bool false)) := fun W hW => ⟨blk_cell (blk_on b02 hW) rfl, blk_cell (blk_on b02 hW) rfl, vb40 (blk_on b02 hW), hg ▸ V6.vb36 (blk_on b02 hW)⟩
  have HLA : Hid (∀ W, Below W2.heap.size W2 W → (Instr.loadAt 24 (.pointer (some ⟨W0.heap.size, 0, none⟩))).run Tryz.prog W = .ok (.agg [.int .u8 c0, .int .u8 c1, .int .u8 c2, .int .u8 c3].toArray) W) := fun W hW => agg_load Tryz.isAgg24 Tryz.sizeOf24 rfl (CellsAt.fst (ys := [.int .u8 d0, .int .u8 d1, .int .u8 d2, .int .u8 d3]) (CellsAt.of_blk (blk_on b12 hW)))
  have HLB : Hid (∀ W, Below W2.heap.size W2 W → (Instr.loadAt 24 (.pointer (some ⟨W0.heap.size, 4, none⟩))).run Tryz.prog W = .ok (.agg [.int .u8 d0, .int .u8 d1, .int .u8 d2, .int .u8 d3].toArray) W) := fun W hW => agg_load Tryz.isAgg24 Tryz.sizeOf24 rfl (CellsAt.part (o := 0) (xs := [.int .u8 c0, .int .u8 c1, .int .u8 c2, .int .u8 c3]) (ys := [.int .u8 d0, .int .u8 d1, .int .u8 d2, .int .u8 d3]) (zs := []) (CellsAt.of_blk (blk_on b12 hW)))
  have HST : Hid (∀ W, Below W2.heap.size W2 W → ∃ w', (Instr.storeAt 27 (.pointer (some ⟨W1.heap.size, 0, none⟩)) (.agg [.int .u8 f.cls, .int .u16 0, .bool true, .bool false, .int .i64 0, .int .u8 f.hop, .int .u8 (protS f.proto), .int .u8 c0, .int .u8 c1, .int .u8 c2, .int .u8 c3, .int .u8 d0, .int .u8 d1, .int .u8 d2, .int .u8 d3, .slice none 0 0, .slice none 0 0].toArray)).run Tryz.prog W = .ok () w' ∧ w'.heap[W1.heap.size]? = some (.cells [.int .u8 f.cls, .int .u16 0, .bool true, .bool false, .int .i64 0, .int .u8 f.hop, .int .u8 (protS f.proto), .int .u8 c0, .int .u8 c1, .int .u8 c2, .int .u8 c3, .int .u8 d0, .int .u8 d1, .int .u8 d2, .int .u8 d3, .slice none 0 0, .slice none 0 0].toArray 27) ∧ Below w.heap.size w w') := fun W hW => by
    obtain ⟨w', k1, k2, k3⟩ := V6.box_store Tryz.sizeOf27 (blk_on b2 hW) rfl [.int .u8 f.cls, .int .u16 0, .bool true, .bool false, .int .i64 0, .int .u8 f.hop, .int .u8 (protS f.proto), .int .u8 c0, .int .u8 c1, .int .u8 c2, .int .u8 c3, .int .u8 d0, .int .u8 d1, .int .u8 d2, .int .u8 d3, .slice none 0 0, .slice none 0 0] rfl (by simp [Value.oneCell'])
    exact ⟨w', k1, k2, (hX2.trans (hW.mono hX2.size)).trans (k3.below hle1)⟩
  have HNB : Hid (∃ w', (Instr.storeAt 27 (.pointer (some ⟨W2.drew.heap.size, 0, none⟩)) (.agg [.int .u8 f.cls, .int .u16 0, .bool false, .bool false, .int .i64 0, .int .u8 f.hop, .int .u8 (protS f.proto), .int .u8 c0, .int .u8 c1, .int .u8 c2, .int .u8 c3, .int .u8 d0, .int .u8 d1, .int .u8 d2, .int .u8 d3, .slice none 0 0, .slice none 0 0].toArray)).run Tryz.prog (W2.drew.alloc (.cells [.int .u8 0, .int .u16 0, .bool false, .bool false, .int .i64 0, .int .u8 0, .int .u8 0, .int .u8 0, .int .u8 0, .int .u8 0, .int .u8 0, .int .u8 0, .int .u8 0, .int .u8 0, .int .u8 0, .slice none 0 0, .slice none 0 0].toArray 27)) = .ok () w' ∧ w'.heap[W2.drew.heap.size]? = some (.cells [.int .u8 f.cls, .int .u16 0, .bool false, .bool false, .int .i64 0, .int .u8 f.hop, .int .u8 (protS f.proto), .int .u8 c0, .int .u8 c1, .int .u8 c2, .int .u8 c3, .int .u8 d0, .int .u8 d1, .int .u8 d2, .int .u8 d3, .slice none 0 0, .slice none 0 0].toArray 27) ∧ Below W2.heap.size W2 w') := by
    obtain ⟨w', k1, k2, k3⟩ := V6.box_new Tryz.sizeOf27 W2.drew [.int .u8 0, .int .u16 0, .bool false, .bool false, .int .i64 0, .int .u8 0, .int .u8 0, .int .u8 0, .int .u8 0, .int .u8 0, .int .u8 0, .int .u8 0, .int .u8 0, .int .u8 0, .int .u8 0, .slice none 0 0, .slice none 0 0] rfl [.int .u8 f.cls, .int .u16 0, .bool false, .bool false, .int .i64 0, .int .u8 f.hop, .int .u8 (protS f.proto), .int .u8 c0, .int .u8 c1, .int .u8 c2, .int .u8 c3, .int .u8 d0, .int .u8 d1, .int .u8 d2, .int .u8 d3, .slice none 0 0, .slice none 0 0] rfl (by simp [Value.oneCell'])
    have : ∃ w', (Instr.storeAt 27 (.pointer (some ⟨W2.drew.heap.size, 0, none⟩)) (.agg [.int .u8 f.cls, .int .u16 0, .bool false, .bool false, .int .i64 0, .int .u8 f.hop, .int .u8 (protS f.proto), .int .u8 c0, .int .u8 c1, .int .u8 c2, .int .u8 c3, .int .u8 d0, .int .u8 d1, .int .u8 d2, .int .u8 d3, .slice none 0 0, .slice none 0 0].toArray)).run Tryz.prog (W2.drew.alloc (.cells [.int .u8 0, .int .u16 0, .bool false, .bool false, .int .i64 0, .int .u8 0, .int .u8 0, .int .u8 0, .int .u8 0, .int .u8 0, .int .u8 0, .int .u8 0, .int .u8 0, .int .u8 0, .int .u8 0, .slice none 0 0, .slice none 0 0].toArray 27)) = .ok () w' ∧ w'.heap[W2.drew.heap.size]? = some (.cells [.int .u8 f.cls, .int .u16 0, .bool false, .bool false, .int .i64 0, .int .u8 f.hop, .int .u8 (protS f.proto), .int .u8 c0, .int .u8 c1, .int .u8 c2, .int .u8 c3, .int .u8 d0, .int .u8 d1, .int .u8 d2, .int .u8 d3, .slice none 0 0, .slice none 0 0].toArray 27) ∧ Below W2.heap.size W2 w' := ⟨w', k1, k2, (Below.refl W2.heap.size W2).drew.trans k3⟩
    exact this
  have hyd : Below W2.heap.size W2 W2.drew := (Below.refl _ _).drew
  have hya : Below W2.heap.size W2 (W2.drew.alloc (.cells [.int .u8 0, .int .u16 0, .bool false, .bool false, .int .i64 0, .int .u8 0, .int .u8 0, .int .u8 0, .int .u8 0, .int .u8 0, .int .u8 0, .int .u8 0, .int .u8 0, .int .u8 0, .int .u8 0, .slice none 0 0, .slice none 0 0].toArray 27)) := hyd.alloc hyd.size _
  have HNX : Hid _ := protc hw
  clear b0 hB0 b1 hB1 b01 hX1 b2 hB2 b02 b12 hX2 hlt hle1 hw hg hp
  unfold V6.VV V6.BV at *
  generalize (V6.vC f g vh vb).toArray = vc at *
  go_enter Tryz.func95, Tryz.ntmps95
  go_wp2_with fail
  refine wp_region_held (S := fun W => Below W2.heap.size W2 W) (by kernel_rfl) ?_
  show wpAnyH _ _ _ _ _ 14 (Array.replicate 14 false) _ _
  refine take_one (i := 0) (d := some 6) (v := .pointer (some ⟨w.heap.size, 0, none⟩)) rfl rfl rfl (by kernel_rfl) (by kernel_rfl) (by kernel_rfl) (fun _ _ d _ _ h => by cases d <;> exact h) (fun W hS => ex_fV6b 2 0 0 rfl rfl (by decide)) hyd ?_
  simp only [Act.put, List.setIfInBounds_toArray, List.set_cons_zero, List.set_cons_succ]
  refine take_one (i := 1) (d := some 7) (v := .int .u8 f.cls) rfl rfl rfl (by kernel_rfl) (by kernel_rfl) (by kernel_rfl) (fun _ _ d _ _ h => by cases d <;> exact h) (fun W hS => ex_l8S 6 rfl rfl (HC.out W hS).1) hyd ?_
  simp only [Act.put, List.setIfInBounds_toArray, List.set_cons_zero, List.set_cons_succ]
  refine take_one (i := 2) (d := some 8) (v := .pointer (some ⟨w.heap.size, 2, none⟩)) rfl rfl rfl (by kernel_rfl) (by kernel_rfl) (by kernel_rfl) (fun _ _ d _ _ h => by cases d <;> exact h) (fun W hS => ex_fV6b 2 2 2 rfl rfl (by decide)) hyd ?_
  simp only [Act.put, List.setIfInBounds_toArray, List.set_cons_zero, List.set_cons_succ]
  refine take_one (i := 3) (d := some 9) (v := .int .u8 f.hop) rfl rfl rfl (by kernel_rfl) (by kernel_rfl) (by kernel_rfl) (fun _ _ d _ _ h => by cases d <;> exact h) (fun W hS => ex_l8S 8 rfl rfl (HC.out W hS).2.1) hyd ?_
  simp only [Act.put, List.setIfInBounds_toArray, List.set_cons_zero, List.set_cons_succ]
  refine take_one (i := 4) (d := some 10) (v := .pointer (some ⟨W0.heap.size, 0, none⟩)) rfl rfl rfl (by kernel_rfl) (by kernel_rfl) (by kernel_rfl) (fun _ _ d _ _ h => by cases d <;> exact h) (fun W hS => ex_fE4 3 0 0 rfl rfl (by decide)) hyd ?_
  simp only [Act.put, List.setIfInBounds_toArray, List.set_cons_zero, List.set_cons_succ]
  refine take_one (i := 5) (d := some 11) (v := .agg [.int .u8 c0, .int .u8 c1, .int .u8 c2, .int .u8 c3].toArray) rfl rfl rfl (by kernel_rfl) (by kernel_rfl) (by kernel_rfl) (fun _ _ d _ _ h => by cases d <;> exact h) (fun W hS => ex_loadvS (vp := .pointer (some ⟨W0.heap.size, 0, none⟩)) 10 24 rfl rfl (HLA.out W hS)) hyd ?_
  simp only [Act.put, List.setIfInBounds_toArray, List.set_cons_zero, List.set_cons_succ]
  refine take_one (i := 6) (d := some 12) (v := .pointer (some ⟨W0.heap.size, 4, none⟩)) rfl rfl rfl (by kernel_rfl) (by kernel_rfl) (by kernel_rfl) (fun _ _ d _ _ h => by cases d <;> exact h) (fun W hS => ex_fE4 3 1 4 rfl rfl (by decide)) hyd ?_
  simp only [Act.put, List.setIfInBounds_toArray, List.set_cons_zero, List.set_cons_succ]
  refine take_one (i := 7) (d := some 13) (v := .agg [.int .u8 d0, .int .u8 d1, .int .u8 d2, .int .u8 d3].toArray) rfl rfl rfl (by kernel_rfl) (by kernel_rfl) (by kernel_rfl) (fun _ _ d _ _ h => by cases d <;> exact h) (fun W hS => ex_loadvS (vp := .pointer (some ⟨W0.heap.size, 4, none⟩)) 12 24 rfl rfl (HLB.out W hS)) hyd ?_
  simp only [Act.put, List.setIfInBounds_toArray, List.set_cons_zero, List.set_cons_succ]
  refine take_one (i := 8) (d := some 14) (v := .pointer (some ⟨w.heap.size, 40, none⟩)) rfl rfl rfl (by kernel_rfl) (by kernel_rfl) (by kernel_rfl) (fun _ _ d _ _ h => by cases d <;> exact h) (fun W hS => ex_fV6b 2 10 40 rfl rfl (by decide)) hyd ?_
  simp only [Act.put, List.setIfInBounds_toArray, List.set_cons_zero, List.set_cons_succ]
  refine take_one (i := 9) (d := some 15) (v := .int .u8 f.proto) rfl rfl rfl (by kernel_rfl) (by kernel_rfl) (by kernel_rfl) (fun _ _ d _ _ h => by cases d <;> exact h) (fun W hS => ex_l8S 14 rfl rfl (HC.out W hS).2.2.1) hyd ?_
  simp only [Act.put, List.setIfInBounds_toArray, List.set_cons_zero, List.set_cons_succ]
  refine all_two (i1 := 10) (i2 := 12) (by kernel_rfl) rfl rfl rfl rfl ?_ ?_
  · skip
    refine wp_call (d := some 16) 169 _ rfl (by kernel_rfl) (HNX.out _) ?_
    rintro _ _ ⟨hv, rfl⟩
    subst hv
    refine ⟨hyd, ?_⟩
    simp only [Act.put, List.setIfInBounds_toArray, List.set_cons_zero, List.set_cons_succ]
    refine take_one (i := 11) (d := some 17) (v := .agg [.int .u8 f.cls, .int .u16 0, .bool false, .bool false, .int .i64 0, .int .u8 f.hop, .int .u8 (protS f.proto), .int .u8 c0, .int .u8 c1, .int .u8 c2, .int .u8 c3, .int .u8 d0, .int .u8 d1, .int .u8 d2, .int .u8 d3, .slice none 0 0, .slice none 0 0].toArray) rfl rfl rfl (by kernel_rfl) (by kernel_rfl) (by kernel_rfl) (fun _ _ d _ _ h => by cases d <;> exact h) (fun W hS => ex_b4S f g vh vb c0 c1 c2 c3 d0 d1 d2 d3 (.tmp 7) (.tmp 9) (.tmp 11) (.tmp 13) (.tmp 16) rfl rfl rfl rfl rfl rfl) hyd ?_
    simp only [Act.put, List.setIfInBounds_toArray, List.set_cons_zero, List.set_cons_succ]
    refine all_one (i := 12) (by kernel_rfl) rfl rfl ?_
    refine V6.wp_allocA (d := some 5) 27 rfl rfl (v := .pointer (some ⟨W2.drew.heap.size, 0, none⟩)) (w2 := W2.drew.alloc (.cells [.int .u8 0, .int .u16 0, .bool false, .bool false, .int .i64 0, .int .u8 0, .int .u8 0, .int .u8 0, .int .u8 0, .int .u8 0, .int .u8 0, .int .u8 0, .int .u8 0, .int .u8 0, .int .u8 0, .slice none 0 0, .slice none 0 0].toArray 27)) (by kernel_rfl) ⟨hya, ?_⟩
    simp only [Act.put, List.setIfInBounds_toArray, List.set_cons_zero, List.set_cons_succ]
    obtain ⟨w3, st3, b3, hb3⟩ := HNB.out
    refine all_one (i := 13) (by kernel_rfl) rfl rfl ?_
    refine store_wp (.tmp 5) (.tmp 17) 27 rfl rfl rfl st3 ⟨hb3, ?_⟩
    simp only [Act.put, List.setIfInBounds_toArray, List.set_cons_zero, List.set_cons_succ]
    refine wpAnyH_done (by kernel_rfl) ?_ _
    obtain ⟨-, -, -, k36⟩ := HC.out w3 hb3
    have b3 : w3.heap[W2.heap.size]? = some (.cells [.int .u8 f.cls, .int .u16 0, .bool false, .bool false, .int .i64 0, .int .u8 f.hop, .int .u8 (protS f.proto), .int .u8 c0, .int .u8 c1, .int .u8 c2, .int .u8 c3, .int .u8 d0, .int .u8 d1, .int .u8 d2, .int .u8 d3, .slice none 0 0, .slice none 0 0].toArray 27) := b3
    have HSB : Hid ((Instr.storeAt 4 (.pointer (some ⟨W2.heap.size, 2, none⟩)) (.bool true)).run Tryz.prog w3 = .ok () (w3.setCell ⟨W2.heap.size, 2, none⟩ (.bool true))) := V6.st_bool b3 (by simp) true
    have b4 := blk_set b3 2 (.bool true)
    have hb4 : Below W2.heap.size W2 (w3.setCell ⟨W2.heap.size, 2, none⟩ (.bool true)) := hb3.trans (((Only.refl W2.heap.size w3).set 2 (.bool true)).below (Nat.le_refl _))
    obtain ⟨w4, hw4⟩ : ∃ w4, w3.setCell ⟨W2.heap.size, 2, none⟩ (.bool true) = w4 := ⟨_, rfl⟩
    rw [hw4] at HSB b4 hb4
    have HL4 : Hid ((Instr.loadAt 27 (.pointer (some ⟨W2.heap.size, 0, none⟩))).run Tryz.prog w4 = .ok (.agg [.int .u8 f.cls, .int .u16 0, .bool true, .bool false, .int .i64 0, .int .u8 f.hop, .int .u8 (protS f.proto), .int .u8 c0, .int .u8 c1, .int .u8 c2, .int .u8 c3, .int .u8 d0, .int .u8 d1, .int .u8 d2, .int .u8 d3, .slice none 0 0, .slice none 0 0].toArray) w4) := agg_load Tryz.isAgg27 Tryz.sizeOf27 rfl (CellsAt.of_blk b4)
    obtain ⟨w5, st5, b5, hb5⟩ := HST.out _ hb4
    have HS5 : Hid _ := st5
    have B5 : Hid _ := b5
    clear st5 b4 hb4 b3 hb3 st3 HNB HST b5 hw4
    go_wp2_with first
      | ((with_reducible show wpList _ _ _ ({ dst := _, op := Op.store 4 (Operand.tmp 30) _, type := _, pos := _, after := _, guard := _ } :: _) _ _); refine armSS (.tmp 30) (.const (.bool true)) 4 rfl rfl rfl rfl HSB.out ?_; try simp only [])
      | ((with_reducible show wpList _ _ _ _ _ _); refine arm_load rfl (.tmp 5) 27 rfl rfl HL4.out ?_)
      | ((with_reducible show wpList _ _ _ _ _ _); refine arm_store rfl (.tmp 4) (.tmp 31) 27 rfl rfl rfl HS5.out ?_)
    exact bodyPost_ret (res1t rfl rfl (agg_loadVar Tryz.isAgg27 Tryz.sizeOf27 rfl (CellsAt.of_blk B5.out))) rfl ⟨rfl, hb5⟩
  · skip
    refine V6.wp_allocA (d := some 5) 27 rfl rfl (v := .pointer (some ⟨W2.drew.heap.size, 0, none⟩)) (w2 := W2.drew.alloc (.cells [.int .u8 0, .int .u16 0, .bool false, .bool false, .int .i64 0, .int .u8 0, .int .u8 0, .int .u8 0, .int .u8 0, .int .u8 0, .int .u8 0, .int .u8 0, .int .u8 0, .int .u8 0, .int .u8 0, .slice none 0 0, .slice none 0 0].toArray 27)) (by kernel_rfl) ⟨hya, ?_⟩
    simp only [Act.put, List.setIfInBounds_toArray, List.set_cons_zero, List.set_cons_succ]
    refine all_one (i := 10) (by kernel_rfl) rfl rfl ?_
    refine wp_call (d := some 16) 169 _ rfl (by kernel_rfl) (HNX.out _) ?_
    rintro _ _ ⟨hv, rfl⟩
    subst hv
    refine ⟨hya, ?_⟩
    simp only [Act.put, List.setIfInBounds_toArray, List.set_cons_zero, List.set_cons_succ]
    refine take_one (i := 11) (d := some 17) (v := .agg [.int .u8 f.cls, .int .u16 0, .bool false, .bool false, .int .i64 0, .int .u8 f.hop, .int .u8 (protS f.proto), .int .u8 c0, .int .u8 c1, .int .u8 c2, .int .u8 c3, .int .u8 d0, .int .u8 d1, .int .u8 d2, .int .u8 d3, .slice none 0 0, .slice none 0 0].toArray) rfl rfl rfl (by kernel_rfl) (by kernel_rfl) (by kernel_rfl) (fun _ _ d _ _ h => by cases d <;> exact h) (fun W hS => ex_b4S f g vh vb c0 c1 c2 c3 d0 d1 d2 d3 (.tmp 7) (.tmp 9) (.tmp 11) (.tmp 13) (.tmp 16) rfl rfl rfl rfl rfl rfl) hya ?_
    simp only [Act.put, List.setIfInBounds_toArray, List.set_cons_zero, List.set_cons_succ]
    obtain ⟨w3, st3, b3, hb3⟩ := HNB.out
    refine all_one (i := 13) (by kernel_rfl) rfl rfl ?_
    refine store_wp (.tmp 5) (.tmp 17) 27 rfl rfl rfl st3 ⟨hb3, ?_⟩
    simp only [Act.put, List.setIfInBounds_toArray, List.set_cons_zero, List.set_cons_succ]
    refine wpAnyH_done (by kernel_rfl) ?_ _
    obtain ⟨-, -, -, k36⟩ := HC.out w3 hb3
    have b3 : w3.heap[W2.heap.size]? = some (.cells [.int .u8 f.cls, .int .u16 0, .bool false, .bool false, .int .i64 0, .int .u8 f.hop, .int .u8 (protS f.proto), .int .u8 c0, .int .u8 c1, .int .u8 c2, .int .u8 c3, .int .u8 d0, .int .u8 d1, .int .u8 d2, .int .u8 d3, .slice none 0 0, .slice none 0 0].toArray 27) := b3
    have HSB : Hid ((Instr.storeAt 4 (.pointer (some ⟨W2.heap.size, 2, none⟩)) (.bool true)).run Tryz.prog w3 = .ok () (w3.setCell ⟨W2.heap.size, 2, none⟩ (.bool true))) := V6.st_bool b3 (by simp) true
    have b4 := blk_set b3 2 (.bool true)
    have hb4 : Below W2.heap.size W2 (w3.setCell ⟨W2.heap.size, 2, none⟩ (.bool true)) := hb3.trans (((Only.refl W2.heap.size w3).set 2 (.bool true)).below (Nat.le_refl _))
    obtain ⟨w4, hw4⟩ : ∃ w4, w3.setCell ⟨W2.heap.size, 2, none⟩ (.bool true) = w4 := ⟨_, rfl⟩
    rw [hw4] at HSB b4 hb4
    have HL4 : Hid ((Instr.loadAt 27 (.pointer (some ⟨W2.heap.size, 0, none⟩))).run Tryz.prog w4 = .ok (.agg [.int .u8 f.cls, .int .u16 0, .bool true, .bool false, .int .i64 0, .int .u8 f.hop, .int .u8 (protS f.proto), .int .u8 c0, .int .u8 c1, .int .u8 c2, .int .u8 c3, .int .u8 d0, .int .u8 d1, .int .u8 d2, .int .u8 d3, .slice none 0 0, .slice none 0 0].toArray) w4) := agg_load Tryz.isAgg27 Tryz.sizeOf27 rfl (CellsAt.of_blk b4)
    obtain ⟨w5, st5, b5, hb5⟩ := HST.out _ hb4
    have HS5 : Hid _ := st5
    have B5 : Hid _ := b5
    clear st5 b4 hb4 b3 hb3 st3 HNB HST b5 hw4
    go_wp2_with first
      | ((with_reducible show wpList _ _ _ ({ dst := _, op := Op.store 4 (Operand.tmp 30) _, type := _, pos := _, after := _, guard := _ } :: _) _ _); refine armSS (.tmp 30) (.const (.bool true)) 4 rfl rfl rfl rfl HSB.out ?_; try simp only [])
      | ((with_reducible show wpList _ _ _ _ _ _); refine arm_load rfl (.tmp 5) 27 rfl rfl HL4.out ?_)
      | ((with_reducible show wpList _ _ _ _ _ _); refine arm_store rfl (.tmp 4) (.tmp 31) 27 rfl rfl rfl HS5.out ?_)
    exact bodyPost_ret (res1t rfl rfl (agg_loadVar Tryz.isAgg27 Tryz.sizeOf27 rfl (CellsAt.of_blk B5.out))) rfl ⟨rfl, hb5⟩
end Go.Proofs.YtpgnnplpcalbbaaGreat
namespace Go.Proofs.YtpgnnplpcalbbaaGreat
open Go Go.RowKit Go.Shelf
theorem ex_lenS {o : Oper} {a : Act} {W : World} (k : Nat) (hop : o.op = Op.call { callee := Callee.builtin Builtin.len, args := #[.tmp k], argTypes := #[25] }) {x : Option Addr} {n m : Nat} (hk : a.eval (.tmp k) = .slice x n m) : (execOp a.eval o).run Tryz.prog W = .ok (.value (.int .i64 (n : Int))) W := by
  generalize a.eval = ev at *
  simp [execOp, hop, hk, go_sem]
theorem ex_geqS {o : Oper} {a : Act} {W : World} (j k : Nat) {x y : Int} (hop : o.op = Op.binOp .geq 3 (.tmp j) (.tmp k) 3) (hj : a.eval (.tmp j) = .int .i64 x) (hk : a.eval (.tmp k) = .int .i64 y) {b : Bool} (hb : decide (y ≤ x) = b) : (execOp a.eval o).run Tryz.prog W = .ok (.value (.bool b)) W := by
  generalize a.eval = ev at *
  simp [execOp, hop, hj, hk, go_sem, hb]
theorem ex_ldrowS {o : Oper} {a : Act} {W : World} (k : Nat) {p : Addr} {x : Option Addr} {n m : Nat} (hop : o.op = Op.load 25 (.tmp k)) (hk : a.eval (.tmp k) = .pointer (some p)) (hc : W.cell? p = some (.slice x n m)) :
    (execOp a.eval o).run Tryz.prog W = .ok (.value (.slice x n m)) W := by
  generalize a.eval = ev at *
  simp [execOp, hop, hk, hc, go_sem]
theorem leastc (p : Int) (w : World) : Calls Tryz.prog 171 #[.int .u8 p] w fun e w' => ∃ v, e = .returned v ∧ (v = .int .i64 (leastS p) ∧ w' = w) := (leastBody_callsS p w).mono (fun e w' k => ⟨_, k.1, rfl, k.2⟩)
theorem mustc (e : Int) (w : World) : Calls Tryz.prog 93 #[.bool true, .int .i64 e] w fun e' w' => ∃ v, e' = .returned v ∧ (v = .tuple #[] ∧ w' = w) := (must_goodS e w).mono (fun e w' k => ⟨_, k.1, rfl, k.2⟩)
set_option maxHeartbeats 4000000 in
set_option maxRecDepth 100000 in
theorem body_udpS (f : V6.F6) (g : V6.G6) (vh vb : Value) (hs : V6.Opts) (A B C D body : List Int) (w : World) (h : SIn w f vh vb hs A B body) (lC : C.length = 4) (lD : D.length = 4) (fC : Fit C) (fD : Fit D) (h17 : f.proto = 17) (hoff : g.off ≤ 0) (h8 : 8 ≤ body.length) (hz : wd2 body 6 ≠ 0) (hbl : body.length ≤ 1000000) :
    Calls Tryz.prog 97 #[V6.VV f g vh vb, .agg (u8L C ++ u8L D).toArray] w fun e w' => ∃ G k, e = .returned (.slice (some ⟨G, 0, none⟩) body.length k) ∧ body.length ≤ k ∧ w.heap.size ≤ G ∧ OwnG w' G (putL body 6 (upS 17 A B C D body)) ∧ Below w.heap.size w w' := by
  obtain ⟨W0, hW0⟩ : ∃ W0, w.alloc (V6.BV f g vh vb) = W0 := ⟨_, rfl⟩
  obtain ⟨W1, hW1⟩ : ∃ W1, W0.alloc (.cells (u8L C ++ u8L D).toArray 59) = W1 := ⟨_, rfl⟩
  have b0 := blk_new w (V6.BV f g vh vb)
  have hB0 := (Below.refl w.heap.size w).alloc (Nat.le_refl _) (V6.BV f g vh vb)
  rw [hW0] at b0 hB0
  have b1 := blk_new W0 (.cells (u8L C ++ u8L D).toArray 59)
  have hB1 := (Below.refl W0.heap.size W0).alloc (Nat.le_refl _) (.cells (u8L C ++ u8L D).toArray 59)
  have b01 := blk_alloc b0 (.cells (u8L C ++ u8L D).toArray 59)
  rw [hW1] at b1 hB1 b01
  have hX1 := hB0.trans (hB1.mono hB0.size)
  obtain ⟨av, cv, rfl, _⟩ := h.d6.bd.row.val
  have HC : Hid (∀ W, Below W1.heap.size W1 W → W.cell? ⟨w.heap.size, 38, none⟩ = some (.int .i64 g.off) ∧ W.cell? ⟨w.heap.size, 40, none⟩ = some (.int .u8 17) ∧ W.cell? ⟨w.heap.size, 41, none⟩ = some (.slice av body.length cv)) := fun W hW => ⟨V6.vb38 (blk_on b01 hW), h17 ▸ vb40 (blk_on b01 hW), V6.vb41 (blk_on b01 hW)⟩
  have HLV : Hid (∀ W, Below W1.heap.size W1 W → (Instr.loadAt 36 (.pointer (some ⟨w.heap.size, 0, none⟩))).run Tryz.prog W = .ok (V6.VV f g vh (.slice av body.length cv)) W) := fun W hW => V6.vb_load (blk_on b01 hW)
  have HLE : Hid (∀ W, Below W1.heap.size W1 W → (Instr.loadAt 59 (.pointer (some ⟨W0.heap.size, 0, none⟩))).run Tryz.prog W = .ok (.agg (u8L C ++ u8L D).toArray) W) := fun W hW => agg_load Tryz.isAgg59 Tryz.sizeOf59 (by simp [u8L_len, lC, lD]) (CellsAt.of_blk (blk_on b1 hW))
  have ht : thereS f.proto body = true := by rw [h17]; simp [thereS, h8, hz]
  have HCR : Hid (∀ W, Below W1.heap.size W1 W → Calls Tryz.prog 173 #[V6.VV f g vh (.slice av body.length cv), .agg (u8L C ++ u8L D).toArray] W fun e w' => ∃ G k, e = .returned (.slice (some ⟨G, 0, none⟩) body.length k) ∧ body.length ≤ k ∧ W.heap.size ≤ G ∧ OwnG w' G (putL body 6 (upS 17 A B C D body)) ∧ Below W.heap.size W w') := fun W hW => by
    have := carried_yes f g vh _ hs A B C D body W (h.on (hX1.trans (hW.mono hX1.size))) lC lD fC fD ht hbl
    rw [h17] at this
    exact this
  have hrow1 : RowC W1 (.slice av body.length cv) body := (h.on hX1).d6.bd.row
  obtain ⟨b', off', cap', eq', hsl, hwd⟩ := word_at hrow1 6 h8
  cases eq'
  have HSL : Hid (∀ W, Below W1.heap.size W1 W → (Instr.sliceAt 25 (.slice (some ⟨b', off', none⟩) body.length cv) (some (.int .i64 6)) none none).run Tryz.prog W = .ok (.slice (some ⟨b', off' + 6, none⟩) (body.length - 6) (cv - 6)) W ∧ Calls Tryz.prog 172 #[.slice (some ⟨b', off' + 6, none⟩) (body.length - 6) (cv - 6)] W fun e w' => e = .returned (.int .u16 (wd2 body 6)) ∧ w' = W.drew) := fun W hW => by
    obtain ⟨b2, o2, c2, e2, k1, k2⟩ := word_at ((h.on (hX1.trans (hW.mono hX1.size))).d6.bd.row) 6 h8
    cases e2
    exact ⟨k1, k2⟩
  have q0 : (wd2 body 6 == 0) = false := by simpa using hz
  obtain ⟨x, hx⟩ : ∃ x, wd2 body 6 = x := ⟨_, rfl⟩
  rw [hx] at q0 HSL
  have HX1 : Hid _ := hX1
  have hle : decide (leastS 17 ≤ (body.length : Int)) = true := decide_eq_true (by show (8 : Int) ≤ _; omega)
  obtain ⟨ls, hls⟩ : ∃ ls, leastS 17 = ls := ⟨_, rfl⟩
  have HLB : Hid (∀ W, Calls Tryz.prog 171 #[.int .u8 17] W fun e w' => ∃ v, e = .returned v ∧ (v = .int .i64 ls ∧ w' = W)) := fun W => hls ▸ leastc 17 W
  rw [hls] at hle
  have hgo : decide (0 < g.off) = false := decide_eq_false (by omega)
  clear b0 hB0 b1 hB1 b01 hX1 hsl hwd hrow1 h ht fC fD hx hls h17 hz
  have hy0 : Below W1.heap.size W1 W1 := Below.refl _ _
  obtain ⟨k38, k40, k41⟩ := HC.out W1 hy0
  unfold V6.VV V6.BV at *
  generalize (V6.vC f g vh (.slice (some ⟨b', off', none⟩) body.length cv)).toArray = vc at *
  generalize (u8L C ++ u8L D).toArray = ec at *
  go_enter Tryz.func97, Tryz.ntmps97
  go_wp2_with fail
  refine wp_region_held (S := fun W => Below W1.heap.size W1 W) (by kernel_rfl) ?_
  show wpAnyH _ _ _ _ _ 8 (Array.replicate 8 false) _ _
  refine take_one (i := 0) (d := some 11) (v := .pointer (some ⟨w.heap.size, 41, none⟩)) rfl rfl rfl (by kernel_rfl) (by kernel_rfl) (by kernel_rfl) (fun _ _ d _ _ h => by cases d <;> exact h) (fun W hS => ex_fV6b 2 11 41 rfl rfl (by decide)) hy0.drew ?_
  simp only [Act.put, List.setIfInBounds_toArray, List.set_cons_zero, List.set_cons_succ]
  refine take_one (i := 1) (d := some 12) (v := .slice (some ⟨b', off', none⟩) body.length cv) rfl rfl rfl (by kernel_rfl) (by kernel_rfl) (by kernel_rfl) (fun _ _ d _ _ h => by cases d <;> exact h) (fun W hS => ex_ldrowS 11 rfl rfl (HC.out W hS).2.2) hy0.drew ?_
  simp only [Act.put, List.setIfInBounds_toArray, List.set_cons_zero, List.set_cons_succ]
  refine take_one (i := 2) (d := some 13) (v := .int .i64 (body.length : Int)) rfl rfl rfl (by kernel_rfl) (by kernel_rfl) (by kernel_rfl) (fun _ _ d _ _ h => by cases d <;> exact h) (fun W hS => ex_lenS 12 rfl rfl) hy0.drew ?_
  simp only [Act.put, List.setIfInBounds_toArray, List.set_cons_zero, List.set_cons_succ]
  refine take_one (i := 3) (d := some 14) (v := .pointer (some ⟨w.heap.size, 40, none⟩)) rfl rfl rfl (by kernel_rfl) (by kernel_rfl) (by kernel_rfl) (fun _ _ d _ _ h => by cases d <;> exact h) (fun W hS => ex_fV6b 2 10 40 rfl rfl (by decide)) hy0.drew ?_
  simp only [Act.put, List.setIfInBounds_toArray, List.set_cons_zero, List.set_cons_succ]
  refine take_one (i := 4) (d := some 15) (v := .int .u8 17) rfl rfl rfl (by kernel_rfl) (by kernel_rfl) (by kernel_rfl) (fun _ _ d _ _ h => by cases d <;> exact h) (fun W hS => ex_l8S 14 rfl rfl (HC.out W hS).2.1) hy0.drew ?_
  simp only [Act.put, List.setIfInBounds_toArray, List.set_cons_zero, List.set_cons_succ]
  refine all_one (i := 5) (by kernel_rfl) rfl rfl ?_
  refine wp_call (d := some 16) 171 _ rfl (by kernel_rfl) (HLB.out _) ?_
  rintro _ _ ⟨rfl, rfl⟩
  refine ⟨hy0.drew, ?_⟩
  simp only [Act.put, List.setIfInBounds_toArray, List.set_cons_zero, List.set_cons_succ]
  refine take_one (i := 6) (d := some 17) (v := .bool true) rfl rfl rfl (by kernel_rfl) (by kernel_rfl) (by kernel_rfl) (fun _ _ d _ _ h => by cases d <;> exact h) (fun W hS => ex_geqS 13 16 rfl rfl rfl hle) hy0.drew ?_
  simp only [Act.put, List.setIfInBounds_toArray, List.set_cons_zero, List.set_cons_succ]
  refine all_one (i := 7) (by kernel_rfl) rfl rfl ?_
  refine wp_call (d := some 18) 93 _ rfl (by kernel_rfl) (mustc 173 _) ?_
  rintro _ _ ⟨rfl, rfl⟩
  refine ⟨hy0.drew, ?_⟩
  simp only [Act.put, List.setIfInBounds_toArray, List.set_cons_zero, List.set_cons_succ]
  refine wpAnyH_done (by kernel_rfl) ?_ _
  have hy2 : Below W1.heap.size W1 W1.drew := hy0.drew
  obtain ⟨w2, hw2⟩ : ∃ w2, W1.drew = w2 := ⟨_, rfl⟩
  show Exit.then _ _ _ _ W1.drew
  rw [hw2] at hy2 ⊢
  obtain ⟨k38, k40, k41⟩ := HC.out w2 hy2
  obtain ⟨hsl, hwd⟩ := HSL.out w2 hy2
  have HS2 : Hid _ := hsl
  have HW2 : Hid _ := hwd
  clear hsl hwd hw2
  go_wp2_with ((with_reducible show wpList _ _ _ ({ dst := _, op := Op.slice _ _ _ _ _, type := _, pos := _, after := _, guard := _ } :: _) _ _); refine arm_slice rfl 25 (.tmp 26) (some (.const (.int .i64 6))) none rfl rfl rfl rfl HS2.out ?_)
  refine Calls.mono HW2.out ?_
  rintro _ _ ⟨rfl, rfl⟩
  go_wp2_with fail
  rw [show (x != 0) = true by simp [bne, q0]]
  refine Calls.mono (must_goodS 172 _) ?_
  rintro _ _ ⟨rfl, rfl⟩
  have hy3 := hy2.drew
  have hv3 := HLV.out _ hy3
  have he3 := HLE.out _ hy3
  have HV3 : Hid _ := hv3
  have HE3 : Hid _ := he3
  clear hv3 he3
  go_wp2_with first
    | ((with_reducible show wpList _ _ _ _ _ _); refine arm_load rfl (.tmp 2) 36 rfl rfl HV3.out ?_)
    | ((with_reducible show wpList _ _ _ _ _ _); refine arm_load rfl (.tmp 3) 59 rfl rfl HE3.out ?_)
  refine Calls.mono (HCR.out _ hy3) ?_
  rintro _ w4 ⟨G, k, rfl, hk1, hk2, own4, hb4⟩
  go_wp2
  go_ret
  exact ⟨G, k, rfl, hk1, Nat.le_trans HX1.out.size (Nat.le_trans hy3.size hk2), own4, HX1.out.trans ((hy3.trans (hb4.mono hy3.size)).mono HX1.out.size)⟩
end Go.Proofs.YtpgnnplpcalbbaaGreat
namespace Go.Proofs.YtpgnnplpcalbbaaGreat
open Go Go.RowKit Go.Shelf
theorem contains_nilS (ad : Option Addr) (cap : Nat) (f : Value) (w : World) : Calls Tryz.prog 167 #[.slice ad 0 cap, f] w fun e w' => e = .returned (.bool false) ∧ w' = w := by
  have HI : Hid (Calls Tryz.prog 220 #[.slice ad 0 cap, f] w fun e w' => e = .returned (.int .i64 (-1)) ∧ w' = w) := by
    go_enter Tryz.func220, Tryz.ntmps220
    go_wp2
    go_loopw [8] (fun i wr => i = .int .i64 0 ∧ wr = w) (fun _ _ => 0)
    case atStart => exact ⟨rfl, rfl⟩
    case round =>
      obtain ⟨rfl, rfl⟩ := hrel
      go_wp2
      try go_ret
      exact ⟨rfl, rfl⟩
  go_enter Tryz.func167, Tryz.ntmps167
  go_wp2_with fail
  refine Calls.mono HI.out ?_
  rintro _ w1 ⟨rfl, rfl⟩
  go_wp2
  try go_ret
  exact ⟨rfl, rfl⟩
theorem routed_nilS (w : World) : Calls Tryz.prog 94 #[.slice none 0 0] w fun e w' => e = .returned (.bool false) ∧ w' = w := by
  go_enter Tryz.func94, Tryz.ntmps94
  go_wp2_with fail
  refine Calls.mono (contains_nilS _ _ _ w) ?_
  rintro _ w1 ⟨rfl, rfl⟩
  go_wp2
  try go_ret
  exact ⟨rfl, rfl⟩
set_option maxHeartbeats 4000000 in
set_option maxRecDepth 100000 in
theorem way_udpS (f : V6.F6) (g : V6.G6) (vb : Value) (hs : V6.Opts) (A B body : List Int) (c0 c1 c2 c3 d0 d1 d2 d3 : Int) (fC : Fit [c0, c1, c2, c3]) (fD : Fit [d0, d1, d2, d3]) (h17 : f.proto = 17) (hg : g.fr = false) (hoff : g.off ≤ 0) (h8 : 8 ≤ body.length) (hz : wd2 body 6 ≠ 0) (hbl : body.length ≤ 65515)
    (w : World) (h : SIn w f (.slice none 0 0) vb hs A B body) (hck : ∀ W, SIn W f (.slice none 0 0) vb hs A B body → Calls Tryz.prog 63 #[V6.VV f g (.slice none 0 0) vb] W fun e w' => e = .returned (.int .i64 0) ∧ Below W.heap.size W w')
    (p q r : Nat) (hp : w.heap[p]? = some (V6.BV f g (.slice none 0 0) vb)) (hq : w.heap[q]? = some (.cells [.int .u8 c0, .int .u8 c1, .int .u8 c2, .int .u8 c3, .int .u8 d0, .int .u8 d1, .int .u8 d2, .int .u8 d3].toArray 59)) :
    Calls Tryz.prog 91 #[.pointer (some ⟨p, 0, none⟩), .pointer (some ⟨q, 0, none⟩), .pointer (some ⟨r, 0, none⟩)] w fun e w' => ∃ G k, e = .returned (.agg [.int .u8 f.cls, .int .u16 0, .bool true, .bool false, .int .i64 0, .int .u8 f.hop, .int .u8 (17), .int .u8 c0, .int .u8 c1, .int .u8 c2, .int .u8 c3, .int .u8 d0, .int .u8 d1, .int .u8 d2, .int .u8 d3, .slice none 0 0, .slice (some ⟨G, 0, none⟩) body.length k].toArray) ∧ body.length ≤ k ∧ w.heap.size ≤ G ∧ OwnG w' G (putL body 6 (upS 17 A B [c0, c1, c2, c3] [d0, d1, d2, d3] body)) ∧ Below w.heap.size w w' := by
  obtain ⟨W0, hW0⟩ : ∃ W0, w.alloc (.cells [.int .u8 0, .int .u16 0, .bool false, .bool false, .int .i64 0, .int .u8 0, .int .u8 0, .int .u8 0, .int .u8 0, .int .u8 0, .int .u8 0, .int .u8 0, .int .u8 0, .int .u8 0, .int .u8 0, .slice none 0 0, .slice none 0 0].toArray 27) = W0 := ⟨_, rfl⟩
  have b0 := blk_new w (.cells [.int .u8 0, .int .u16 0, .bool false, .bool false, .int .i64 0, .int .u8 0, .int .u8 0, .int .u8 0, .int .u8 0, .int .u8 0, .int .u8 0, .int .u8 0, .int .u8 0, .int .u8 0, .int .u8 0, .slice none 0 0, .slice none 0 0].toArray 27)
  have hB0 := (Below.refl w.heap.size w).alloc (Nat.le_refl _) (.cells [.int .u8 0, .int .u16 0, .bool false, .bool false, .int .i64 0, .int .u8 0, .int .u8 0, .int .u8 0, .int .u8 0, .int .u8 0, .int .u8 0, .int .u8 0, .int .u8 0, .int .u8 0, .int .u8 0, .slice none 0 0, .slice none 0 0].toArray 27)
  rw [hW0] at b0 hB0
  have HC : Hid (∀ W, Below W0.heap.size W0 W → W.cell? ⟨p, 35, none⟩ = some (.slice none 0 0) ∧ W.cell? ⟨p, 40, none⟩ = some (.int .u8 17)) := fun W hW => ⟨V6.vb35 (blk_on (blk_on hp hB0) hW), h17 ▸ vb40 (blk_on (blk_on hp hB0) hW)⟩
  have HLV : Hid (∀ W, Below W0.heap.size W0 W → (Instr.loadAt 36 (.pointer (some ⟨p, 0, none⟩))).run Tryz.prog W = .ok (V6.VV f g (.slice none 0 0) vb) W) := fun W hW => V6.vb_load (blk_on (blk_on hp hB0) hW)
  have HLE : Hid (∀ W, Below W0.heap.size W0 W → (Instr.loadAt 59 (.pointer (some ⟨q, 0, none⟩))).run Tryz.prog W = .ok (.agg [.int .u8 c0, .int .u8 c1, .int .u8 c2, .int .u8 c3, .int .u8 d0, .int .u8 d1, .int .u8 d2, .int .u8 d3].toArray) W) := fun W hW => agg_load Tryz.isAgg59 Tryz.sizeOf59 rfl (CellsAt.of_blk (blk_on (blk_on hq hB0) hW))
  have HHD : Hid (∀ W, Calls Tryz.prog 95 #[V6.VV f g (.slice none 0 0) vb, .agg [.int .u8 c0, .int .u8 c1, .int .u8 c2, .int .u8 c3, .int .u8 d0, .int .u8 d1, .int .u8 d2, .int .u8 d3].toArray] W fun e w' => e = .returned (.agg [.int .u8 f.cls, .int .u16 0, .bool true, .bool false, .int .i64 0, .int .u8 f.hop, .int .u8 (17), .int .u8 c0, .int .u8 c1, .int .u8 c2, .int .u8 c3, .int .u8 d0, .int .u8 d1, .int .u8 d2, .int .u8 d3, .slice none 0 0, .slice none 0 0].toArray) ∧ Below W.heap.size W w') := fun W => by
    have := header_plainS f g (.slice none 0 0) vb c0 c1 c2 c3 d0 d1 d2 d3 hg (by rw [h17]; rfl) W
    rw [show protS f.proto = 17 by rw [h17]; rfl] at this
    exact this
  obtain ⟨Z, hZ⟩ : ∃ Z, putL body 6 (upS 17 A B [c0, c1, c2, c3] [d0, d1, d2, d3] body) = Z := ⟨_, rfl⟩
  have HBD : Hid (∀ W, Below W0.heap.size W0 W → Calls Tryz.prog 97 #[V6.VV f g (.slice none 0 0) vb, .agg [.int .u8 c0, .int .u8 c1, .int .u8 c2, .int .u8 c3, .int .u8 d0, .int .u8 d1, .int .u8 d2, .int .u8 d3].toArray] W fun e w' => ∃ G k, e = .returned (.slice (some ⟨G, 0, none⟩) body.length k) ∧ body.length ≤ k ∧ W.heap.size ≤ G ∧ OwnG w' G Z ∧ Below W.heap.size W w') := fun W hW => hZ ▸ body_udpS f g _ vb hs A B [c0, c1, c2, c3] [d0, d1, d2, d3] body W (h.on (hB0.trans (hW.mono hB0.size))) rfl rfl fC fD h17 hoff h8 hz (by omega)
  rw [hZ]
  have HCK : Hid _ := hck W0 (h.on hB0)
  have HC4 : Hid (∀ W G k, Calls Tryz.prog 57 #[.agg [.int .u8 f.cls, .int .u16 0, .bool true, .bool false, .int .i64 0, .int .u8 f.hop, .int .u8 (17), .int .u8 c0, .int .u8 c1, .int .u8 c2, .int .u8 c3, .int .u8 d0, .int .u8 d1, .int .u8 d2, .int .u8 d3, .slice none 0 0, .slice (some ⟨G, 0, none⟩) body.length k].toArray] W fun e w' => e = .returned (.int .i64 0) ∧ Below W.heap.size W w') := fun W G k => by
    have := V4.Check_calls [.int .u8 f.cls, .int .u16 0, .bool true, .bool false, .int .i64 0, .int .u8 f.hop, .int .u8 (17), .int .u8 c0, .int .u8 c1, .int .u8 c2, .int .u8 c3, .int .u8 d0, .int .u8 d1, .int .u8 d2, .int .u8 d3, .slice none 0 0, .slice (some ⟨G, 0, none⟩) body.length k] 0 0 body.length W ⟨rfl, rfl, ⟨_, _, rfl⟩, ⟨_, _, rfl⟩, by decide, by decide, by omega⟩
    rw [show V4.chk 0 0 body.length = 0 by unfold V4.chk; rw [show V4.badV 0 0 = false by decide, show V4.longV 0 body.length = false by simp [V4.longV]; omega]; rfl] at this
    exact this
  have HB0 : Hid _ := hB0
  have B0 : Hid _ := b0
  have hy0 : Below W0.heap.size W0 W0 := Below.refl _ _
  have hlt : w.heap.size < W0.heap.size := (Array.getElem?_eq_some_iff.1 b0).1
  have HLT : Hid _ := hlt
  clear hp hq b0 hB0 hlt hck h fC fD h17 hg hz h8 hZ
  unfold V6.VV at *
  generalize (V6.vC f g (.slice none 0 0) vb).toArray = vc at *
  go_enter Tryz.func91, Tryz.ntmps91
  go_wp2_with ((with_reducible show wpList _ _ _ _ _ _); refine arm_load rfl (.tmp 0) 36 rfl rfl (HLV.out _ hy0) ?_)
  refine Calls.mono HCK.out ?_
  rintro _ w1 ⟨rfl, hb1⟩
  have hy1 := hy0.trans (hb1.mono hy0.size)
  clear hb1 HCK
  go_wp2_with fail
  refine Calls.mono ((good_goodS _).mono (fun e w' k => (⟨k.1, k.2.symm⟩ : _ ∧ _ = w'))) ?_
  rintro _ _ ⟨rfl, rfl⟩
  obtain ⟨k35, k40⟩ := HC.out w1 hy1
  go_wp2_with fail
  refine Calls.mono ((routed_nilS _).mono (fun e w' k => (⟨k.1, k.2.symm⟩ : _ ∧ _ = w'))) ?_
  rintro _ _ ⟨rfl, rfl⟩
  go_wp2_with fail
  refine Calls.mono ((must_goodS 170 _).mono (fun e w' k => (⟨k.1, k.2.symm⟩ : _ ∧ _ = w'))) ?_
  rintro _ _ ⟨rfl, rfl⟩
  clear k35 k40
  go_wp2_with first
    | ((with_reducible show wpList _ _ _ _ _ _); refine arm_load rfl (.tmp 0) 36 rfl rfl (HLV.out _ hy1) ?_)
    | ((with_reducible show wpList _ _ _ _ _ _); refine arm_load rfl (.tmp 1) 59 rfl rfl (HLE.out _ hy1) ?_)
  refine Calls.mono (HHD.out w1) ?_
  rintro _ w3 ⟨rfl, hb3⟩
  have hy3 := hy1.trans (hb3.mono hy1.size)
  obtain ⟨w4, st4, b4, hb4⟩ := V6.box_new Tryz.sizeOf27 w3 [.int .u8 0, .int .u16 0, .bool false, .bool false, .int .i64 0, .int .u8 0, .int .u8 0, .int .u8 0, .int .u8 0, .int .u8 0, .int .u8 0, .int .u8 0, .int .u8 0, .int .u8 0, .int .u8 0, .slice none 0 0, .slice none 0 0] rfl [.int .u8 f.cls, .int .u16 0, .bool true, .bool false, .int .i64 0, .int .u8 f.hop, .int .u8 (17), .int .u8 c0, .int .u8 c1, .int .u8 c2, .int .u8 c3, .int .u8 d0, .int .u8 d1, .int .u8 d2, .int .u8 d3, .slice none 0 0, .slice none 0 0] rfl (by simp [Value.oneCell'])
  have hy4 := hy3.trans (hb4.mono hy3.size)
  obtain ⟨k35, k40⟩ := HC.out w4 hy4
  have HS4 : Hid _ := st4
  have B4 : Hid _ := b4
  clear st4 b4 hb4 hb3 k35
  go_wp2_with first
    | ((with_reducible show wpList _ _ _ _ _ _); refine arm_store rfl (.tmp 4) (.tmp 15) 27 rfl rfl rfl HS4.out ?_)
    | ((with_reducible show wpList _ _ _ _ _ _); refine arm_load rfl (.tmp 0) 36 rfl rfl (HLV.out _ hy4) ?_)
    | ((with_reducible show wpList _ _ _ _ _ _); refine arm_load rfl (.tmp 1) 59 rfl rfl (HLE.out _ hy4) ?_)
  refine Calls.mono (HBD.out w4 hy4) ?_
  rintro _ w5 ⟨G, k, rfl, hk1, hk2, own5, hb5⟩
  have hy5 := hy4.trans (hb5.mono hy4.size)
  have hle34 : w3.heap.size < w4.heap.size := (Array.getElem?_eq_some_iff.1 B4.out).1
  have b5 := blk_on B4.out hb5
  have c16 : w5.cell? ⟨w3.heap.size, 16, none⟩ = some (.slice none 0 0) := blk_cell b5 rfl
  have f16 : w5.frozen? ⟨w3.heap.size, 16, none⟩ = false := blk_open b5 16
  obtain ⟨w6, hw6⟩ : ∃ w6, w5.setCell ⟨w3.heap.size, 16, none⟩ (.slice (some ⟨G, 0, none⟩) body.length k) = w6 := ⟨_, rfl⟩
  have b6 := blk_set b5 16 (.slice (some ⟨G, 0, none⟩) body.length k)
  have o6 : Only w3.heap.size w5 (w5.setCell ⟨w3.heap.size, 16, none⟩ (.slice (some ⟨G, 0, none⟩) body.length k)) := (Only.refl _ w5).set 16 _
  rw [hw6] at b6 o6
  have b6' : w6.heap[w3.heap.size]? = some (.cells [.int .u8 f.cls, .int .u16 0, .bool true, .bool false, .int .i64 0, .int .u8 f.hop, .int .u8 (17), .int .u8 c0, .int .u8 c1, .int .u8 c2, .int .u8 c3, .int .u8 d0, .int .u8 d1, .int .u8 d2, .int .u8 d3, .slice none 0 0, .slice (some ⟨G, 0, none⟩) body.length k].toArray 27) := b6
  have own6 := own5.off o6 (by omega)
  have hy6 : Below W0.heap.size W0 w6 := hy5.trans (o6.below (by have := hy3.size; omega))
  have HL6 : Hid ((Instr.loadAt 27 (.pointer (some ⟨w3.heap.size, 0, none⟩))).run Tryz.prog w6 = .ok (.agg [.int .u8 f.cls, .int .u16 0, .bool true, .bool false, .int .i64 0, .int .u8 f.hop, .int .u8 (17), .int .u8 c0, .int .u8 c1, .int .u8 c2, .int .u8 c3, .int .u8 d0, .int .u8 d1, .int .u8 d2, .int .u8 d3, .slice none 0 0, .slice (some ⟨G, 0, none⟩) body.length k].toArray) w6) := agg_load Tryz.isAgg27 Tryz.sizeOf27 rfl (CellsAt.of_blk b6')
  have OWN6 : Hid _ := own6
  have HG : Hid (w.heap.size < G) := by
    have h1 := HLT.out
    have h2 := hy4.size
    have : w.heap.size < G := by omega
    exact this
  have B6 : Hid _ := b6'
  have HST6 : Hid ((Instr.storeAt 25 (.pointer (some ⟨w3.heap.size, 16, none⟩)) (.slice (some ⟨G, 0, none⟩) body.length k)).run Tryz.prog w5 = .ok () w6) := hw6 ▸ V6.st_row b5 (by simp) ⟨_, _, _, rfl⟩
  clear own5 own6 b5 b6 b6' o6 hb5 hle34 c16 f16 hw6 k40
  go_wp2_with first
    | ((with_reducible show wpList _ _ _ _ _ _); refine arm_load rfl (.tmp 4) 27 rfl rfl HL6.out ?_)
    | ((with_reducible show wpList _ _ _ ({ dst := _, op := Op.store 25 (Operand.tmp 26) _, type := _, pos := _, after := _, guard := _ } :: _) _ _); refine armSS (.tmp 26) (.tmp 25) 25 rfl rfl rfl rfl HST6.out ?_; try simp only [])
  refine Calls.mono (HC4.out w6 G k) ?_
  rintro _ w7 ⟨rfl, hb7⟩
  have hy7 := hy6.trans (hb7.mono hy6.size)
  go_wp2_with fail
  refine Calls.mono ((must_goodS 2 _).mono (fun e w' k => (⟨k.1, k.2.symm⟩ : _ ∧ _ = w'))) ?_
  rintro _ _ ⟨rfl, rfl⟩
  have HL7 : Hid ((Instr.loadAt 27 (.pointer (some ⟨w3.heap.size, 0, none⟩))).run Tryz.prog w7 = .ok (.agg [.int .u8 f.cls, .int .u16 0, .bool true, .bool false, .int .i64 0, .int .u8 f.hop, .int .u8 (17), .int .u8 c0, .int .u8 c1, .int .u8 c2, .int .u8 c3, .int .u8 d0, .int .u8 d1, .int .u8 d2, .int .u8 d3, .slice none 0 0, .slice (some ⟨G, 0, none⟩) body.length k].toArray) w7) := agg_load Tryz.isAgg27 Tryz.sizeOf27 rfl (CellsAt.of_blk (blk_on B6.out hb7))
  obtain ⟨w8, st8, b8, o8⟩ := V6.box_store Tryz.sizeOf27 (blk_on B0.out hy7) rfl [.int .u8 f.cls, .int .u16 0, .bool true, .bool false, .int .i64 0, .int .u8 f.hop, .int .u8 (17), .int .u8 c0, .int .u8 c1, .int .u8 c2, .int .u8 c3, .int .u8 d0, .int .u8 d1, .int .u8 d2, .int .u8 d3, .slice none 0 0, .slice (some ⟨G, 0, none⟩) body.length k] rfl (by simp [Value.oneCell'])
  have HS8 : Hid _ := st8
  have B8 : Hid _ := b8
  have hg' := HG.out
  have own8 := (OWN6.out.put hb7).off o8 (by omega)
  have hbe : Below w.heap.size w w8 := (HB0.out.trans (hy7.mono HB0.out.size)).trans (o8.below (Nat.le_refl _))
  have OWN8 : Hid _ := own8
  clear st8 b8 o8 own8
  go_wp2_with first
    | ((with_reducible show wpList _ _ _ _ _ _); refine arm_load rfl (.tmp 4) 27 rfl rfl HL7.out ?_)
    | ((with_reducible show wpList _ _ _ _ _ _); refine arm_store rfl (.tmp 3) (.tmp 31) 27 rfl rfl rfl HS8.out ?_)
  exact bodyPost_ret (res1t rfl rfl (agg_loadVar Tryz.isAgg27 Tryz.sizeOf27 rfl (CellsAt.of_blk B8.out))) rfl ⟨G, k, rfl, hk1, Nat.le_of_lt hg', OWN8.out, hbe⟩
end Go.Proofs.YtpgnnplpcalbbaaGreat
