/-
  Tells of package tosix and of the document, of any datagram.
  Ends4 that are alike; the cells of what Tells gives are bytes.
-/
import Derived.Test.YtnjkagopmfenkaaGreatXt2
import Derived.Test.YtnjkagopmfenkaaGreatFold23
import Derived.Test.YtnjkagopmfenkaaGreatFold22
import Derived.Test.YtnjkagopmfenkaaGreatFold12
import Derived.Test.YtnjkagopmfenkaaGreatKIr14
import Derived.Test.YtnjkagopmfenkaaGreatSk7
import Derived.Stop.BytesEq
namespace Go.Proofs.YtnjkagopmfenkaaGreat
open Go Go.RowKit Go.Shelf
set_option linter.unusedVariables false
set_option linter.unusedSimpArgs false


set_option maxHeartbeats 4000000 in
set_option maxRecDepth 100000 in
theorem RTells_calls (c : List Value) (off : Int) (no : Nat) (mf : Bool) (proto : Int) (vb : Value) (body : List Int) (w : World) (h : TIn w c off no mf proto vb body) :
    Calls Tryz.prog 20 #[.agg c.toArray] w (TOut (V4.chk off no body.length) off proto mf body w) := by
  obtain ⟨W0, hW0⟩ : ∃ W0, w.alloc (.cells c.toArray 27) = W0 := ⟨_, rfl⟩
  obtain ⟨W1, hW1⟩ : ∃ W1, W0.alloc (.cells [.int .u8 0, .int .u8 0, .int .u8 0, .int .u8 0, .int .u8 0, .int .u8 0, .int .u8 0, .int .u8 0].toArray 59) = W1 := ⟨_, rfl⟩
  have b0 := blk_new w (.cells c.toArray 27)
  have hB0 := (Below.refl w.heap.size w).alloc (Nat.le_refl _) (.cells c.toArray 27)
  rw [hW0] at b0 hB0
  have b1 := blk_new W0 (.cells [.int .u8 0, .int .u8 0, .int .u8 0, .int .u8 0, .int .u8 0, .int .u8 0, .int .u8 0, .int .u8 0].toArray 59)
  have hB1 := (Below.refl W0.heap.size W0).alloc (Nat.le_refl _) (.cells [.int .u8 0, .int .u8 0, .int .u8 0, .int .u8 0, .int .u8 0, .int .u8 0, .int .u8 0, .int .u8 0].toArray 59)
  have b01 := blk_alloc b0 (.cells [.int .u8 0, .int .u8 0, .int .u8 0, .int .u8 0, .int .u8 0, .int .u8 0, .int .u8 0, .int .u8 0].toArray 59)
  rw [hW1] at b1 hB1 b01
  have hle := hB0.size
  have hlt1 : W0.heap.size < W1.heap.size := (Array.getElem?_eq_some_iff.1 b1).1
  have hX1 := hB0.trans (hB1.mono hle)
  have hlen : c.length = 17 := h.lens.len
  have HL : Hid (∀ W, Below W1.heap.size W1 W → (Instr.loadAt 27 (.pointer (some ⟨w.heap.size, 0, none⟩))).run Tryz.prog W = .ok (.agg c.toArray) W) := fun W hW => agg_load Tryz.isAgg27 Tryz.sizeOf27 hlen (CellsAt.of_blk (blk_on b01 hW))
  have HC : Hid (∀ W, Below W1.heap.size W1 W → W.cell? ⟨w.heap.size, 3, none⟩ = some (.bool mf) ∧ W.cell? ⟨w.heap.size, 4, none⟩ = some (.int .i64 off) ∧ W.cell? ⟨w.heap.size, 6, none⟩ = some (.int .u8 proto) ∧ W.cell? ⟨w.heap.size, 16, none⟩ = some vb) := fun W hW => ⟨blk_cell (blk_on b01 hW) h.c3, blk_cell (blk_on b01 hW) h.lens.h4, blk_cell (blk_on b01 hW) h.c6, blk_cell (blk_on b01 hW) h.c16⟩
  have HCK : Hid (∀ W, Calls Tryz.prog 31 #[.agg c.toArray] W fun e w' => e = .returned (.int .i64 (V4.chk off no body.length)) ∧ Below W.heap.size W w') := fun W => V4.RCheck_calls c off no body.length W h.lens
  have HFR : Hid (∀ W, Calls Tryz.prog 58 #[.agg c.toArray] W fun e w' => e = .returned (.bool (mf || decide (0 < off))) ∧ Below W.heap.size W w') := fun W => fragment_calls c mf off W h.c3 h.lens.h4
  have HP : Hid (∀ W, Below w.heap.size w W → Calls Tryz.prog 27 #[vb] W (Icm.ParI Icm.phN body W)) := fun W hW => Icm.RParse4_any vb body W (h.row.on hW)
  have HST : Hid (∀ W, Below W1.heap.size W1 W → ∀ V : List Int, V.length = 8 → ∃ w', (Instr.storeAt 59 (.pointer (some ⟨W0.heap.size, 0, none⟩)) (.agg (u8L V).toArray)).run Tryz.prog W = .ok () w' ∧ w'.heap[W0.heap.size]? = some (.cells (u8L V).toArray 59) ∧ Below w.heap.size w w') := fun W hW V hV => by
    obtain ⟨w', k1, k2, k3⟩ := box_store Tryz.sizeOf59 (blk_on b1 hW) (by rfl) (u8L V) (by simp [u8L, hV]) (by intro v hv; obtain ⟨z, _, rfl⟩ := List.mem_map.1 hv; rfl)
    exact ⟨w', k1, k2, (hX1.trans (hW.mono hX1.size)).trans (k3.below (by omega))⟩
  have hx1 : Hid (Below w.heap.size w W1) := hX1
  obtain ⟨avb, cvb, rfl, _⟩ := h.row.val
  have hbo : Hid _ := h.lens.bo
  clear h b0 hB0 b1 hB1 b01 hle hlt1 hX1 hlen
  generalize hck : V4.chk off no body.length = ck at *
  have HCKE : Hid _ := hck
  clear hck
  have hy0 : Below W1.heap.size W1 W1 := Below.refl _ _
  generalize hmm : mT body = m at *
  have HM : Hid _ := hmm
  clear hmm
  go_enter Tryz.func20, Tryz.ntmps20
  go_wp2_with ((with_reducible show wpList _ _ _ ({ dst := _, op := Op.load 27 (Operand.tmp 1), type := _, pos := _, after := _, guard := _ } :: _) _ _); refine arm_load rfl (.tmp 1) 27 rfl rfl (HL.out _ hy0) ?_)
  refine Calls.mono (HCK.out _) ?_
  rintro _ w2 ⟨rfl, hb2⟩
  have hy2 := hy0.trans (hb2.mono hy0.size)
  clear hb2 HCK hy0
  by_cases hk : ck = 0
  rotate_left
  · have q0 : (ck != 0) = true := by simpa using hk
    obtain ⟨w3, st3, b3, x3⟩ := HST.out w2 hy2 z8 rfl
    have HS : Hid _ := st3
    have B3 : Hid _ := b3
    have X3 : Hid _ := x3
    have HF : Hid (telB ck off proto mf body = false) := by
      have : telB ck off proto mf body = false := by simp [telB, hk]
      exact this
    clear hk st3 b3 x3 HST HL HC HP HFR
    go_wp2_with ((with_reducible show wpList _ _ _ ({ dst := _, op := Op.store 59 (Operand.tmp 2) (Operand.tmp 15), type := _, pos := _, after := _, guard := _ } :: _) _ _); refine arm_store rfl (.tmp 2) (.tmp 15) 59 rfl rfl rfl HS.out ?_)
    exact bodyPost_ret (res3t rfl rfl (agg_loadVar Tryz.isAgg59 Tryz.sizeOf59 rfl (CellsAt.of_blk B3.out))) rfl (.no HF.out rfl rfl X3.out)
  subst hk
  have hy3 := hy2
  obtain ⟨k3, k4, k6, k16⟩ := HC.out w2 hy2
  by_cases hg : 0 < off
  · have q1 : decide (0 < off) = true := by simpa using hg
    obtain ⟨wz, stz, bz, xz⟩ := HST.out w2 hy2 z8 rfl
    have HS : Hid _ := stz
    have BZ : Hid _ := bz
    have XZ : Hid _ := xz
    have HF : Hid (telB 0 off proto mf body = false) := by
      have : telB 0 off proto mf body = false := by simp [telB, hg]
      exact this
    clear stz bz xz 
    go_wp2_with first
      | ((with_reducible show wpList _ _ _ ({ dst := _, op := Op.store 59 (Operand.tmp 2) (Operand.tmp 29), type := _, pos := _, after := _, guard := _ } :: _) _ _); refine arm_store rfl (.tmp 2) (.tmp 29) 59 rfl rfl rfl HS.out ?_)
    exact bodyPost_ret (res3t rfl rfl (agg_loadVar Tryz.isAgg59 Tryz.sizeOf59 rfl (CellsAt.of_blk BZ.out))) rfl (.no HF.out rfl rfl XZ.out)
  have q1 : decide (0 < off) = false := by simpa using hg
  cases mf
  rotate_left
  · skip
    obtain ⟨wz, stz, bz, xz⟩ := HST.out w2 hy2 z8 rfl
    have HS : Hid _ := stz
    have BZ : Hid _ := bz
    have XZ : Hid _ := xz
    have HF : Hid (telB 0 off proto true body = false) := by
      have : telB 0 off proto true body = false := by simp [telB]
      exact this
    clear stz bz xz 
    go_wp2_with first
      | ((with_reducible show wpList _ _ _ ({ dst := _, op := Op.store 59 (Operand.tmp 2) (Operand.tmp 29), type := _, pos := _, after := _, guard := _ } :: _) _ _); refine arm_store rfl (.tmp 2) (.tmp 29) 59 rfl rfl rfl HS.out ?_)
    exact bodyPost_ret (res3t rfl rfl (agg_loadVar Tryz.isAgg59 Tryz.sizeOf59 rfl (CellsAt.of_blk BZ.out))) rfl (.no HF.out rfl rfl XZ.out)
  by_cases hp : proto = 1
  rotate_left
  · have q2 : (proto != 1) = true := by simpa using hp
    obtain ⟨wz, stz, bz, xz⟩ := HST.out w2 hy2 z8 rfl
    have HS : Hid _ := stz
    have BZ : Hid _ := bz
    have XZ : Hid _ := xz
    have HF : Hid (telB 0 off proto false body = false) := by
      have : telB 0 off proto false body = false := by simp [telB, hp]
      exact this
    clear stz bz xz hp
    go_wp2_with first
      | ((with_reducible show wpList _ _ _ ({ dst := _, op := Op.store 59 (Operand.tmp 2) (Operand.tmp 29), type := _, pos := _, after := _, guard := _ } :: _) _ _); refine arm_store rfl (.tmp 2) (.tmp 29) 59 rfl rfl rfl HS.out ?_)
    exact bodyPost_ret (res3t rfl rfl (agg_loadVar Tryz.isAgg59 Tryz.sizeOf59 rfl (CellsAt.of_blk BZ.out))) rfl (.no HF.out rfl rfl XZ.out)
  subst hp
  have hf : (false || decide (0 < off)) = false := by rw [q1]; rfl
  go_wp2_with fail
  refine Calls.mono (HP.out _ (hx1.out.trans (hy2.mono hx1.out.size))) ?_
  rintro _ w4 ⟨cm, rfl, hm, hb4⟩
  have hy4 := hy2.trans (hb4.mono hy2.size)
  obtain ⟨w5, st5, b5, hb5⟩ := box_new Tryz.sizeOf46 w4 [.int .u8 0, .int .u8 0, .int .u32 0, .slice none 0 0] rfl cm hm.1.len hm.1.one
  have hy5 := hy4.trans (hb5.mono hy4.size)
  have HS5 : Hid _ := st5
  have hlen4 : cm.length = 4 := hm.1.len
  have HLM : Hid (∀ W, Below w5.heap.size w5 W → (Instr.loadAt 46 (.pointer (some ⟨w4.heap.size, 0, none⟩))).run Tryz.prog W = .ok (.agg cm.toArray) W) := fun W hW => agg_load Tryz.isAgg46 Tryz.sizeOf46 hlen4 (CellsAt.of_blk (blk_on b5 hW))
  have hmn := hm.1.on hb5
  obtain ⟨vm, hvm, hnew⟩ := hm.2
  have HMN : Hid _ := hmn
  have hmb : BytesAt w5.heap.size w5 vm (mT body).body := by
    obtain ⟨vm', h1, h2⟩ := hmn.val
    rw [hvm] at h1
    simp only [List.cons.injEq, and_true, true_and] at h1
    rw [h1]
    exact h2
  have hrow : RowC w5 vm (mT body).body := hnew.rowC hmb
  have HROW : Hid _ := hrow
  have HCM : Hid (∀ W, Below w5.heap.size w5 W → W.cell? ⟨w4.heap.size, 0, none⟩ = some (.int .u8 (mT body).ty) ∧ W.cell? ⟨w4.heap.size, 3, none⟩ = some vm) := fun W hW => ⟨blk_cell (blk_on b5 hW) (by rw [hvm]; rfl), blk_cell (blk_on b5 hW) (by rw [hvm]; rfl)⟩
  have hz5 : Below w5.heap.size w5 w5 := Below.refl _ _
  obtain ⟨km0, km3⟩ := HCM.out w5 hz5
  obtain ⟨avm, cvm, rfl, _⟩ := hrow.val
  clear st5 b5 hb5 hb4 hm hvm hnew hmn hlen4 hmb hrow k3 k4 k6 k16 HP HFR
  have hgt : Hid (∀ b : Bool, b = b) := fun _ => rfl
  generalize hty : (mT body).ty = ty at *
  generalize hpe : Icm.pE Icm.phN body = pe at *
  by_cases hp0 : pe = 0
  rotate_left
  · have q0 : (pe != 0) = true := by simpa using hp0
    obtain ⟨wz, stz, bz, xz⟩ := HST.out w5 hy5 z8 rfl
    have HS : Hid _ := stz
    have BZ : Hid _ := bz
    have XZ : Hid _ := xz
    have HF : Hid (telB 0 off 1 false body = false) := by
      have : telB 0 off 1 false body = false := by simp [telB, hpe, hp0]
      exact this
    clear stz bz xz hty hp0 hpe HMN HROW HCM HLM
    go_wp2_with first
      | ((with_reducible show wpList _ _ _ ({ dst := _, op := Op.store 46 (Operand.tmp 6) (Operand.tmp 34), type := _, pos := _, after := _, guard := _ } :: _) _ _); refine arm_store rfl (.tmp 6) (.tmp 34) 46 rfl rfl rfl HS5.out ?_)
      | ((with_reducible show wpList _ _ _ ({ dst := _, op := Op.store 59 (Operand.tmp 2) (Operand.tmp 53), type := _, pos := _, after := _, guard := _ } :: _) _ _); refine arm_store rfl (.tmp 2) (.tmp 53) 59 rfl rfl rfl HS.out ?_)
    exact bodyPost_ret (res3t rfl rfl (agg_loadVar Tryz.isAgg59 Tryz.sizeOf59 rfl (CellsAt.of_blk BZ.out))) rfl (.no HF.out rfl rfl XZ.out)
  subst hp0
  by_cases her : errT ty = true
  rotate_left
  · have q1 : (ty != 3) = true := by
      have := her
      simp [errT] at this
      simpa using this.1.1
    have q2 : (ty != 11) = true := by
      have := her
      simp [errT] at this
      simpa using this.1.2
    have q3 : (ty != 12) = true := by
      have := her
      simp [errT] at this
      simpa using this.2
    have her' : errT ty = false := by simpa using her
    obtain ⟨wz, stz, bz, xz⟩ := HST.out w5 hy5 z8 rfl
    have HS : Hid _ := stz
    have BZ : Hid _ := bz
    have XZ : Hid _ := xz
    have HF : Hid (telB 0 off 1 false body = false) := by
      have : telB 0 off 1 false body = false := by simp [telB, hty, her']
      exact this
    clear stz bz xz her her' hty HMN HROW HCM HLM
    go_wp2_with first
      | ((with_reducible show wpList _ _ _ ({ dst := _, op := Op.store 46 (Operand.tmp 6) (Operand.tmp 34), type := _, pos := _, after := _, guard := _ } :: _) _ _); refine arm_store rfl (.tmp 6) (.tmp 34) 46 rfl rfl rfl HS5.out ?_)
      | ((with_reducible show wpList _ _ _ ({ dst := _, op := Op.store 59 (Operand.tmp 2) (Operand.tmp 53), type := _, pos := _, after := _, guard := _ } :: _) _ _); refine arm_store rfl (.tmp 2) (.tmp 53) 59 rfl rfl rfl HS.out ?_)
    exact bodyPost_ret (res3t rfl rfl (agg_loadVar Tryz.isAgg59 Tryz.sizeOf59 rfl (CellsAt.of_blk BZ.out))) rfl (.no HF.out rfl rfl XZ.out)
  rcases (by simpa [errT, or_assoc] using her : ty = 3 ∨ ty = 11 ∨ ty = 12) with he3 | he3 | he3
  · skip
    have q1 : (ty != 3) = false := by rw [he3]; rfl
    have q2 : (ty != 11) = true := by rw [he3]; rfl
    have q3 : (ty != 12) = true := by rw [he3]; rfl
    have HPT := V4.RPart_any (HROW.out.on hz5)
    unfold V4.RReads at HPT
    have HPART : Hid _ := HPT
    clear HPT
    go_wp2_with first
      | ((with_reducible show wpList _ _ _ ({ dst := _, op := Op.store 46 (Operand.tmp 6) (Operand.tmp 34), type := _, pos := _, after := _, guard := _ } :: _) _ _); refine arm_store rfl (.tmp 6) (.tmp 34) 46 rfl rfl rfl HS5.out ?_)
    refine Calls.mono HPART.out ?_
    rintro _ w7 ⟨c7, rfl, hd7, ha7, hb7⟩
    have hy7 := hy5.trans (hb7.mono hy5.size)
    obtain ⟨w8, st8, b8, hb8⟩ := box_new Tryz.sizeOf27 w7 V4.zeroC rfl c7 hd7.len.1 hd7.len.2
    have hy8 := hy7.trans (hb8.mono hy7.size)
    have HS8 : Hid _ := st8
    have B8 : Hid _ := b8
    have HPD : Hid _ := hd7.on hb8
    clear st8 b8 hb8 hd7 ha7 hb7 hy7 HPART HROW HCM HLM HMN km0 km3 hy5 hz5
    have hpz := pErr_zero (zs := (mT body).body) (part := true)
    generalize hper : V4.pErr (mT body).body true = per at *
    obtain ⟨pa, pr⟩ := per
    dsimp only at hpz ⊢
    by_cases hq : pr = 0
    rotate_left
    · have q9 : (pr != 0) = true := by simpa using hq
      obtain ⟨wz, stz, bz, xz⟩ := HST.out w8 hy8 z8 rfl
      have HS : Hid _ := stz
      have BZ : Hid _ := bz
      have XZ : Hid _ := xz
      have HF : Hid (telB 0 off 1 false body = false) := by
        have : telB 0 off 1 false body = false := by simp [telB, hper, hq]
        exact this
      clear stz bz xz hq hpz hper HPD B8
      go_wp2_with first
        | ((with_reducible show wpList _ _ _ ({ dst := _, op := Op.store 27 (Operand.tmp 8) (Operand.tmp 58), type := _, pos := _, after := _, guard := _ } :: _) _ _); refine arm_store rfl (.tmp 8) (.tmp 58) 27 rfl rfl rfl HS8.out ?_)
        | ((with_reducible show wpList _ _ _ ({ dst := _, op := Op.store 59 (Operand.tmp 2) (Operand.tmp 63), type := _, pos := _, after := _, guard := _ } :: _) _ _); refine arm_store rfl (.tmp 2) (.tmp 63) 59 rfl rfl rfl HS.out ?_)
      exact bodyPost_ret (res3t rfl rfl (agg_loadVar Tryz.isAgg59 Tryz.sizeOf59 rfl (CellsAt.of_blk BZ.out))) rfl (.no HF.out rfl rfl XZ.out)
    obtain ⟨rfl, rfl⟩ : pa = 0 ∧ pr = 0 := by simpa using hpz hq
    have hsy := HPD.out
    unfold V4.ParD at hsy
    first | rw [if_pos hper] at hsy | rw [if_pos rfl] at hsy
    unfold V4.SaysD at hsy
    obtain ⟨so, sb, hcc, _, _⟩ := hsy.cells
    have hc7 := hcc.eq
    have t7 : w8.cell? ⟨w7.heap.size, 7, none⟩ = some (.int .u8 (gz (mT body).body 12)) := blk_cell B8.out (by rw [hc7]; rfl)
    have t8 : w8.cell? ⟨w7.heap.size, 8, none⟩ = some (.int .u8 (gz (mT body).body 13)) := blk_cell B8.out (by rw [hc7]; rfl)
    have t9 : w8.cell? ⟨w7.heap.size, 9, none⟩ = some (.int .u8 (gz (mT body).body 14)) := blk_cell B8.out (by rw [hc7]; rfl)
    have t10 : w8.cell? ⟨w7.heap.size, 10, none⟩ = some (.int .u8 (gz (mT body).body 15)) := blk_cell B8.out (by rw [hc7]; rfl)
    have t11 : w8.cell? ⟨w7.heap.size, 11, none⟩ = some (.int .u8 (gz (mT body).body 16)) := blk_cell B8.out (by rw [hc7]; rfl)
    have t12 : w8.cell? ⟨w7.heap.size, 12, none⟩ = some (.int .u8 (gz (mT body).body 17)) := blk_cell B8.out (by rw [hc7]; rfl)
    have t13 : w8.cell? ⟨w7.heap.size, 13, none⟩ = some (.int .u8 (gz (mT body).body 18)) := blk_cell B8.out (by rw [hc7]; rfl)
    have t14 : w8.cell? ⟨w7.heap.size, 14, none⟩ = some (.int .u8 (gz (mT body).body 19)) := blk_cell B8.out (by rw [hc7]; rfl)
    have hTB : telB 0 off 1 false body = true := by
      simp [telB, hpe, hty, her, hper, hf]
    have hTV : telV 0 off 1 false body = [gz (mT body).body 12, gz (mT body).body 13, gz (mT body).body 14, gz (mT body).body 15, gz (mT body).body 16, gz (mT body).body 17, gz (mT body).body 18, gz (mT body).body 19] := by
      unfold telV
      rw [if_pos hTB]
    have HTB : Hid _ := hTB
    have HTV : Hid _ := hTV
    obtain ⟨wz, stz, bz, xz⟩ := HST.out w8 hy8 [gz (mT body).body 12, gz (mT body).body 13, gz (mT body).body 14, gz (mT body).body 15, gz (mT body).body 16, gz (mT body).body 17, gz (mT body).body 18, gz (mT body).body 19] rfl
    have HS : Hid _ := stz
    have BZ : Hid _ := bz
    have XZ : Hid _ := xz
    clear stz bz xz hTB hTV hc7 hcc hsy hpz hper HPD B8 hq
    generalize (mT body).body = mb at *
    go_wp2_with first
      | ((with_reducible show wpList _ _ _ ({ dst := _, op := Op.store 27 (Operand.tmp 8) (Operand.tmp 58), type := _, pos := _, after := _, guard := _ } :: _) _ _); refine arm_store rfl (.tmp 8) (.tmp 58) 27 rfl rfl rfl HS8.out ?_)
      | ((with_reducible show wpList _ _ _ ({ dst := _, op := Op.store 59 (Operand.tmp 2) (Operand.tmp 68), type := _, pos := _, after := _, guard := _ } :: _) _ _); refine arm_store rfl (.tmp 2) (.tmp 68) 59 rfl rfl rfl HS.out ?_)
    refine bodyPost_ret (res3t rfl rfl (agg_loadVar Tryz.isAgg59 Tryz.sizeOf59 rfl (CellsAt.of_blk BZ.out))) rfl ?_
    exact ⟨by rw [HTB.out, HTV.out]; rfl, XZ.out⟩
  · skip
    have q1 : (ty != 3) = true := by rw [he3]; rfl
    have q2 : (ty != 11) = false := by rw [he3]; rfl
    have q3 : (ty != 12) = true := by rw [he3]; rfl
    have HPT := V4.RPart_any (HROW.out.on hz5)
    unfold V4.RReads at HPT
    have HPART : Hid _ := HPT
    clear HPT
    go_wp2_with first
      | ((with_reducible show wpList _ _ _ ({ dst := _, op := Op.store 46 (Operand.tmp 6) (Operand.tmp 34), type := _, pos := _, after := _, guard := _ } :: _) _ _); refine arm_store rfl (.tmp 6) (.tmp 34) 46 rfl rfl rfl HS5.out ?_)
    refine Calls.mono HPART.out ?_
    rintro _ w7 ⟨c7, rfl, hd7, ha7, hb7⟩
    have hy7 := hy5.trans (hb7.mono hy5.size)
    obtain ⟨w8, st8, b8, hb8⟩ := box_new Tryz.sizeOf27 w7 V4.zeroC rfl c7 hd7.len.1 hd7.len.2
    have hy8 := hy7.trans (hb8.mono hy7.size)
    have HS8 : Hid _ := st8
    have B8 : Hid _ := b8
    have HPD : Hid _ := hd7.on hb8
    clear st8 b8 hb8 hd7 ha7 hb7 hy7 HPART HROW HCM HLM HMN km0 km3 hy5 hz5
    have hpz := pErr_zero (zs := (mT body).body) (part := true)
    generalize hper : V4.pErr (mT body).body true = per at *
    obtain ⟨pa, pr⟩ := per
    dsimp only at hpz ⊢
    by_cases hq : pr = 0
    rotate_left
    · have q9 : (pr != 0) = true := by simpa using hq
      obtain ⟨wz, stz, bz, xz⟩ := HST.out w8 hy8 z8 rfl
      have HS : Hid _ := stz
      have BZ : Hid _ := bz
      have XZ : Hid _ := xz
      have HF : Hid (telB 0 off 1 false body = false) := by
        have : telB 0 off 1 false body = false := by simp [telB, hper, hq]
        exact this
      clear stz bz xz hq hpz hper HPD B8
      go_wp2_with first
        | ((with_reducible show wpList _ _ _ ({ dst := _, op := Op.store 27 (Operand.tmp 8) (Operand.tmp 58), type := _, pos := _, after := _, guard := _ } :: _) _ _); refine arm_store rfl (.tmp 8) (.tmp 58) 27 rfl rfl rfl HS8.out ?_)
        | ((with_reducible show wpList _ _ _ ({ dst := _, op := Op.store 59 (Operand.tmp 2) (Operand.tmp 63), type := _, pos := _, after := _, guard := _ } :: _) _ _); refine arm_store rfl (.tmp 2) (.tmp 63) 59 rfl rfl rfl HS.out ?_)
      exact bodyPost_ret (res3t rfl rfl (agg_loadVar Tryz.isAgg59 Tryz.sizeOf59 rfl (CellsAt.of_blk BZ.out))) rfl (.no HF.out rfl rfl XZ.out)
    obtain ⟨rfl, rfl⟩ : pa = 0 ∧ pr = 0 := by simpa using hpz hq
    have hsy := HPD.out
    unfold V4.ParD at hsy
    first | rw [if_pos hper] at hsy | rw [if_pos rfl] at hsy
    unfold V4.SaysD at hsy
    obtain ⟨so, sb, hcc, _, _⟩ := hsy.cells
    have hc7 := hcc.eq
    have t7 : w8.cell? ⟨w7.heap.size, 7, none⟩ = some (.int .u8 (gz (mT body).body 12)) := blk_cell B8.out (by rw [hc7]; rfl)
    have t8 : w8.cell? ⟨w7.heap.size, 8, none⟩ = some (.int .u8 (gz (mT body).body 13)) := blk_cell B8.out (by rw [hc7]; rfl)
    have t9 : w8.cell? ⟨w7.heap.size, 9, none⟩ = some (.int .u8 (gz (mT body).body 14)) := blk_cell B8.out (by rw [hc7]; rfl)
    have t10 : w8.cell? ⟨w7.heap.size, 10, none⟩ = some (.int .u8 (gz (mT body).body 15)) := blk_cell B8.out (by rw [hc7]; rfl)
    have t11 : w8.cell? ⟨w7.heap.size, 11, none⟩ = some (.int .u8 (gz (mT body).body 16)) := blk_cell B8.out (by rw [hc7]; rfl)
    have t12 : w8.cell? ⟨w7.heap.size, 12, none⟩ = some (.int .u8 (gz (mT body).body 17)) := blk_cell B8.out (by rw [hc7]; rfl)
    have t13 : w8.cell? ⟨w7.heap.size, 13, none⟩ = some (.int .u8 (gz (mT body).body 18)) := blk_cell B8.out (by rw [hc7]; rfl)
    have t14 : w8.cell? ⟨w7.heap.size, 14, none⟩ = some (.int .u8 (gz (mT body).body 19)) := blk_cell B8.out (by rw [hc7]; rfl)
    have hTB : telB 0 off 1 false body = true := by
      simp [telB, hpe, hty, her, hper, hf]
    have hTV : telV 0 off 1 false body = [gz (mT body).body 12, gz (mT body).body 13, gz (mT body).body 14, gz (mT body).body 15, gz (mT body).body 16, gz (mT body).body 17, gz (mT body).body 18, gz (mT body).body 19] := by
      unfold telV
      rw [if_pos hTB]
    have HTB : Hid _ := hTB
    have HTV : Hid _ := hTV
    obtain ⟨wz, stz, bz, xz⟩ := HST.out w8 hy8 [gz (mT body).body 12, gz (mT body).body 13, gz (mT body).body 14, gz (mT body).body 15, gz (mT body).body 16, gz (mT body).body 17, gz (mT body).body 18, gz (mT body).body 19] rfl
    have HS : Hid _ := stz
    have BZ : Hid _ := bz
    have XZ : Hid _ := xz
    clear stz bz xz hTB hTV hc7 hcc hsy hpz hper HPD B8 hq
    generalize (mT body).body = mb at *
    go_wp2_with first
      | ((with_reducible show wpList _ _ _ ({ dst := _, op := Op.store 27 (Operand.tmp 8) (Operand.tmp 58), type := _, pos := _, after := _, guard := _ } :: _) _ _); refine arm_store rfl (.tmp 8) (.tmp 58) 27 rfl rfl rfl HS8.out ?_)
      | ((with_reducible show wpList _ _ _ ({ dst := _, op := Op.store 59 (Operand.tmp 2) (Operand.tmp 68), type := _, pos := _, after := _, guard := _ } :: _) _ _); refine arm_store rfl (.tmp 2) (.tmp 68) 59 rfl rfl rfl HS.out ?_)
    refine bodyPost_ret (res3t rfl rfl (agg_loadVar Tryz.isAgg59 Tryz.sizeOf59 rfl (CellsAt.of_blk BZ.out))) rfl ?_
    exact ⟨by rw [HTB.out, HTV.out]; rfl, XZ.out⟩
  · skip
    have q1 : (ty != 3) = true := by rw [he3]; rfl
    have q2 : (ty != 11) = true := by rw [he3]; rfl
    have q3 : (ty != 12) = false := by rw [he3]; rfl
    have HPT := V4.RPart_any (HROW.out.on hz5)
    unfold V4.RReads at HPT
    have HPART : Hid _ := HPT
    clear HPT
    go_wp2_with first
      | ((with_reducible show wpList _ _ _ ({ dst := _, op := Op.store 46 (Operand.tmp 6) (Operand.tmp 34), type := _, pos := _, after := _, guard := _ } :: _) _ _); refine arm_store rfl (.tmp 6) (.tmp 34) 46 rfl rfl rfl HS5.out ?_)
    refine Calls.mono HPART.out ?_
    rintro _ w7 ⟨c7, rfl, hd7, ha7, hb7⟩
    have hy7 := hy5.trans (hb7.mono hy5.size)
    obtain ⟨w8, st8, b8, hb8⟩ := box_new Tryz.sizeOf27 w7 V4.zeroC rfl c7 hd7.len.1 hd7.len.2
    have hy8 := hy7.trans (hb8.mono hy7.size)
    have HS8 : Hid _ := st8
    have B8 : Hid _ := b8
    have HPD : Hid _ := hd7.on hb8
    clear st8 b8 hb8 hd7 ha7 hb7 hy7 HPART HROW HCM HLM HMN km0 km3 hy5 hz5
    have hpz := pErr_zero (zs := (mT body).body) (part := true)
    generalize hper : V4.pErr (mT body).body true = per at *
    obtain ⟨pa, pr⟩ := per
    dsimp only at hpz ⊢
    by_cases hq : pr = 0
    rotate_left
    · have q9 : (pr != 0) = true := by simpa using hq
      obtain ⟨wz, stz, bz, xz⟩ := HST.out w8 hy8 z8 rfl
      have HS : Hid _ := stz
      have BZ : Hid _ := bz
      have XZ : Hid _ := xz
      have HF : Hid (telB 0 off 1 false body = false) := by
        have : telB 0 off 1 false body = false := by simp [telB, hper, hq]
        exact this
      clear stz bz xz hq hpz hper HPD B8
      go_wp2_with first
        | ((with_reducible show wpList _ _ _ ({ dst := _, op := Op.store 27 (Operand.tmp 8) (Operand.tmp 58), type := _, pos := _, after := _, guard := _ } :: _) _ _); refine arm_store rfl (.tmp 8) (.tmp 58) 27 rfl rfl rfl HS8.out ?_)
        | ((with_reducible show wpList _ _ _ ({ dst := _, op := Op.store 59 (Operand.tmp 2) (Operand.tmp 63), type := _, pos := _, after := _, guard := _ } :: _) _ _); refine arm_store rfl (.tmp 2) (.tmp 63) 59 rfl rfl rfl HS.out ?_)
      exact bodyPost_ret (res3t rfl rfl (agg_loadVar Tryz.isAgg59 Tryz.sizeOf59 rfl (CellsAt.of_blk BZ.out))) rfl (.no HF.out rfl rfl XZ.out)
    obtain ⟨rfl, rfl⟩ : pa = 0 ∧ pr = 0 := by simpa using hpz hq
    have hsy := HPD.out
    unfold V4.ParD at hsy
    first | rw [if_pos hper] at hsy | rw [if_pos rfl] at hsy
    unfold V4.SaysD at hsy
    obtain ⟨so, sb, hcc, _, _⟩ := hsy.cells
    have hc7 := hcc.eq
    have t7 : w8.cell? ⟨w7.heap.size, 7, none⟩ = some (.int .u8 (gz (mT body).body 12)) := blk_cell B8.out (by rw [hc7]; rfl)
    have t8 : w8.cell? ⟨w7.heap.size, 8, none⟩ = some (.int .u8 (gz (mT body).body 13)) := blk_cell B8.out (by rw [hc7]; rfl)
    have t9 : w8.cell? ⟨w7.heap.size, 9, none⟩ = some (.int .u8 (gz (mT body).body 14)) := blk_cell B8.out (by rw [hc7]; rfl)
    have t10 : w8.cell? ⟨w7.heap.size, 10, none⟩ = some (.int .u8 (gz (mT body).body 15)) := blk_cell B8.out (by rw [hc7]; rfl)
    have t11 : w8.cell? ⟨w7.heap.size, 11, none⟩ = some (.int .u8 (gz (mT body).body 16)) := blk_cell B8.out (by rw [hc7]; rfl)
    have t12 : w8.cell? ⟨w7.heap.size, 12, none⟩ = some (.int .u8 (gz (mT body).body 17)) := blk_cell B8.out (by rw [hc7]; rfl)
    have t13 : w8.cell? ⟨w7.heap.size, 13, none⟩ = some (.int .u8 (gz (mT body).body 18)) := blk_cell B8.out (by rw [hc7]; rfl)
    have t14 : w8.cell? ⟨w7.heap.size, 14, none⟩ = some (.int .u8 (gz (mT body).body 19)) := blk_cell B8.out (by rw [hc7]; rfl)
    have hTB : telB 0 off 1 false body = true := by
      simp [telB, hpe, hty, her, hper, hf]
    have hTV : telV 0 off 1 false body = [gz (mT body).body 12, gz (mT body).body 13, gz (mT body).body 14, gz (mT body).body 15, gz (mT body).body 16, gz (mT body).body 17, gz (mT body).body 18, gz (mT body).body 19] := by
      unfold telV
      rw [if_pos hTB]
    have HTB : Hid _ := hTB
    have HTV : Hid _ := hTV
    obtain ⟨wz, stz, bz, xz⟩ := HST.out w8 hy8 [gz (mT body).body 12, gz (mT body).body 13, gz (mT body).body 14, gz (mT body).body 15, gz (mT body).body 16, gz (mT body).body 17, gz (mT body).body 18, gz (mT body).body 19] rfl
    have HS : Hid _ := stz
    have BZ : Hid _ := bz
    have XZ : Hid _ := xz
    clear stz bz xz hTB hTV hc7 hcc hsy hpz hper HPD B8 hq
    generalize (mT body).body = mb at *
    go_wp2_with first
      | ((with_reducible show wpList _ _ _ ({ dst := _, op := Op.store 27 (Operand.tmp 8) (Operand.tmp 58), type := _, pos := _, after := _, guard := _ } :: _) _ _); refine arm_store rfl (.tmp 8) (.tmp 58) 27 rfl rfl rfl HS8.out ?_)
      | ((with_reducible show wpList _ _ _ ({ dst := _, op := Op.store 59 (Operand.tmp 2) (Operand.tmp 68), type := _, pos := _, after := _, guard := _ } :: _) _ _); refine arm_store rfl (.tmp 2) (.tmp 68) 59 rfl rfl rfl HS.out ?_)
    refine bodyPost_ret (res3t rfl rfl (agg_loadVar Tryz.isAgg59 Tryz.sizeOf59 rfl (CellsAt.of_blk BZ.out))) rfl ?_
    exact ⟨by rw [HTB.out, HTV.out]; rfl, XZ.out⟩
end Go.Proofs.YtnjkagopmfenkaaGreat

namespace Go.Proofs.YtnjkagopmfenkaaGreat
open Go Go.RowKit Go.Shelf
set_option linter.unusedVariables false
set_option linter.unusedSimpArgs false

theorem eq_arr4s (d : Nat) (zs : List Int) (h : Fit zs) (hl : zs.length = 4) (W : World) :
    (Op.equalIn (d + 2) 24 (.agg (zs.map (fun z => Value.int .u8 z)).toArray) (.agg (zs.map (fun z => Value.int .u8 z)).toArray)).run Tryz.prog W = .ok true W := by
  have := run_equalIn_bytes (P := Tryz.prog) W d 24 5 4 Tryz.underlying24 Tryz.underlying5 (fun w => by simp [go_sem]) (zs.map (fun z => UInt8.ofNat z.toNat)) (zs.map (fun z => UInt8.ofNat z.toNat)) (by simpa using hl) (by simpa using hl)
  rw [bytes_inj zs zs h h, decide_eq_true rfl] at this
  have e1 := cells_back zs h
  rw [← e1]
  exact this
set_option maxHeartbeats 2000000 in
set_option maxRecDepth 100000 in
theorem eqEnds (d : Nat) (a0 a1 a2 a3 a4 a5 a6 a7 : Int) (h : Fit [a0, a1, a2, a3, a4, a5, a6, a7]) (w : World) :
    (Op.equalIn (d + 3) 59 (.agg #[.int .u8 a0, .int .u8 a1, .int .u8 a2, .int .u8 a3, .int .u8 a4, .int .u8 a5, .int .u8 a6, .int .u8 a7]) (.agg #[.int .u8 a0, .int .u8 a1, .int .u8 a2, .int .u8 a3, .int .u8 a4, .int .u8 a5, .int .u8 a6, .int .u8 a7])).run Tryz.prog w = .ok true w := by
  have f1 : Fit [a0, a1, a2, a3] := fun z hz => h z (by simp at hz ⊢; omega)
  have f2 : Fit [a4, a5, a6, a7] := fun z hz => h z (by simp at hz ⊢; omega)
  have h1 : ∀ W, (Op.equalIn (d + 2) 24 (.agg #[.int .u8 a0, .int .u8 a1, .int .u8 a2, .int .u8 a3]) (.agg #[.int .u8 a0, .int .u8 a1, .int .u8 a2, .int .u8 a3])).run Tryz.prog W = .ok true W := fun W => eq_arr4s d _ f1 rfl W
  have h2 : ∀ W, (Op.equalIn (d + 2) 24 (.agg #[.int .u8 a4, .int .u8 a5, .int .u8 a6, .int .u8 a7]) (.agg #[.int .u8 a4, .int .u8 a5, .int .u8 a6, .int .u8 a7])).run Tryz.prog W = .ok true W := fun W => eq_arr4s d _ f2 rfl W
  have p1 : (#[Value.int .u8 a0, .int .u8 a1, .int .u8 a2, .int .u8 a3, .int .u8 a4, .int .u8 a5, .int .u8 a6, .int .u8 a7]).extract 0 4 = #[.int .u8 a0, .int .u8 a1, .int .u8 a2, .int .u8 a3] := rfl
  have p2 : (#[Value.int .u8 a0, .int .u8 a1, .int .u8 a2, .int .u8 a3, .int .u8 a4, .int .u8 a5, .int .u8 a6, .int .u8 a7]).extract 4 8 = #[.int .u8 a4, .int .u8 a5, .int .u8 a6, .int .u8 a7] := rfl
  generalize hx : (#[Value.int .u8 a0, .int .u8 a1, .int .u8 a2, .int .u8 a3, .int .u8 a4, .int .u8 a5, .int .u8 a6, .int .u8 a7]) = x at *
  generalize (#[Value.int .u8 a0, .int .u8 a1, .int .u8 a2, .int .u8 a3]) = y1 at *
  generalize (#[Value.int .u8 a4, .int .u8 a5, .int .u8 a6, .int .u8 a7]) = y2 at *
  have hstd : Tryz.prog.stoodInHeld 59 = false := by kernel_rfl
  show (Op.equalIn ((d + 2) + 1) _ _ _).run Tryz.prog w = _
  rw [Op.equalIn]
  generalize Op.equalIn (d + 2) = E at *
  simp [go_sem, hstd, p1, p2, h1, h2]
theorem eqlEnds (a0 a1 a2 a3 a4 a5 a6 a7 : Int) (h : Fit [a0, a1, a2, a3, a4, a5, a6, a7]) (w : World) : (binOp .eql 59 (.agg #[.int .u8 a0, .int .u8 a1, .int .u8 a2, .int .u8 a3, .int .u8 a4, .int .u8 a5, .int .u8 a6, .int .u8 a7]) (.agg #[.int .u8 a0, .int .u8 a1, .int .u8 a2, .int .u8 a3, .int .u8 a4, .int .u8 a5, .int .u8 a6, .int .u8 a7])).run Tryz.prog w = .ok (.bool true) w := by
  have := eqEnds 9997 a0 a1 a2 a3 a4 a5 a6 a7 h w
  simp only [binOp, Op.equal, Op.maxDepth]
  simp [this]
theorem gdEnds (x y : Operand) (u v : Array Value) (w : World) : (eqGuard .eql 59 x y (.agg u) (.agg v)).run Tryz.prog w = .ok () w := by
  have he : Tryz.prog.eqGuardType Tryz.prog.depth 59 = false := by kernel_rfl
  simp [eqGuard, go_sem, he]
theorem telV_fit (ck off proto : Int) (mf : Bool) (body : List Int) (h : Fit body) : Fit (telV ck off proto mf body) := by
  have hm : Fit (mT body).body := by
    unfold mT Icm.pM
    split
    · exact fun z hz => h z (List.mem_of_mem_drop hz)
    · exact fun z hz => by simp at hz
  unfold telV
  split
  · intro z hz
    simp only [List.mem_cons, List.not_mem_nil, or_false] at hz
    rcases hz with rfl | rfl | rfl | rfl | rfl | rfl | rfl | rfl <;> exact hm.gz _
  · intro z hz
    simp [z8] at hz
    omega
end Go.Proofs.YtnjkagopmfenkaaGreat
