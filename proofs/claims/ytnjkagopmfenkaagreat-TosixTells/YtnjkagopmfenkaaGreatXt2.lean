/-
  Tells of package tosix and of the document, of any datagram.
-/
import Derived.Test.YtnjkagopmfenkaaGreatFold00
import Derived.Test.YtnjkagopmfenkaaGreatFold23
import Derived.Test.YtnjkagopmfenkaaGreatFold22
import Derived.Test.YtnjkagopmfenkaaGreatFold12
import Derived.Test.YtnjkagopmfenkaaGreatKIr14
import Derived.Test.YtnjkagopmfenkaaGreatSk7
namespace Go.Proofs.YtnjkagopmfenkaaGreat
open Go Go.RowKit Go.Shelf
set_option linter.unusedVariables false
set_option linter.unusedSimpArgs false

/-- A datagram, as far as Tells reads it. -/
structure TIn (w : World) (c : List Value) (off : Int) (no : Nat) (mf : Bool) (proto : Int) (vb : Value) (body : List Int) : Prop where
  lens : V4.Lens c off no body.length
  c3 : c[3]? = some (.bool mf)
  c6 : c[6]? = some (.int .u8 proto)
  c16 : c[16]? = some vb
  row : RowC w vb body
theorem TIn.on {w W : World} {c : List Value} {off : Int} {no : Nat} {mf : Bool} {proto : Int} {vb : Value} {body : List Int} (h : TIn w c off no mf proto vb body) (hb : Below w.heap.size w W) : TIn W c off no mf proto vb body := ⟨h.lens, h.c3, h.c6, h.c16, h.row.on hb⟩

def errT (ty : Int) : Bool := decide (ty = 3) || decide (ty = 11) || decide (ty = 12)
def mT (body : List Int) : Icm.Msg := Icm.pM Icm.phN body
/-- Does it tell of a packet? -/
def telB (ck off proto : Int) (mf : Bool) (body : List Int) : Bool :=
  decide (ck = 0) && (decide (proto = 1) && !(mf || decide (0 < off))) && decide (Icm.pE Icm.phN body = 0) && errT (mT body).ty && decide (V4.pErr (mT body).body true = (0, 0))
def z8 : List Int := [0, 0, 0, 0, 0, 0, 0, 0]
def telV (ck off proto : Int) (mf : Bool) (body : List Int) : List Int :=
  if telB ck off proto mf body then [gz (mT body).body 12, gz (mT body).body 13, gz (mT body).body 14, gz (mT body).body 15, gz (mT body).body 16, gz (mT body).body 17, gz (mT body).body 18, gz (mT body).body 19] else z8
def TOut (ck off proto : Int) (mf : Bool) (body : List Int) (w : World) (e : Ending) (w' : World) : Prop :=
  e = .returned (.tuple #[.agg (u8L (telV ck off proto mf body)).toArray, .bool (telB ck off proto mf body), .int .i64 ck]) ∧ Below w.heap.size w w'
theorem TOut.no {ck off proto : Int} {mf : Bool} {body : List Int} {w w' : World} {e : Ending} {k : Int} (h : telB ck off proto mf body = false) (hk : k = ck) (he : e = .returned (.tuple #[.agg (u8L z8).toArray, .bool false, .int .i64 k])) (hb : Below w.heap.size w w') : TOut ck off proto mf body w e w' := by
  refine ⟨?_, hb⟩
  rw [he, hk, h]
  unfold telV
  rw [h]
  rfl

set_option maxHeartbeats 1000000 in
set_option maxRecDepth 100000 in
theorem fragment_calls (c : List Value) (mf : Bool) (off : Int) (w : World) (h3 : c[3]? = some (.bool mf)) (h4 : c[4]? = some (.int .i64 off)) :
    Calls Tryz.prog 58 #[.agg c.toArray] w fun e w' => e = .returned (.bool (mf || decide (0 < off))) ∧ Below w.heap.size w w' := by
  have hB := (Below.refl w.heap.size w).alloc (Nat.le_refl _) (.cells c.toArray 27)
  generalize hx : decide (0 < off) = x
  go_enter Tryz.func58, Tryz.ntmps58
  cases mf
  · go_wp2
    go_ret
    exact ⟨rfl, hB⟩
  · go_wp2
    go_ret
    exact ⟨rfl, hB⟩

set_option maxHeartbeats 1000000 in
set_option maxRecDepth 100000 in
theorem isError_calls {c : List Value} {m : Icm.Msg} (w : World) (h : Icm.MsgC w c m) :
    Calls Tryz.prog 60 #[.agg c.toArray] w fun e w' => e = .returned (.bool (errT m.ty)) ∧ Below w.heap.size w w' := by
  obtain ⟨W0, hW0⟩ : ∃ W0, w.alloc (.cells c.toArray 46) = W0 := ⟨_, rfl⟩
  have b0 := blk_new w (.cells c.toArray 46)
  have hB0 := (Below.refl w.heap.size w).alloc (Nat.le_refl _) (.cells c.toArray 46)
  rw [hW0] at b0 hB0
  have HK : Hid _ := Icm.Kind4_calls W0 (h.on hB0)
  have HL : Hid ((Instr.loadAt 46 (.pointer (some ⟨w.heap.size, 0, none⟩))).run Tryz.prog W0 = .ok (.agg c.toArray) W0) := agg_load Tryz.isAgg46 Tryz.sizeOf46 h.len (CellsAt.of_blk b0)
  have HB : Hid _ := hB0
  have hE : Hid (∀ b : Bool, (decide (Icm.k4 m.ty m.code = 3) || decide (Icm.k4 m.ty m.code = 4) || decide (Icm.k4 m.ty m.code = 5) || decide (Icm.k4 m.ty m.code = 6)) = b → b = errT m.ty) := by
    intro b hb
    rw [← hb]
    unfold errT Icm.k4
    by_cases h8 : m.ty = 8
    · simp [h8]
    · by_cases h00 : m.ty = 0
      · simp [h00]
      · by_cases h3 : m.ty = 3
        · by_cases h4 : m.code = 4 <;> simp [h3, h4]
        · by_cases h11 : m.ty = 11
          · simp [h11]
          · by_cases h12 : m.ty = 12 <;> simp [*]
  clear h b0 hB0
  generalize Icm.k4 m.ty m.code = k at *
  generalize errT m.ty = r at *
  go_enter Tryz.func60, Tryz.ntmps60
  go_wp2_with ((with_reducible show wpList _ _ _ _ _ _); refine arm_load rfl (.tmp 1) 46 rfl rfl HL.out ?_)
  refine Calls.mono HK.out ?_
  rintro _ w2 ⟨rfl, hb2⟩
  have HX : Hid (Below w.heap.size w w2) := HB.out.trans (hb2.mono HB.out.size)
  clear hb2 HK HL HB
  go_wp2
  all_goals (go_ret; refine ⟨congrArg (fun b => Ending.returned (.bool b)) (hE.out _ ?_), HX.out⟩; simp_all)

theorem pErr_zero {zs : List Int} {part : Bool} (h : (V4.pErr zs part).2 = 0) : V4.pErr zs part = (0, 0) := by
  revert h
  unfold V4.pErr
  repeat' split
  all_goals simp
theorem load4 {W : World} {R : Nat} {c : List Value} (hb : W.heap[R]? = some (.cells c.toArray 27)) (k : Nat) {a b d e : Int} (h0 : c[k]? = some (.int .u8 a)) (h1 : c[k + 1]? = some (.int .u8 b)) (h2 : c[k + 2]? = some (.int .u8 d)) (h3 : c[k + 3]? = some (.int .u8 e)) :
    (Instr.loadAt 23 (.pointer (some ⟨R, k, none⟩))).run Tryz.prog W = .ok (.agg #[.int .u8 a, .int .u8 b, .int .u8 d, .int .u8 e]) W := by
  refine agg_load (vs := [.int .u8 a, .int .u8 b, .int .u8 d, .int .u8 e]) Tryz.isAgg23 Tryz.sizeOf23 rfl ?_
  intro j v hj
  match j, hj with
  | 0, hj => simp at hj; subst hj; exact blk_cell hb h0
  | 1, hj => simp at hj; subst hj; exact blk_cell hb h1
  | 2, hj => simp at hj; subst hj; exact blk_cell hb h2
  | 3, hj => simp at hj; subst hj; exact blk_cell hb h3
  | n + 4, hj => simp at hj

set_option maxHeartbeats 4000000 in
set_option maxRecDepth 100000 in
theorem Tells_calls (c : List Value) (off : Int) (no : Nat) (mf : Bool) (proto : Int) (vb : Value) (body : List Int) (w : World) (h : TIn w c off no mf proto vb body) :
    Calls Tryz.prog 19 #[.agg c.toArray] w (TOut (V4.chk off no body.length) off proto mf body w) := by
  obtain ⟨W0, hW0⟩ : ∃ W0, w.alloc (.cells c.toArray 27) = W0 := ⟨_, rfl⟩
  obtain ⟨W1, hW1⟩ : ∃ W1, W0.alloc (.cells [.int .u8 0, .int .u8 0, .int .u8 0, .int .u8 0, .int .u8 0, .int .u8 0, .int .u8 0, .int .u8 0].toArray 59) = W1 := ⟨_, rfl⟩
  have b0 := blk_new w (.cells c.toArray 27)
  have hB0 := (Below.refl w.heap.size w).alloc (Nat.le_refl _) (.cells c.toArray 27)
  rw [hW0] at b0 hB0
  have b1 := blk_new W0 (.cells [.int .u8 0, .int .u8 0, .int .u8 0, .int .u8 0, .int .u8 0, .int .u8 0, .int .u8 0, .int .u8 0].toArray 59)
  have hB1 := (Below.refl W0.heap.size W0).alloc (Nat.le_refl _) (.cells [.int .u8 0, .int .u8 0, .int .u8 0, .int .u8 0, .int .u8 0, .int .u8 0, .int .u8 0, .int .u8 0].toArray 59)
  have b01 := blk_alloc b0 (.cells [.int .u8 0, .int .u8 0, .int .u8 0, .int .u8 0, .int .u8 0, .int .u8 0, .int .u8 0, .int .u8 0].toArray 59)
  rw [hW1] at b1 hB1 b01
  have hle := hB0.size
  have hlt1 : W0.heap.size < W1.heap.size := (Array.getElem?_eq_some_iff.1 b1).1
  have hX1 := hB0.trans (hB1.mono hle)
  have hlen : c.length = 17 := h.lens.len
  have HL : Hid (∀ W, Below W1.heap.size W1 W → (Instr.loadAt 27 (.pointer (some ⟨w.heap.size, 0, none⟩))).run Tryz.prog W = .ok (.agg c.toArray) W) := fun W hW => agg_load Tryz.isAgg27 Tryz.sizeOf27 hlen (CellsAt.of_blk (blk_on b01 hW))
  have HC : Hid (∀ W, Below W1.heap.size W1 W → W.cell? ⟨w.heap.size, 3, none⟩ = some (.bool mf) ∧ W.cell? ⟨w.heap.size, 4, none⟩ = some (.int .i64 off) ∧ W.cell? ⟨w.heap.size, 6, none⟩ = some (.int .u8 proto) ∧ W.cell? ⟨w.heap.size, 16, none⟩ = some vb) := fun W hW => ⟨blk_cell (blk_on b01 hW) h.c3, blk_cell (blk_on b01 hW) h.lens.h4, blk_cell (blk_on b01 hW) h.c6, blk_cell (blk_on b01 hW) h.c16⟩
  have HCK : Hid (∀ W, Calls Tryz.prog 35 #[.agg c.toArray] W fun e w' => e = .returned (.int .i64 (V4.chk off no body.length)) ∧ Below W.heap.size W w') := fun W => V4.Check_calls c off no body.length W h.lens
  have HFR : Hid (∀ W, Calls Tryz.prog 58 #[.agg c.toArray] W fun e w' => e = .returned (.bool (mf || decide (0 < off))) ∧ Below W.heap.size W w') := fun W => fragment_calls c mf off W h.c3 h.lens.h4
  have HP : Hid (∀ W, Below w.heap.size w W → Calls Tryz.prog 59 #[vb] W (Icm.ParI Icm.phN body W)) := fun W hW => Icm.Parse4_any vb body W (h.row.on hW)
  have HST : Hid (∀ W, Below W1.heap.size W1 W → ∀ V : List Int, V.length = 8 → ∃ w', (Instr.storeAt 59 (.pointer (some ⟨W0.heap.size, 0, none⟩)) (.agg (u8L V).toArray)).run Tryz.prog W = .ok () w' ∧ w'.heap[W0.heap.size]? = some (.cells (u8L V).toArray 59) ∧ Below w.heap.size w w') := fun W hW V hV => by
    obtain ⟨w', k1, k2, k3⟩ := box_store Tryz.sizeOf59 (blk_on b1 hW) (by rfl) (u8L V) (by simp [u8L, hV]) (by intro v hv; obtain ⟨z, _, rfl⟩ := List.mem_map.1 hv; rfl)
    exact ⟨w', k1, k2, (hX1.trans (hW.mono hX1.size)).trans (k3.below (by omega))⟩
  have hx1 : Hid (Below w.heap.size w W1) := hX1
  obtain ⟨avb, cvb, rfl, _⟩ := h.row.val
  have hbo : Hid _ := h.lens.bo
  clear h b0 hB0 b1 hB1 b01 hle hlt1 hX1 hlen
  generalize hck : V4.chk off no body.length = ck at *
  have HCKE : Hid _ := hck
  clear hck
  have hy0 : Below W1.heap.size W1 W1 := Below.refl _ _
  generalize hmm : mT body = m at *
  have HM : Hid _ := hmm
  clear hmm
  go_enter Tryz.func19, Tryz.ntmps19
  go_wp2_with ((with_reducible show wpList _ _ _ _ _ _); refine arm_load rfl (.tmp 1) 27 rfl rfl (HL.out _ hy0) ?_)
  refine Calls.mono (HCK.out _) ?_
  rintro _ w2 ⟨rfl, hb2⟩
  have hy2 := hy0.trans (hb2.mono hy0.size)
  clear hb2 HCK hy0
  by_cases hk : ck = 0
  rotate_left
  · have q0 : (ck != 0) = true := by simpa using hk
    obtain ⟨w3, st3, b3, x3⟩ := HST.out w2 hy2 z8 rfl
    have HS : Hid _ := st3
    have B3 : Hid _ := b3
    have X3 : Hid _ := x3
    have HF : Hid (telB ck off proto mf body = false) := by
      have : telB ck off proto mf body = false := by simp [telB, hk]
      exact this
    clear hk st3 b3 x3 HST HL HC HP HFR
    go_wp2_with ((with_reducible show wpList _ _ _ _ _ _); refine arm_store rfl (.tmp 2) (.tmp 14) 59 rfl rfl rfl HS.out ?_)
    exact bodyPost_ret (res3t rfl rfl (agg_loadVar Tryz.isAgg59 Tryz.sizeOf59 rfl (CellsAt.of_blk B3.out))) rfl (.no HF.out rfl rfl X3.out)
  subst hk
  obtain ⟨k3, k4, k6, k16⟩ := HC.out w2 hy2
  by_cases hp : proto = 1
  rotate_left
  · have q1 : (proto != 1) = true := by simpa using hp
    obtain ⟨wz, stz, bz, xz⟩ := HST.out w2 hy2 z8 rfl
    have HS : Hid _ := stz
    have BZ : Hid _ := bz
    have XZ : Hid _ := xz
    have HF : Hid (telB 0 off proto mf body = false) := by
      have : telB 0 off proto mf body = false := by simp [telB, hp]
      exact this
    clear stz bz xz hp
    go_wp2_with first
      | ((with_reducible show wpList _ _ _ _ _ _); refine arm_store rfl (.tmp 2) (.tmp 23) 59 rfl rfl rfl HS.out ?_)
    exact bodyPost_ret (res3t rfl rfl (agg_loadVar Tryz.isAgg59 Tryz.sizeOf59 rfl (CellsAt.of_blk BZ.out))) rfl (.no HF.out rfl rfl XZ.out)
  subst hp
  go_wp2_with ((with_reducible show wpList _ _ _ _ _ _); refine arm_load rfl (.tmp 1) 27 rfl rfl (HL.out _ hy2) ?_)
  refine Calls.mono (HFR.out _) ?_
  rintro _ w3 ⟨rfl, hb3⟩
  have hy3 := hy2.trans (hb3.mono hy2.size)
  clear k3 k4 k6 k16 hb3 hy2 HL
  obtain ⟨k3, k4, k6, k16⟩ := HC.out w3 hy3
  by_cases hf : (mf || decide (0 < off)) = true
  · rw [hf]
    obtain ⟨wz, stz, bz, xz⟩ := HST.out w3 hy3 z8 rfl
    have HS : Hid _ := stz
    have BZ : Hid _ := bz
    have XZ : Hid _ := xz
    have HF : Hid (telB 0 off 1 mf body = false) := by
      have : telB 0 off 1 mf body = false := by simp only [telB, hf]; simp
      exact this
    clear stz bz xz 
    go_wp2_with first
      | ((with_reducible show wpList _ _ _ _ _ _); refine arm_store rfl (.tmp 2) (.tmp 23) 59 rfl rfl rfl HS.out ?_)
    exact bodyPost_ret (res3t rfl rfl (agg_loadVar Tryz.isAgg59 Tryz.sizeOf59 rfl (CellsAt.of_blk BZ.out))) rfl (.no HF.out rfl rfl XZ.out)
  have hf : (mf || decide (0 < off)) = false := by simpa only [Bool.not_eq_true] using hf
  rw [hf]
  go_wp2_with fail
  refine Calls.mono (HP.out _ (hx1.out.trans (hy3.mono hx1.out.size))) ?_
  rintro _ w4 ⟨cm, rfl, hm, hb4⟩
  have hy4 := hy3.trans (hb4.mono hy3.size)
  obtain ⟨w5, st5, b5, hb5⟩ := box_new Tryz.sizeOf46 w4 [.int .u8 0, .int .u8 0, .int .u32 0, .slice none 0 0] rfl cm hm.1.len hm.1.one
  have hy5 := hy4.trans (hb5.mono hy4.size)
  have HS5 : Hid _ := st5
  have hlen4 : cm.length = 4 := hm.1.len
  have HLM : Hid (∀ W, Below w5.heap.size w5 W → (Instr.loadAt 46 (.pointer (some ⟨w4.heap.size, 0, none⟩))).run Tryz.prog W = .ok (.agg cm.toArray) W) := fun W hW => agg_load Tryz.isAgg46 Tryz.sizeOf46 hlen4 (CellsAt.of_blk (blk_on b5 hW))
  have hmn := hm.1.on hb5
  obtain ⟨vm, hvm, hnew⟩ := hm.2
  have HMN : Hid _ := hmn
  have hmb : BytesAt w5.heap.size w5 vm (mT body).body := by
    obtain ⟨vm', h1, h2⟩ := hmn.val
    rw [hvm] at h1
    simp only [List.cons.injEq, and_true, true_and] at h1
    rw [h1]
    exact h2
  have hrow : RowC w5 vm (mT body).body := hnew.rowC hmb
  have HROW : Hid _ := hrow
  have HCM : Hid (∀ W, Below w5.heap.size w5 W → W.cell? ⟨w4.heap.size, 0, none⟩ = some (.int .u8 (mT body).ty) ∧ W.cell? ⟨w4.heap.size, 3, none⟩ = some vm) := fun W hW => ⟨blk_cell (blk_on b5 hW) (by rw [hvm]; rfl), blk_cell (blk_on b5 hW) (by rw [hvm]; rfl)⟩
  have hz5 : Below w5.heap.size w5 w5 := Below.refl _ _
  obtain ⟨km0, km3⟩ := HCM.out w5 hz5
  obtain ⟨avm, cvm, rfl, _⟩ := hrow.val
  clear st5 b5 hb5 hb4 hm hvm hnew hmn hlen4 hmb hrow k3 k4 k6 k16 HP HFR
  generalize hpe : Icm.pE Icm.phN body = pe at *
  by_cases hp0 : pe = 0
  rotate_left
  · have q0 : (pe != 0) = true := by simpa using hp0
    obtain ⟨wz, stz, bz, xz⟩ := HST.out w5 hy5 z8 rfl
    have HS : Hid _ := stz
    have BZ : Hid _ := bz
    have XZ : Hid _ := xz
    have HF : Hid (telB 0 off 1 mf body = false) := by
      have : telB 0 off 1 mf body = false := by simp [telB, hpe, hp0]
      exact this
    clear stz bz xz hp0 hpe HMN HROW HCM HLM
    go_wp2_with first
      | ((with_reducible show wpList _ _ _ _ _ _); refine arm_store rfl (.tmp 6) (.tmp 28) 46 rfl rfl rfl HS5.out ?_)
      | ((with_reducible show wpList _ _ _ _ _ _); refine arm_store rfl (.tmp 2) (.tmp 37) 59 rfl rfl rfl HS.out ?_)
    exact bodyPost_ret (res3t rfl rfl (agg_loadVar Tryz.isAgg59 Tryz.sizeOf59 rfl (CellsAt.of_blk BZ.out))) rfl (.no HF.out rfl rfl XZ.out)
  subst hp0
  go_wp2_with first
    | ((with_reducible show wpList _ _ _ _ _ _); refine arm_store rfl (.tmp 6) (.tmp 28) 46 rfl rfl rfl HS5.out ?_)
    | ((with_reducible show wpList _ _ _ _ _ _); refine arm_load rfl (.tmp 6) 46 rfl rfl (HLM.out _ hz5) ?_)
  have HIE : Hid (Calls Tryz.prog 60 #[.agg cm.toArray] w5 fun e w' => e = .returned (.bool (errT (mT body).ty)) ∧ Below w5.heap.size w5 w') := isError_calls _ HMN.out
  refine Calls.mono HIE.out ?_
  rintro _ w6 ⟨rfl, hb6⟩
  have hy6 := hy5.trans (hb6.mono hy5.size)
  have hz6 := hz5.trans (hb6.mono hz5.size)
  clear km0 km3 hz5 hb6 hy5
  obtain ⟨km0, km3⟩ := HCM.out w6 hz6
  clear HIE
  generalize her : errT (mT body).ty = er at *
  cases er
  · skip
    obtain ⟨wz, stz, bz, xz⟩ := HST.out w6 hy6 z8 rfl
    have HS : Hid _ := stz
    have BZ : Hid _ := bz
    have XZ : Hid _ := xz
    have HF : Hid (telB 0 off 1 mf body = false) := by
      have : telB 0 off 1 mf body = false := by simp [telB, her]
      exact this
    clear stz bz xz her HMN HROW HCM HLM
    go_wp2_with first
      | ((with_reducible show wpList _ _ _ _ _ _); refine arm_store rfl (.tmp 2) (.tmp 37) 59 rfl rfl rfl HS.out ?_)
    exact bodyPost_ret (res3t rfl rfl (agg_loadVar Tryz.isAgg59 Tryz.sizeOf59 rfl (CellsAt.of_blk BZ.out))) rfl (.no HF.out rfl rfl XZ.out)
  have HPT := V4.Part_any (HROW.out.on hz6)
  unfold V4.ReadsAs at HPT
  have HPART : Hid _ := HPT
  clear HPT
  go_wp2_with fail
  refine Calls.mono HPART.out ?_
  rintro _ w7 ⟨c7, rfl, hd7, ha7, hb7⟩
  have hy7 := hy6.trans (hb7.mono hy6.size)
  obtain ⟨w8, st8, b8, hb8⟩ := box_new Tryz.sizeOf27 w7 V4.zeroC rfl c7 hd7.len.1 hd7.len.2
  have hy8 := hy7.trans (hb8.mono hy7.size)
  have HS8 : Hid _ := st8
  have B8 : Hid _ := b8
  have HPD : Hid _ := hd7.on hb8
  clear st8 b8 hb8 hd7 ha7 hb7 hy7 HPART HROW HCM HLM HMN km0 km3 hy6 hz6
  have hpz := pErr_zero (zs := (mT body).body) (part := true)
  generalize hper : V4.pErr (mT body).body true = per at *
  obtain ⟨pa, pr⟩ := per
  dsimp only at hpz ⊢
  by_cases hq : pr = 0
  rotate_left
  · have q9 : (pr != 0) = true := by simpa using hq
    obtain ⟨wz, stz, bz, xz⟩ := HST.out w8 hy8 z8 rfl
    have HS : Hid _ := stz
    have BZ : Hid _ := bz
    have XZ : Hid _ := xz
    have HF : Hid (telB 0 off 1 mf body = false) := by
      have : telB 0 off 1 mf body = false := by simp [telB, hper, hq]
      exact this
    clear stz bz xz hq hpz hper HPD B8
    go_wp2_with first
      | ((with_reducible show wpList _ _ _ _ _ _); refine arm_store rfl (.tmp 8) (.tmp 42) 27 rfl rfl rfl HS8.out ?_)
      | ((with_reducible show wpList _ _ _ _ _ _); refine arm_store rfl (.tmp 2) (.tmp 47) 59 rfl rfl rfl HS.out ?_)
    exact bodyPost_ret (res3t rfl rfl (agg_loadVar Tryz.isAgg59 Tryz.sizeOf59 rfl (CellsAt.of_blk BZ.out))) rfl (.no HF.out rfl rfl XZ.out)
  obtain ⟨rfl, rfl⟩ : pa = 0 ∧ pr = 0 := by simpa using hpz hq
  have hsy := HPD.out
  unfold V4.ParD at hsy
  first | rw [if_pos hper] at hsy | rw [if_pos rfl] at hsy
  unfold V4.SaysD at hsy
  obtain ⟨so, sb, hcc, _, _⟩ := hsy.cells
  have hc7 := hcc.eq
  have t7 : w8.cell? ⟨w7.heap.size, 7, none⟩ = some (.int .u8 (gz (mT body).body 12)) := blk_cell B8.out (by rw [hc7]; rfl)
  have t8 : w8.cell? ⟨w7.heap.size, 8, none⟩ = some (.int .u8 (gz (mT body).body 13)) := blk_cell B8.out (by rw [hc7]; rfl)
  have t9 : w8.cell? ⟨w7.heap.size, 9, none⟩ = some (.int .u8 (gz (mT body).body 14)) := blk_cell B8.out (by rw [hc7]; rfl)
  have t10 : w8.cell? ⟨w7.heap.size, 10, none⟩ = some (.int .u8 (gz (mT body).body 15)) := blk_cell B8.out (by rw [hc7]; rfl)
  have t11 : w8.cell? ⟨w7.heap.size, 11, none⟩ = some (.int .u8 (gz (mT body).body 16)) := blk_cell B8.out (by rw [hc7]; rfl)
  have t12 : w8.cell? ⟨w7.heap.size, 12, none⟩ = some (.int .u8 (gz (mT body).body 17)) := blk_cell B8.out (by rw [hc7]; rfl)
  have t13 : w8.cell? ⟨w7.heap.size, 13, none⟩ = some (.int .u8 (gz (mT body).body 18)) := blk_cell B8.out (by rw [hc7]; rfl)
  have t14 : w8.cell? ⟨w7.heap.size, 14, none⟩ = some (.int .u8 (gz (mT body).body 19)) := blk_cell B8.out (by rw [hc7]; rfl)
  have hTB : telB 0 off 1 mf body = true := by
    simp [telB, hpe, her, hper, hf]
  have hTV : telV 0 off 1 mf body = [gz (mT body).body 12, gz (mT body).body 13, gz (mT body).body 14, gz (mT body).body 15, gz (mT body).body 16, gz (mT body).body 17, gz (mT body).body 18, gz (mT body).body 19] := by
    unfold telV
    rw [if_pos hTB]
  have HTB : Hid _ := hTB
  have HTV : Hid _ := hTV
  obtain ⟨wz, stz, bz, xz⟩ := HST.out w8 hy8 [gz (mT body).body 12, gz (mT body).body 13, gz (mT body).body 14, gz (mT body).body 15, gz (mT body).body 16, gz (mT body).body 17, gz (mT body).body 18, gz (mT body).body 19] rfl
  have HS : Hid _ := stz
  have BZ : Hid _ := bz
  have XZ : Hid _ := xz
  clear stz bz xz hTB hTV hc7 hcc hsy hpz hper HPD B8 hq
  generalize (mT body).body = mb at *
  go_wp2_with first
    | ((with_reducible show wpList _ _ _ _ _ _); refine arm_store rfl (.tmp 8) (.tmp 42) 27 rfl rfl rfl HS8.out ?_)
    | ((with_reducible show wpList _ _ _ _ _ _); refine arm_store rfl (.tmp 2) (.tmp 52) 59 rfl rfl rfl HS.out ?_)
  refine bodyPost_ret (res3t rfl rfl (agg_loadVar Tryz.isAgg59 Tryz.sizeOf59 rfl (CellsAt.of_blk BZ.out))) rfl ?_
  exact ⟨by rw [HTB.out, HTV.out]; rfl, XZ.out⟩
end Go.Proofs.YtnjkagopmfenkaaGreat
