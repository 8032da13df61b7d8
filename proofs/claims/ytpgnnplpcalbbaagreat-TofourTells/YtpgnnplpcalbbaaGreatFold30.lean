/-
  whole of a datagram of UDP; ParseUDP4 and ParseUDP6 of package segment.
  ParseUDP4 and ParseUDP6 of package segment.
  The sum of what is written is 65535.
-/
import Derived.Test.YtpgnnplpcalbbaaGreatFold21
import Derived.Test.YtpgnnplpcalbbaaGreatFold06
import Derived.Test.YtpgnnplpcalbbaaGreatFold20
import Derived.Test.YtpgnnplpcalbbaaGreatFold29
set_option linter.unusedVariables false
set_option linter.unusedSimpArgs false
namespace Go.Proofs.YtpgnnplpcalbbaaGreat
open Go Go.RowKit Go.Shelf
set_option maxHeartbeats 2000000 in
set_option maxRecDepth 100000 in
theorem whole_calls (R : Nat) (vl : Value) (s d k : Int) (ys : List Int) (w : World) (hb : w.heap[R]? = some (.cells [vl, .int .u16 s, .int .u16 d, .slice none 0 0, .int .u16 k].toArray 269)) (hl : BytesAt w.heap.size w vl ys) :
    Calls Tryz.prog 242 #[.pointer (some ⟨R, 0, none⟩)] w fun e w' => ∃ vd, e = .returned (.agg #[.int .u16 s, .int .u16 d, vd]) ∧ BytesAt w'.heap.size w' vd ys ∧ (ys.length = 0 ∨ ∃ b off n k, vd = .slice (some ⟨b, off, none⟩) n k ∧ w.heap.size ≤ b) ∧ But R w w' ∧ w'.heap[R]? = some (.cells [vl, .int .u16 s, .int .u16 d, vd, .int .u16 k].toArray 269) := by
  have hR : R < w.heap.size := (Array.getElem?_eq_some_iff.1 hb).1
  obtain ⟨W0, hW0⟩ : ∃ W0, w.alloc (.cells [.int .u16 0, .int .u16 0, .slice none 0 0].toArray 140) = W0 := ⟨_, rfl⟩
  have b0 := blk_new w (.cells [.int .u16 0, .int .u16 0, .slice none 0 0].toArray 140)
  have hB0 := (Below.refl w.heap.size w).alloc (Nat.le_refl _) (.cells [.int .u16 0, .int .u16 0, .slice none 0 0].toArray 140)
  rw [hW0] at b0 hB0
  have bR := blk_on hb hB0
  have c0 := blk_cell bR (j := 0) rfl
  have HC : Hid _ := Clone_calls vl ys W0 (hl.later hB0)
  have BR : Hid _ := bR
  have B0 : Hid _ := b0
  have HB0 : Hid _ := hB0
  obtain ⟨al, cl, rfl, _⟩ := hl.val
  clear bR b0 hB0 hl hb
  go_enter Tryz.func242, Tryz.ntmps242
  go_wp2_with fail
  refine Calls.mono HC.out ?_
  rintro _ w1 ⟨vd, rfl, hvd, hb1, hloc⟩
  have bR1 := blk_on BR.out hb1
  have b01 := blk_on B0.out hb1
  have c3 := blk_cell bR1 (j := 3) rfl
  have f3 := blk_open bR1 3
  obtain ⟨ad, cd, rfl, _⟩ := hvd.val
  have bR2 := blk_set bR1 3 (.slice ad ys.length cd)
  have b02 := blk_set_other b01 (by omega : w.heap.size ≠ R) 3 (.slice ad ys.length cd)
  have hvd2 : BytesAt (w1.setCell ⟨R, 3, none⟩ (.slice ad ys.length cd)).heap.size (w1.setCell ⟨R, 3, none⟩ (.slice ad ys.length cd)) (.slice ad ys.length cd) ys := bytes_only hvd ((Only.refl R w1).set 3 _) (hloc.imp id (fun ⟨b, off, n, k', e, hbb⟩ => ⟨b, off, n, k', e, Nat.lt_of_lt_of_le hR (Nat.le_trans HB0.out.size hbb)⟩))
  have hbut : But R w (w1.setCell ⟨R, 3, none⟩ (.slice ad ys.length cd)) := ((But.of_below (R := R) HB0.out).trans (.of_below hb1)).trans (.of_only ((Only.refl R w1).set 3 _))
  have HL : Hid _ := agg_load (t := 140) Tryz.isAgg140 Tryz.sizeOf140 (vs := [.int .u16 s, .int .u16 d, .slice ad ys.length cd]) rfl (CellsAt.part (xs := [.slice al ys.length cl]) (ys := [.int .u16 s, .int .u16 d, .slice ad ys.length cd]) (zs := [.int .u16 k]) (CellsAt.of_blk bR2))
  obtain ⟨wE, hst, bE, hon⟩ := box_store Tryz.sizeOf140 b02 rfl [.int .u16 s, .int .u16 d, .slice ad ys.length cd] rfl (by simp [Value.oneCell'])
  have HST : Hid _ := hst
  have HBE : Hid (But R w wE) := hbut.off hon (Nat.le_refl _)
  have BRE : Hid (wE.heap[R]? = some (.cells [.slice al ys.length cl, .int .u16 s, .int .u16 d, .slice ad ys.length cd, .int .u16 k].toArray 269)) := (hon.other R (by omega)).trans bR2
  have HVD : Hid (BytesAt wE.heap.size wE (.slice ad ys.length cd) ys) := bytes_only hvd2 hon (hloc.imp id (fun ⟨b, off, n, k', e, hbb⟩ => ⟨b, off, n, k', e, Nat.lt_of_lt_of_le (Array.getElem?_eq_some_iff.1 B0.out).1 hbb⟩))
  have BE : Hid _ := bE
  have HLOC : Hid (ys.length = 0 ∨ ∃ b off n k, Value.slice ad ys.length cd = .slice (some ⟨b, off, none⟩) n k ∧ w.heap.size ≤ b) := hloc.imp id (fun ⟨b, off, n, k', e, hbb⟩ => ⟨b, off, n, k', e, Nat.le_trans HB0.out.size hbb⟩)
  clear hst hon bE hbut hvd2 hvd hb1 bR1 b01 bR2 b02 hloc HC c0
  go_wp2_with first
    | ((with_reducible show wpList _ _ _ _ _ _); refine arm_load rfl (.tmp 15) 140 rfl rfl HL.out ?_)
    | ((with_reducible show wpList _ _ _ _ _ _); refine arm_store rfl (.tmp 2) (.tmp 16) 140 rfl rfl rfl HST.out ?_)
  exact bodyPost_ret (res1t rfl rfl (agg_loadVar Tryz.isAgg140 Tryz.sizeOf140 rfl (CellsAt.of_blk BE.out))) rfl ⟨_, rfl, HVD.out, HLOC.out, HBE.out, BRE.out⟩
end Go.Proofs.YtpgnnplpcalbbaaGreat
namespace Go.Proofs.YtpgnnplpcalbbaaGreat
open Go Go.RowKit Go.Shelf
theorem ex_fieldD {o : Oper} {a : Act} {W : World} (k : Nat) {b : Nat} (hop : o.op = Op.fieldAddr 269 (.tmp k) 2) (hk : a.eval (.tmp k) = .pointer (some ⟨b, 0, none⟩)) :
    (execOp a.eval o).run Tryz.prog W = .ok (.value (.pointer (some ⟨b, 4, none⟩))) W := by
  generalize a.eval = ev at *
  simp [execOp, hop, hk, go_sem]
/-- A slice whose row does not lie in block g stays when only g is turned. -/
theorem keep_only {W W' : World} {g : Nat} {v : Value} {zs : List Int} (h : BytesAt W.heap.size W v zs) (ho : Only g W W') (hl : zs.length = 0 ∨ ∀ b off n k, v = .slice (some ⟨b, off, none⟩) n k → b ≠ g) : BytesAt W'.heap.size W' v zs := by
  obtain ⟨q1, q2, a, c, rfl, q6⟩ := h
  refine ⟨q1, q2, a, c, rfl, ?_⟩
  rcases q6 with q6 | ⟨b, off, rfl, hlt, hc⟩
  · exact .inl q6
  · rcases hl with hl | hl
    · exact .inl hl
    · refine .inr ⟨b, off, rfl, by rw [ho.size]; exact hlt, fun j hj => ?_⟩
      have := hc j hj
      have hb := ho.other b (hl b off _ _ rfl)
      simp only [World.cell?] at this ⊢
      rw [hb]
      exact this
set_option maxHeartbeats 2000000 in
set_option maxRecDepth 100000 in
theorem ParseUDP4_bad (A B : List Int) (hA : A.length = 4) (hB : B.length = 4) (v : Value) (zs : List Int) (w : World) (h : RowC w v zs) (er : Int) (hne : er ≠ 0) (hrd : ∀ W, Below w.heap.size w W → Calls Tryz.prog 239 #[v] W fun e w' => Gave 5 er e ∧ Below W.heap.size W w') :
    Calls Tryz.prog 198 #[.agg (u8L A).toArray, .agg (u8L B).toArray, v] w fun e w' => e = .returned (.tuple #[.agg #[.int .u16 0, .int .u16 0, .slice none 0 0], .bool false, .int .i64 er]) ∧ Below w.heap.size w w' := by
  obtain ⟨W0, hW0⟩ : ∃ W0, ((w.alloc (.cells (u8L A).toArray 24)).alloc (.cells (u8L B).toArray 24)).alloc (.cells [.int .u16 0, .int .u16 0, .slice none 0 0].toArray 140) = W0 := ⟨_, rfl⟩
  have b0 := blk_new w (.cells (u8L A).toArray 24)
  have b1 := blk_new (w.alloc (.cells (u8L A).toArray 24)) (.cells (u8L B).toArray 24)
  have b2 := blk_new ((w.alloc (.cells (u8L A).toArray 24)).alloc (.cells (u8L B).toArray 24)) (.cells [.int .u16 0, .int .u16 0, .slice none 0 0].toArray 140)
  have b0' := blk_alloc (blk_alloc b0 (.cells (u8L B).toArray 24)) (.cells [.int .u16 0, .int .u16 0, .slice none 0 0].toArray 140)
  have b1' := blk_alloc b1 (.cells [.int .u16 0, .int .u16 0, .slice none 0 0].toArray 140)
  have hb : Below w.heap.size w (((w.alloc (.cells (u8L A).toArray 24)).alloc (.cells (u8L B).toArray 24)).alloc (.cells [.int .u16 0, .int .u16 0, .slice none 0 0].toArray 140)) := (((Below.refl _ w).alloc (Nat.le_refl _) _).alloc (by simp) _).alloc (by simp <;> omega) _
  rw [hW0] at b0' b1' b2 hb
  have s1 : (w.alloc (.cells (u8L A).toArray 24)).heap.size = w.heap.size + 1 := by simp
  have s2 : ((w.alloc (.cells (u8L A).toArray 24)).alloc (.cells (u8L B).toArray 24)).heap.size = w.heap.size + 1 + 1 := by simp
  rw [s1] at b1'
  rw [s2] at b2
  have HLA : Hid (∀ W, Below W0.heap.size W0 W → (Instr.loadAt 24 (.pointer (some ⟨w.heap.size, 0, none⟩))).run Tryz.prog W = .ok (.agg (u8L A).toArray) W) := fun W hS => agg_load Tryz.isAgg24 Tryz.sizeOf24 (by simp [u8L, hA]) (CellsAt.of_blk (blk_on b0' hS))
  have HLB : Hid (∀ W, Below W0.heap.size W0 W → (Instr.loadAt 24 (.pointer (some ⟨w.heap.size + 1, 0, none⟩))).run Tryz.prog W = .ok (.agg (u8L B).toArray) W) := fun W hS => agg_load Tryz.isAgg24 Tryz.sizeOf24 (by simp [u8L, hB]) (CellsAt.of_blk (blk_on b1' hS))
  have HRB : Hid (∀ W, Below W0.heap.size W0 W → W.heap[w.heap.size + 1 + 1]? = some (.cells [.int .u16 0, .int .u16 0, .slice none 0 0].toArray 140)) := fun W hS => blk_on b2 hS
  have hlt0 : w.heap.size + 1 + 1 < W0.heap.size := (Array.getElem?_eq_some_iff.1 b2).1
  have HB : Hid _ := hb
  have HRD : Hid _ := hrd W0 hb
  have q1 : (er == 0) = false := by simpa using hne
  have q2 : (er != 0) = true := by simpa using hne
  obtain ⟨av, cv, rfl, _⟩ := h.val
  clear h hrd b0 b1 b2 b0' b1' hb s1 s2 hne
  generalize u8L A = xA at *
  generalize u8L B = xB at *
  clear hA hB
  go_enter Tryz.func198, Tryz.ntmps198
  go_wp2_with fail
  refine Calls.mono HRD.out ?_
  rintro _ w1 ⟨⟨D, hD, hD1, rfl⟩, hx1⟩
  have bz := blk_new w1 (.cells [.slice none 0 0, .int .u16 0, .int .u16 0, .slice none 0 0, .int .u16 0].toArray 269)
  have hBz := (Below.refl w1.heap.size w1).alloc (Nat.le_refl _) (.cells [.slice none 0 0, .int .u16 0, .int .u16 0, .slice none 0 0, .int .u16 0].toArray 269)
  obtain ⟨Wz, hWz⟩ : ∃ Wz, w1.alloc (.cells [.slice none 0 0, .int .u16 0, .int .u16 0, .slice none 0 0, .int .u16 0].toArray 269) = Wz := ⟨_, rfl⟩
  rw [hWz] at bz hBz
  obtain ⟨w2, hst, b2, hon⟩ := box_store Tryz.sizeOf269 bz rfl D hD hD1
  have hx2 : Below W0.heap.size W0 w2 := hx1.trans ((hBz.trans (hon.below (Nat.le_refl _))).mono hx1.size)
  obtain ⟨w3, hst3, b3, hon3⟩ := box_store Tryz.sizeOf140 (HRB.out w2 hx2) rfl [.int .u16 0, .int .u16 0, .slice none 0 0] rfl (by simp [Value.oneCell'])
  have HST : Hid _ := hst
  have HST3 : Hid _ := hst3
  have B3 : Hid _ := b3
  have HE : Hid (Below w.heap.size w w3) := (HB.out.trans (hx2.mono HB.out.size)).trans (hon3.below (by omega))
  clear hst hst3 b3 b2 hon hon3 hx2 bz hBz hx1 HRD hD hD1
  go_wp2_with first
    | ((with_reducible show wpList _ _ _ _ _ _); refine arm_store rfl (.tmp 9) (.tmp 14) 269 rfl rfl rfl HST.out ?_)
    | ((with_reducible show wpList _ _ _ _ _ _); refine arm_store rfl (.tmp 6) (.tmp 30) 140 rfl rfl rfl HST3.out ?_)
  exact bodyPost_ret (res3t rfl rfl (agg_loadVar Tryz.isAgg140 Tryz.sizeOf140 rfl (CellsAt.of_blk B3.out))) rfl ⟨rfl, HE.out⟩
set_option maxHeartbeats 4000000 in
set_option maxRecDepth 100000 in
theorem ParseUDP4_good (A B : List Int) (hA : A.length = 4) (hB : B.length = 4) (fa : Fit A) (fb : Fit B) (v : Value) (zs : List Int) (w : World) (h : RowC w v zs) (hn : 8 ≤ zs.length) (hL : wd2 zs 4 = zs.length) (er : Int) (her : er = if wd2 zs 6 ≠ 0 ∧ sumW 0 (wordsL (ph4 A B 17 zs.length ++ zs)) ≠ 65535 then 62 else 0) :
    Calls Tryz.prog 198 #[.agg (u8L A).toArray, .agg (u8L B).toArray, v] w fun e w' => Below w.heap.size w w' ∧ ((er ≠ 0 → e = .returned (.tuple #[.agg #[.int .u16 0, .int .u16 0, .slice none 0 0], .bool false, .int .i64 er])) ∧ (er = 0 → ∃ vd, e = .returned (.tuple #[.agg #[.int .u16 (wd2 zs 0), .int .u16 (wd2 zs 2), vd], .bool (wd2 zs 6 == 0), .int .i64 0]) ∧ BytesAt w'.heap.size w' vd (zs.drop 8))) := by
  obtain ⟨W0, hW0⟩ : ∃ W0, ((w.alloc (.cells (u8L A).toArray 24)).alloc (.cells (u8L B).toArray 24)).alloc (.cells [.int .u16 0, .int .u16 0, .slice none 0 0].toArray 140) = W0 := ⟨_, rfl⟩
  have b0 := blk_new w (.cells (u8L A).toArray 24)
  have b1 := blk_new (w.alloc (.cells (u8L A).toArray 24)) (.cells (u8L B).toArray 24)
  have b2 := blk_new ((w.alloc (.cells (u8L A).toArray 24)).alloc (.cells (u8L B).toArray 24)) (.cells [.int .u16 0, .int .u16 0, .slice none 0 0].toArray 140)
  have b0' := blk_alloc (blk_alloc b0 (.cells (u8L B).toArray 24)) (.cells [.int .u16 0, .int .u16 0, .slice none 0 0].toArray 140)
  have b1' := blk_alloc b1 (.cells [.int .u16 0, .int .u16 0, .slice none 0 0].toArray 140)
  have hb : Below w.heap.size w (((w.alloc (.cells (u8L A).toArray 24)).alloc (.cells (u8L B).toArray 24)).alloc (.cells [.int .u16 0, .int .u16 0, .slice none 0 0].toArray 140)) := (((Below.refl _ w).alloc (Nat.le_refl _) _).alloc (by simp) _).alloc (by simp <;> omega) _
  rw [hW0] at b0' b1' b2 hb
  have s1 : (w.alloc (.cells (u8L A).toArray 24)).heap.size = w.heap.size + 1 := by simp
  have s2 : ((w.alloc (.cells (u8L A).toArray 24)).alloc (.cells (u8L B).toArray 24)).heap.size = w.heap.size + 1 + 1 := by simp
  rw [s1] at b1'
  rw [s2] at b2
  have HLA : Hid (∀ W, Below W0.heap.size W0 W → (Instr.loadAt 24 (.pointer (some ⟨w.heap.size, 0, none⟩))).run Tryz.prog W = .ok (.agg (u8L A).toArray) W) := fun W hS => agg_load Tryz.isAgg24 Tryz.sizeOf24 (by simp [u8L, hA]) (CellsAt.of_blk (blk_on b0' hS))
  have HLB : Hid (∀ W, Below W0.heap.size W0 W → (Instr.loadAt 24 (.pointer (some ⟨w.heap.size + 1, 0, none⟩))).run Tryz.prog W = .ok (.agg (u8L B).toArray) W) := fun W hS => agg_load Tryz.isAgg24 Tryz.sizeOf24 (by simp [u8L, hB]) (CellsAt.of_blk (blk_on b1' hS))
  have HRB : Hid (∀ W, Below W0.heap.size W0 W → W.heap[w.heap.size + 1 + 1]? = some (.cells [.int .u16 0, .int .u16 0, .slice none 0 0].toArray 140)) := fun W hS => blk_on b2 hS
  have hlt0 : w.heap.size + 1 + 1 < W0.heap.size := (Array.getElem?_eq_some_iff.1 b2).1
  have HB : Hid _ := hb
  have hlen : zs.length ≤ 65535 := by have := wd2_range h.fit 4; omega
  have hq := wd2_range h.fit 6
  have HRD : Hid _ := readUDP_more v zs W0 (h.on hb) hn
  have HOV : Hid _ := fun W => over4_calls A B hA hB fa fb W
  have HRT : Hid (∀ W o, Below W0.heap.size W0 W → OverV W o (ph4 A B) → Calls Tryz.prog 241 #[o, .int .u8 17, v] W fun e w' => e = .returned (.int .i64 (if sumW 0 (wordsL (ph4 A B 17 zs.length ++ zs)) = 65535 then 0 else 62)) ∧ Below W.heap.size W w') := fun W o hW ho => right_ok o _ 17 (by decide) v zs W ho ((h.on (hb.trans (hW.mono hb.size))).bytes) hlen
  obtain ⟨av, cv, rfl, _⟩ := h.val
  generalize sumW 0 (wordsL (ph4 A B 17 zs.length ++ zs)) = sm at *
  have HLL : Hid _ := hL
  clear h b0 b1 b2 b0' b1' hb s1 s2 fa fb hL
  generalize u8L A = xA at *
  generalize u8L B = xB at *
  clear hA hB
  go_enter Tryz.func198, Tryz.ntmps198
  go_wp2_with fail
  refine Calls.mono HRD.out ?_
  rintro e1 w1 ⟨hx1, _, hok⟩
  obtain ⟨b, o, k, rfl, hrow⟩ := hok HLL.out
  clear hok
  generalize hys : zs.drop 8 = ys at *
  have HYS : Hid _ := hys
  clear hys
  have bz := blk_new w1 (.cells [.slice none 0 0, .int .u16 0, .int .u16 0, .slice none 0 0, .int .u16 0].toArray 269)
  have hBz := (Below.refl w1.heap.size w1).alloc (Nat.le_refl _) (.cells [.slice none 0 0, .int .u16 0, .int .u16 0, .slice none 0 0, .int .u16 0].toArray 269)
  obtain ⟨Wz, hWz⟩ : ∃ Wz, w1.alloc (.cells [.slice none 0 0, .int .u16 0, .int .u16 0, .slice none 0 0, .int .u16 0].toArray 269) = Wz := ⟨_, rfl⟩
  rw [hWz] at bz hBz
  obtain ⟨w2, hst, b2, hon⟩ := box_store Tryz.sizeOf269 bz rfl [.slice (some ⟨b, o, none⟩) ys.length k, .int .u16 (wd2 zs 0), .int .u16 (wd2 zs 2), .slice none 0 0, .int .u16 (wd2 zs 6)] rfl (by simp [Value.oneCell'])
  have hx2 : Below W0.heap.size W0 w2 := hx1.trans ((hBz.trans (hon.below (Nat.le_refl _))).mono hx1.size)
  have hlt1 : W0.heap.size ≤ w1.heap.size := hx1.size
  have HST : Hid _ := hst
  have B2 : Hid _ := b2
  have HROW : Hid (BytesAt W0.heap.size W0 (.slice (some ⟨b, o, none⟩) ys.length k) ys) := hrow.row.bytes
  have c4 := blk_cell b2 (j := 4) rfl
  clear hst b2 hon bz hBz hx1 HRD hrow HLL
  -- what stays of d's box and of the other blocks
  have HD : Hid (∀ W, Below w2.heap.size w2 W → W.heap[w1.heap.size]? = some (.cells [.slice (some ⟨b, o, none⟩) ys.length k, .int .u16 (wd2 zs 0), .int .u16 (wd2 zs 2), .slice none 0 0, .int .u16 (wd2 zs 6)].toArray 269) ∧ Below W0.heap.size W0 W) := fun W hW => ⟨blk_on B2.out hW, hx2.trans (hW.mono hx2.size)⟩
  generalize hk : wd2 zs 6 = ck at *
  by_cases hc0 : ck = 0
  · have HER : Hid (er = 0) := by show er = 0; rw [her]; simp [hc0]
    have q1 : (ck != 0) = false := by simp [hc0]
    have HC0 : Hid _ := hc0
    clear her HOV HRT hc0
    go_wp2_with first
      | ((with_reducible show wpList _ _ _ _ _ _); refine arm_store rfl (.tmp 9) (.tmp 14) 269 rfl rfl rfl HST.out ?_)
    skip
    obtain ⟨hbd, hxn⟩ := HD.out _ (Below.refl _ _)
    have HWH : Hid _ := fun W (hW : Below w2.heap.size w2 W) => whole_calls w1.heap.size _ _ _ _ ys W (blk_on hbd hW) ((HROW.out.later hxn).later hW)
    have HXN : Hid _ := hxn
    have hltR : w1.heap.size < w2.heap.size := (Array.getElem?_eq_some_iff.1 hbd).1
    have C4 : Hid (∀ W, Below w2.heap.size w2 W → W.cell? ⟨w1.heap.size, 4, none⟩ = some (.int .u16 ck)) := fun W hW => blk_cell (blk_on hbd hW) rfl
    clear hbd hxn
    go_wp2_with fail
    refine wp_region_held (S := fun W => W.cell? ⟨w1.heap.size, 4, none⟩ = some (.int .u16 ck)) (by kernel_rfl) ?_
    show wpAnyH _ _ _ _ _ 7 (Array.replicate 7 false) _ w2.drew
    have hS0 : w2.drew.cell? ⟨w1.heap.size, 4, none⟩ = some (.int .u16 ck) := C4.out _ ((Below.refl _ _).drew)
    refine take_one (i := 1) (d := some 33) (v := .pointer (some ⟨w1.heap.size, 4, none⟩)) rfl rfl rfl (by kernel_rfl) (by kernel_rfl) (by kernel_rfl) (fun _ _ d _ _ h => by cases d <;> exact h) (fun W hS => ex_fieldD 9 rfl rfl) hS0 ?_
    simp only [Act.put, List.setIfInBounds_toArray, List.set_cons_zero, List.set_cons_succ]
    refine take_one (i := 2) (d := some 34) (v := .int .u16 ck) rfl rfl rfl (by kernel_rfl) (by kernel_rfl) (by kernel_rfl) (fun _ _ d _ _ h => by cases d <;> exact h) (fun W hS => ex_load16 33 rfl rfl hS) hS0 ?_
    simp only [Act.put, List.setIfInBounds_toArray, List.set_cons_zero, List.set_cons_succ]
    refine take_one (i := 3) (d := some 35) (v := .bool (ck == 0)) rfl rfl rfl (by kernel_rfl) (by kernel_rfl) (by kernel_rfl) (fun _ _ d _ _ h => by cases d <;> exact h) (fun W hS => ex_eql16 (.tmp 34) 0 rfl rfl) hS0 ?_
    simp only [Act.put, List.setIfInBounds_toArray, List.set_cons_zero, List.set_cons_succ]
    refine all_one (i := 0) (by kernel_rfl) rfl rfl ?_
    refine wp_call (d := some 32) 242 _ rfl (by kernel_rfl) (R := fun q w' => ∃ vd, q = .agg #[.int .u16 (wd2 zs 0), .int .u16 (wd2 zs 2), vd] ∧ BytesAt w'.heap.size w' vd ys ∧ (ys.length = 0 ∨ ∃ b off n k, vd = .slice (some ⟨b, off, none⟩) n k ∧ w2.heap.size ≤ b) ∧ But w1.heap.size w2.drew w' ∧ w'.cell? ⟨w1.heap.size, 4, none⟩ = some (.int .u16 ck)) ((HWH.out _ ((Below.refl _ _).drew)).mono (fun e w' ⟨vd, h1, h2, hl, h3, h4⟩ => ⟨_, h1, vd, rfl, h2, hl, h3, blk_cell h4 rfl⟩)) ?_
    rintro _ w5 ⟨vd, rfl, hvd, hloc, hbut, hc5⟩
    refine ⟨hc5, ?_⟩
    simp only [Act.put, List.setIfInBounds_toArray, List.set_cons_zero, List.set_cons_succ]
    have hx5 : Below W0.heap.size W0 w5 := HXN.out.drew.trans (hbut.below hlt1 HXN.out.size)
    have hvs := hvd.slc
    obtain ⟨w6, hst6, b6, hon6⟩ := box_store Tryz.sizeOf140 (HRB.out w5 hx5) rfl [.int .u16 (wd2 zs 0), .int .u16 (wd2 zs 2), vd] rfl (by obtain ⟨x1, x2, x3, rfl⟩ := hvs; simp [Value.oneCell'])
    have hszn := HXN.out.size
    have hv6 : BytesAt w6.heap.size w6 vd ys := bytes_only hvd hon6 (hloc.imp id (fun ⟨b', off', n', k', e', hbb⟩ => ⟨b', off', n', k', e', by omega⟩))
    have HE : Hid (Below w.heap.size w w6) := (HB.out.trans (hx5.mono HB.out.size)).trans (hon6.below (by omega))
    refine all_one (i := 4) (by kernel_rfl) rfl rfl ?_
    refine store_wp (.tmp 6) (.tmp 32) 140 rfl rfl rfl hst6 ⟨?_, ?_⟩
    · have : w6.heap[w1.heap.size]? = w5.heap[w1.heap.size]? := hon6.other _ (by omega)
      simp only [World.cell?] at hc5 ⊢
      rw [this]
      exact hc5
    have hc6 : w6.cell? ⟨w1.heap.size, 4, none⟩ = some (.int .u16 ck) := by
      have : w6.heap[w1.heap.size]? = w5.heap[w1.heap.size]? := hon6.other _ (by omega)
      simp only [World.cell?] at hc5 ⊢
      rw [this]
      exact hc5
    simp only [Act.put, List.setIfInBounds_toArray, List.set_cons_zero, List.set_cons_succ]
    refine take_one (i := 5) (d := some 7) (v := .bool (ck == 0)) rfl rfl rfl (by kernel_rfl) (by kernel_rfl) (by kernel_rfl) (fun _ _ d _ _ h => by cases d <;> exact h) (fun W hS => ex_assign (.tmp 35) rfl rfl) hc6 ?_
    simp only [Act.put, List.setIfInBounds_toArray, List.set_cons_zero, List.set_cons_succ]
    refine take_one (i := 6) (d := some 8) (v := .int .i64 0) rfl rfl rfl (by kernel_rfl) (by kernel_rfl) (by kernel_rfl) (fun _ _ d _ _ h => by cases d <;> exact h) (fun W hS => ex_assign (.const (.int .i64 0)) rfl rfl) hc6 ?_
    simp only [Act.put, List.setIfInBounds_toArray, List.set_cons_zero, List.set_cons_succ]
    refine wpAnyH_done (by kernel_rfl) ?_ _
    have HV6 : Hid _ := hv6
    have B6 : Hid _ := b6
    clear hv6 b6 hst6 hon6 hc5 hc6 hvd hbut hloc
    go_wp2
    exact bodyPost_ret (res3t rfl rfl (agg_loadVar Tryz.isAgg140 Tryz.sizeOf140 rfl (CellsAt.of_blk B6.out))) rfl ⟨HE.out, fun h0 => absurd HER.out h0, fun _ => ⟨vd, rfl, by rw [HYS.out]; exact HV6.out⟩⟩
  · have q1 : (ck != 0) = true := by simp [hc0]
    go_wp2_with first
      | ((with_reducible show wpList _ _ _ _ _ _); refine arm_store rfl (.tmp 9) (.tmp 14) 269 rfl rfl rfl HST.out ?_)
      | ((with_reducible show wpList _ _ _ _ _ _); refine arm_load rfl (.tmp 3) 24 rfl rfl (HLA.out _ hx2) ?_)
      | ((with_reducible show wpList _ _ _ _ _ _); refine arm_load rfl (.tmp 4) 24 rfl rfl (HLB.out _ hx2) ?_)
    refine Calls.mono (HOV.out _) ?_
    rintro _ w3 ⟨o3, rfl, ho3, hb3⟩
    obtain ⟨g3, l3, e3⟩ := ho3.own
    subst e3
    have HR3 : Hid _ := HRT.out w3 _ (HD.out w3 hb3).2 ho3
    clear ho3 HOV HRT
    by_cases hs : sm = 65535
    · have HER : Hid (er = 0) := by show er = 0; rw [her]; simp [hs]
      rw [if_pos hs] at HR3
      go_wp2_with fail
      refine Calls.mono HR3.out ?_
      rintro _ w4 ⟨rfl, hb4⟩
      have hy4 := hb3.trans (hb4.mono hb3.size)
      clear HR3 her
      obtain ⟨hbd, hxn⟩ := HD.out _ hy4
      have HWH : Hid _ := fun W (hW : Below w4.heap.size w4 W) => whole_calls w1.heap.size _ _ _ _ ys W (blk_on hbd hW) ((HROW.out.later hxn).later hW)
      have HXN : Hid _ := hxn
      have hltR : w1.heap.size < w4.heap.size := (Array.getElem?_eq_some_iff.1 hbd).1
      have C4 : Hid (∀ W, Below w4.heap.size w4 W → W.cell? ⟨w1.heap.size, 4, none⟩ = some (.int .u16 ck)) := fun W hW => blk_cell (blk_on hbd hW) rfl
      clear hbd hxn
      go_wp2_with fail
      refine wp_region_held (S := fun W => W.cell? ⟨w1.heap.size, 4, none⟩ = some (.int .u16 ck)) (by kernel_rfl) ?_
      show wpAnyH _ _ _ _ _ 7 (Array.replicate 7 false) _ w4.drew
      have hS0 : w4.drew.cell? ⟨w1.heap.size, 4, none⟩ = some (.int .u16 ck) := C4.out _ ((Below.refl _ _).drew)
      refine take_one (i := 1) (d := some 33) (v := .pointer (some ⟨w1.heap.size, 4, none⟩)) rfl rfl rfl (by kernel_rfl) (by kernel_rfl) (by kernel_rfl) (fun _ _ d _ _ h => by cases d <;> exact h) (fun W hS => ex_fieldD 9 rfl rfl) hS0 ?_
      simp only [Act.put, List.setIfInBounds_toArray, List.set_cons_zero, List.set_cons_succ]
      refine take_one (i := 2) (d := some 34) (v := .int .u16 ck) rfl rfl rfl (by kernel_rfl) (by kernel_rfl) (by kernel_rfl) (fun _ _ d _ _ h => by cases d <;> exact h) (fun W hS => ex_load16 33 rfl rfl hS) hS0 ?_
      simp only [Act.put, List.setIfInBounds_toArray, List.set_cons_zero, List.set_cons_succ]
      refine take_one (i := 3) (d := some 35) (v := .bool (ck == 0)) rfl rfl rfl (by kernel_rfl) (by kernel_rfl) (by kernel_rfl) (fun _ _ d _ _ h => by cases d <;> exact h) (fun W hS => ex_eql16 (.tmp 34) 0 rfl rfl) hS0 ?_
      simp only [Act.put, List.setIfInBounds_toArray, List.set_cons_zero, List.set_cons_succ]
      refine all_one (i := 0) (by kernel_rfl) rfl rfl ?_
      refine wp_call (d := some 32) 242 _ rfl (by kernel_rfl) (R := fun q w' => ∃ vd, q = .agg #[.int .u16 (wd2 zs 0), .int .u16 (wd2 zs 2), vd] ∧ BytesAt w'.heap.size w' vd ys ∧ (ys.length = 0 ∨ ∃ b off n k, vd = .slice (some ⟨b, off, none⟩) n k ∧ w4.heap.size ≤ b) ∧ But w1.heap.size w4.drew w' ∧ w'.cell? ⟨w1.heap.size, 4, none⟩ = some (.int .u16 ck)) ((HWH.out _ ((Below.refl _ _).drew)).mono (fun e w' ⟨vd, h1, h2, hl, h3, h4⟩ => ⟨_, h1, vd, rfl, h2, hl, h3, blk_cell h4 rfl⟩)) ?_
      rintro _ w5 ⟨vd, rfl, hvd, hloc, hbut, hc5⟩
      refine ⟨hc5, ?_⟩
      simp only [Act.put, List.setIfInBounds_toArray, List.set_cons_zero, List.set_cons_succ]
      have hx5 : Below W0.heap.size W0 w5 := HXN.out.drew.trans (hbut.below hlt1 HXN.out.size)
      have hvs := hvd.slc
      obtain ⟨w6, hst6, b6, hon6⟩ := box_store Tryz.sizeOf140 (HRB.out w5 hx5) rfl [.int .u16 (wd2 zs 0), .int .u16 (wd2 zs 2), vd] rfl (by obtain ⟨x1, x2, x3, rfl⟩ := hvs; simp [Value.oneCell'])
      have hszn := HXN.out.size
      have hv6 : BytesAt w6.heap.size w6 vd ys := bytes_only hvd hon6 (hloc.imp id (fun ⟨b', off', n', k', e', hbb⟩ => ⟨b', off', n', k', e', by omega⟩))
      have HE : Hid (Below w.heap.size w w6) := (HB.out.trans (hx5.mono HB.out.size)).trans (hon6.below (by omega))
      refine all_one (i := 4) (by kernel_rfl) rfl rfl ?_
      refine store_wp (.tmp 6) (.tmp 32) 140 rfl rfl rfl hst6 ⟨?_, ?_⟩
      · have : w6.heap[w1.heap.size]? = w5.heap[w1.heap.size]? := hon6.other _ (by omega)
        simp only [World.cell?] at hc5 ⊢
        rw [this]
        exact hc5
      have hc6 : w6.cell? ⟨w1.heap.size, 4, none⟩ = some (.int .u16 ck) := by
        have : w6.heap[w1.heap.size]? = w5.heap[w1.heap.size]? := hon6.other _ (by omega)
        simp only [World.cell?] at hc5 ⊢
        rw [this]
        exact hc5
      simp only [Act.put, List.setIfInBounds_toArray, List.set_cons_zero, List.set_cons_succ]
      refine take_one (i := 5) (d := some 7) (v := .bool (ck == 0)) rfl rfl rfl (by kernel_rfl) (by kernel_rfl) (by kernel_rfl) (fun _ _ d _ _ h => by cases d <;> exact h) (fun W hS => ex_assign (.tmp 35) rfl rfl) hc6 ?_
      simp only [Act.put, List.setIfInBounds_toArray, List.set_cons_zero, List.set_cons_succ]
      refine take_one (i := 6) (d := some 8) (v := .int .i64 0) rfl rfl rfl (by kernel_rfl) (by kernel_rfl) (by kernel_rfl) (fun _ _ d _ _ h => by cases d <;> exact h) (fun W hS => ex_assign (.const (.int .i64 0)) rfl rfl) hc6 ?_
      simp only [Act.put, List.setIfInBounds_toArray, List.set_cons_zero, List.set_cons_succ]
      refine wpAnyH_done (by kernel_rfl) ?_ _
      have HV6 : Hid _ := hv6
      have B6 : Hid _ := b6
      clear hv6 b6 hst6 hon6 hc5 hc6 hvd hbut hloc
      go_wp2
      exact bodyPost_ret (res3t rfl rfl (agg_loadVar Tryz.isAgg140 Tryz.sizeOf140 rfl (CellsAt.of_blk B6.out))) rfl ⟨HE.out, fun h0 => absurd HER.out h0, fun _ => ⟨vd, rfl, by rw [HYS.out]; exact HV6.out⟩⟩
    · have HER : Hid (er = 62) := by show er = 62; rw [her]; simp [hs, hc0]
      rw [if_neg hs] at HR3
      go_wp2_with fail
      refine Calls.mono HR3.out ?_
      rintro _ w4 ⟨rfl, hb4⟩
      have hy4 := hb3.trans (hb4.mono hb3.size)
      clear HR3 her
      obtain rfl := HER.out
      have hxn := (HD.out _ hy4).2
      obtain ⟨w9, hst9, b9, hon9⟩ := box_store Tryz.sizeOf140 (HRB.out _ hxn) rfl [.int .u16 0, .int .u16 0, .slice none 0 0] rfl (by simp [Value.oneCell'])
      have HST9 : Hid _ := hst9
      have B9 : Hid _ := b9
      have HE : Hid (Below w.heap.size w w9) := (HB.out.trans (hxn.mono HB.out.size)).trans (hon9.below (by omega))
      clear hst9 b9 hon9
      go_wp2_with first
        | ((with_reducible show wpList _ _ _ _ _ _); refine arm_store rfl (.tmp 6) (.tmp 30) 140 rfl rfl rfl HST9.out ?_)
        | ((with_reducible show wpList _ _ _ _ _ _); refine arm_store rfl (.tmp 9) (.tmp 14) 269 rfl rfl rfl HST.out ?_)
      exact bodyPost_ret (res3t rfl rfl (agg_loadVar Tryz.isAgg140 Tryz.sizeOf140 rfl (CellsAt.of_blk B9.out))) rfl ⟨HE.out, fun _ => rfl, fun h0 => absurd h0 (by decide)⟩
end Go.Proofs.YtpgnnplpcalbbaaGreat
namespace Go.Proofs.YtpgnnplpcalbbaaGreat
open Go Go.RowKit Go.Shelf
theorem sumW_mem_pos : ∀ (xs : List Int) (s : Int), 0 ≤ s → Words xs → (∃ x ∈ xs, 0 < x) → 0 < sumW s xs
  | [], s, _, _, h => by obtain ⟨x, hx, _⟩ := h; simp at hx
  | y :: ys, s, hs, hw, h => by
    have hy := hw y (by simp)
    have hws : Words ys := fun z hz => hw z (by simp [hz])
    have ha : 0 ≤ addW s y := by unfold addW; split <;> omega
    show 0 < sumW (addW s y) ys
    by_cases h0 : 0 < y
    · refine sumW_pos ys (addW s y) hws ?_
      unfold addW
      split <;> omega
    · obtain ⟨x, hx, hx0⟩ := h
      simp at hx
      rcases hx with rfl | hx
      · omega
      · exact sumW_mem_pos ys _ ha hws ⟨x, hx, hx0⟩
/-- A pseudo header as it must be. -/
structure PhOK (ph : Int → Int → List Int) : Prop where
  fit : ∀ p n : Int, 0 ≤ p ∧ p < 256 → 0 ≤ n ∧ n ≤ 65535 → Fit (ph p n)
  even : ∀ p n, (ph p n).length % 2 = 0
  few : ∀ p n, (ph p n).length ≤ 40
  pos : ∀ p n : Int, 0 < p ∧ p < 256 → 0 ≤ n ∧ n ≤ 65535 → 0 < sumW 0 (wordsL (ph p n))
theorem ph4_ok {A B : List Int} (la : A.length = 4) (lb : B.length = 4) (fa : Fit A) (fb : Fit B) : PhOK (ph4 A B) := by
  refine ⟨fun p n hp hn => ph4_fit fa fb hp hn, fun p n => by simp [ph4, la, lb], fun p n => by simp [ph4, la, lb], fun p n hp hn => ?_⟩
  refine sumW_mem_pos _ 0 (by decide) (wordsL_words (ph4_fit fa fb (by omega) hn)) ⟨p, ?_, hp.1⟩
  unfold ph4
  rw [wordsL_append _ _ (by omega), wordsL_append _ _ (by omega), wordsL_two]
  simp
theorem ph6_ok {A B : List Int} (la : A.length = 16) (lb : B.length = 16) (fa : Fit A) (fb : Fit B) : PhOK (ph6 A B) := by
  refine ⟨fun p n hp hn => ph6_fit fa fb hp hn, fun p n => by simp [ph6, la, lb], fun p n => by simp [ph6, la, lb], fun p n hp hn => ?_⟩
  refine sumW_mem_pos _ 0 (by decide) (wordsL_words (ph6_fit fa fb (by omega) hn)) ⟨p, ?_, hp.1⟩
  unfold ph6
  rw [wordsL_append _ _ (by omega), wordsL_append _ _ (by omega), wordsL_two, wordsL_two, wordsL_two, wordsL_two]
  simp
theorem words_mid (P R : List Int) (x : Int) (hP : P.length % 2 = 0) : wordsL (P ++ (w2 x ++ R)) = wordsL P ++ (x :: wordsL R) := by
  rw [wordsL_append _ _ hP]
  show wordsL P ++ wordsL (x / 256 :: x % 256 :: R) = _
  rw [wordsL_two, word_back]
theorem fill_sum (P R : List Int) (hP : P.length % 2 = 0) (fP : Fit P) (fR : Fit R) (hpos : 0 < sumW 0 (wordsL P)) (ck x : Int) (hk : ck = 65535 - sumW 0 (wordsL (P ++ (w2 0 ++ R)))) (hx : x = ck ∨ (x = 65535 ∧ ck = 0)) : sumW 0 (wordsL (P ++ (w2 x ++ R))) = 65535 := by
  have w0 : Words (wordsL (P ++ (w2 0 ++ R))) := wordsL_words (fP.append ((w2_fit (by decide)).append fR))
  have r0 := sumW_range _ 0 (by decide) w0
  have hx0 : 0 ≤ x ∧ x ≤ 65535 := by omega
  have wx : Words (wordsL (P ++ (w2 x ++ R))) := wordsL_words (fP.append ((w2_fit hx0).append fR))
  have rx := sumW_range _ 0 (by decide) wx
  have m0 := sumW_mod (wordsL (P ++ (w2 0 ++ R))) 0
  have mx := sumW_mod (wordsL (P ++ (w2 x ++ R))) 0
  have px : 0 < sumW 0 (wordsL (P ++ (w2 x ++ R))) := by
    rw [words_mid P R x hP, sumW_append]
    refine sumW_pos _ _ ?_ hpos
    exact Words.cons hx0 (wordsL_words fR)
  rw [words_mid P R 0 hP] at m0
  rw [words_mid P R x hP] at mx
  simp only [List.sum_append, List.sum_cons] at m0 mx
  rw [words_mid P R 0 hP] at r0 hk
  rw [words_mid P R x hP] at rx px ⊢
  generalize sumW 0 (wordsL P ++ 0 :: wordsL R) = a at *
  generalize sumW 0 (wordsL P ++ x :: wordsL R) = b at *
  generalize (wordsL P).sum = u at *
  generalize (wordsL R).sum = v at *
  omega
theorem udpL_length (ph : Int → Int → List Int) (s d : Int) (x : List Int) : (udpL ph s d x).length = 8 + x.length := by unfold udpL; rw [List.length_append, wbL_length]; rfl
theorem tcpL_length (ph : Int → Int → List Int) (t : Seg) : (tcpL ph t).length = tcpAll t := by
  unfold tcpL tcpAll
  rw [List.length_append, wbL_length, List.length_append]
  simp [tcpW]
  omega
theorem udp_sum {ph : Int → Int → List Int} (h : PhOK ph) {s d : Int} {x : List Int} (hs : 0 ≤ s ∧ s ≤ 65535) (hd : 0 ≤ d ∧ d ≤ 65535) (hf : Fit x) (hn : 8 + x.length ≤ 65535) :
    sumW 0 (wordsL (ph 17 (udpL ph s d x).length ++ udpL ph s d x)) = 65535 := by
  have hl : ((udpL ph s d x).length : Int) = 8 + (x.length : Int) := by rw [udpL_length]; omega
  have hl0 : ((wbL [s, d, 8 + (x.length : Int), 0] ++ x).length : Int) = 8 + (x.length : Int) := by simp [wbL, w2]; omega
  rw [hl]
  have e : ∀ k, ph 17 (8 + (x.length : Int)) ++ (wbL [s, d, 8 + (x.length : Int), k] ++ x) = (ph 17 (8 + (x.length : Int)) ++ wbL [s, d, 8 + (x.length : Int)]) ++ (w2 k ++ x) := fun k => by simp [wbL]
  unfold udpL
  rw [e]
  have hfp := h.fit 17 (8 + (x.length : Int)) (by decide) (by omega)
  have hev := h.even 17 (8 + (x.length : Int))
  have hw3 : Words [s, d, 8 + (x.length : Int)] := fun z hz => by simp at hz; rcases hz with rfl | rfl | rfl <;> omega
  refine fill_sum _ _ (by rw [List.length_append, wbL_length]; simp; omega) (hfp.append (wbL_fit hw3)) hf ?_ (ckS ph 17 (wbL [s, d, 8 + (x.length : Int), 0] ++ x)) _ ?_ ?_
  · rw [wordsL_append _ _ hev, sumW_append]
    exact sumW_pos _ _ (wordsL_words (wbL_fit hw3)) (h.pos 17 _ (by decide) (by omega))
  · unfold ckS
    rw [hl0, e]
  · unfold nz
    split
    · exact .inr ⟨rfl, by assumption⟩
    · exact .inl rfl
theorem tcp_sum {ph : Int → Int → List Int} (h : PhOK ph) {w : World} {c : List Value} {t : Seg} (ht : TcpC w c t) (hn : tcpE t = 0) :
    sumW 0 (wordsL (ph 6 (tcpL ph t).length ++ tcpL ph t)) = 65535 := by
  obtain ⟨hb, ha⟩ := tcpE_zero hn
  have hl := tcpL_length ph t
  have hl0 : (wbL (tcpW t 0) ++ (t.opts ++ t.data)).length = tcpAll t := by
    unfold tcpAll
    rw [List.length_append, wbL_length, List.length_append]
    simp [tcpW]
    omega
  rw [hl]
  obtain ⟨vo, vd, _, ho, hd⟩ := ht.val
  have e : ∀ k, ph 6 (tcpAll t) ++ (wbL (tcpW t k) ++ (t.opts ++ t.data)) = (ph 6 (tcpAll t) ++ wbL [t.src, t.dst, t.seq / 65536, t.seq % 65536, t.ack / 65536, t.ack % 65536, (20 + (t.opts.length : Int)) / 4 * 4096 + t.fl, t.win]) ++ (w2 k ++ (w2 t.urg ++ (t.opts ++ t.data))) := fun k => by simp [wbL, tcpW]
  unfold tcpL
  rw [e]
  have hfp := h.fit 6 (tcpAll t) (by decide) (by omega)
  have hev := h.even 6 (tcpAll t)
  have hww := tcpW_words ht hb (ck := 0) (by decide)
  have hw3 : Words [t.src, t.dst, t.seq / 65536, t.seq % 65536, t.ack / 65536, t.ack % 65536, (20 + (t.opts.length : Int)) / 4 * 4096 + t.fl, t.win] := fun z hz => hww z (by simp [tcpW] at hz ⊢; rcases hz with h | h | h | h | h | h | h | h <;> simp [h])
  refine fill_sum _ _ (by rw [List.length_append, wbL_length]; simp; omega) (hfp.append (wbL_fit hw3)) ((w2_fit ht.fu).append (ho.fit.append hd.fit)) ?_ (ckS ph 6 (wbL (tcpW t 0) ++ (t.opts ++ t.data))) _ ?_ (.inl rfl)
  · rw [wordsL_append _ _ hev, sumW_append]
    exact sumW_pos _ _ (wordsL_words (wbL_fit hw3)) (h.pos 6 _ (by decide) (by omega))
  · unfold ckS
    rw [hl0, e]
end Go.Proofs.YtpgnnplpcalbbaaGreat
