/-
  Clamp of package segment.
-/
import Derived.Test.YtnlaomjhnndblaaSn4
namespace Go.Proofs.Ytnlaomjhnndblaa
open Go Go.RowKit Go.Shelf
set_option linter.unusedVariables false
set_option linter.unusedSimpArgs false

theorem region_mid2 {P : Program} {id : Nat} {ops : Array Oper} {Q : Exit → Act → World → Prop} {a : Act} {w : World} (M : Act → Act → World → Prop) (h : (Code.region id ops true).wp P (fun e a' w' => match e with | .normal => M a a' w' | _ => False) a w) (hM : ∀ a' w', M a a' w' → Q .normal a' w') : (Code.region id ops true).wp P Q a w :=
  wp_mono h (fun e a' w' hm => by
    cases e <;> first
      | exact hM _ _ hm
      | exact hm.elim)
theorem OwnG.but {W W' : World} {b g : Nat} {zs : List Int} (h : OwnG W b zs) (ho : But g W W') (hne : b ≠ g) : OwnG W' b zs := by
  have e := ho.other b h.lt hne
  refine ⟨by obtain ⟨cs, t, hc⟩ := h.typed; exact ⟨cs, t, e.trans hc⟩, fun j hj => ?_⟩
  rw [← h.cell j hj]
  simp only [World.cell?, e]
/-- What Clamp's first step leaves. -/
structure Mid (w W0 w1 : World) (t : Seg) (u1 u2 : Value) (B2 : Nat) : Prop where
  cp1 : CpV W0.heap.size w1 u1 t.opts
  cp2 : CpV B2 w1 u2 t.data
  lt : ∀ g k, u1 = .slice (some ⟨g, 0, none⟩) t.opts.length k → t.opts ≠ [] → g < B2
  lo : W0.heap.size ≤ B2
  b0 : w1.heap[w.heap.size]? = some (.cells [.int .u16 t.src, .int .u16 t.dst, .int .u32 t.seq, .int .u32 t.ack, .int .u8 t.fl, .int .u16 t.win, .int .u16 t.urg, u1, u2].toArray 34)
  b1 : w1.heap[w.heap.size + 1]? = some (.cells [.int .u16 0, .int .u16 0, .int .u32 0, .int .u32 0, .int .u8 0, .int .u16 0, .int .u16 0, .slice none 0 0, .slice none 0 0].toArray 34)
  bel : Below w.heap.size w w1
  up : W0.heap.size ≤ w1.heap.size

set_option maxHeartbeats 4000000 in
set_option maxRecDepth 100000 in
theorem Clamp_calls (c : List Value) (t : Seg) (most : Int) (hmost : -9223372036854775808 ≤ most ∧ most ≤ 9223372036854775807) (w : World) (h : TcpC w c t) :
    Calls Try.prog 30 #[.agg c.toArray, .int .i64 most] w fun e w' => ∃ c', e = .returned (.tuple #[.agg c'.toArray, .bool (clB t most)]) ∧ TcpA w' c' (clT t most) ∧ Below w.heap.size w w' := by
  have h0 := h
  obtain ⟨⟨vo, vd, rfl, hvo, hvd⟩, fs, fd, fq, fa, ff, fw, fu⟩ := h
  have b0 := blk_alloc (blk_new w (.cells [.int .u16 t.src, .int .u16 t.dst, .int .u32 t.seq, .int .u32 t.ack, .int .u8 t.fl, .int .u16 t.win, .int .u16 t.urg, vo, vd].toArray 34)) (.cells [.int .u16 0, .int .u16 0, .int .u32 0, .int .u32 0, .int .u8 0, .int .u16 0, .int .u16 0, .slice none 0 0, .slice none 0 0].toArray 34)
  have b1 := blk_new (w.alloc (.cells [.int .u16 t.src, .int .u16 t.dst, .int .u32 t.seq, .int .u32 t.ack, .int .u8 t.fl, .int .u16 t.win, .int .u16 t.urg, vo, vd].toArray 34)) (.cells [.int .u16 0, .int .u16 0, .int .u32 0, .int .u32 0, .int .u8 0, .int .u16 0, .int .u16 0, .slice none 0 0, .slice none 0 0].toArray 34)
  have s1 : (w.alloc (.cells [.int .u16 t.src, .int .u16 t.dst, .int .u32 t.seq, .int .u32 t.ack, .int .u8 t.fl, .int .u16 t.win, .int .u16 t.urg, vo, vd].toArray 34)).heap.size = w.heap.size + 1 := by simp
  have hb : Below w.heap.size w ((w.alloc (.cells [.int .u16 t.src, .int .u16 t.dst, .int .u32 t.seq, .int .u32 t.ack, .int .u8 t.fl, .int .u16 t.win, .int .u16 t.urg, vo, vd].toArray 34)).alloc (.cells [.int .u16 0, .int .u16 0, .int .u32 0, .int .u32 0, .int .u8 0, .int .u16 0, .int .u16 0, .slice none 0 0, .slice none 0 0].toArray 34)) := ((Below.refl _ w).alloc (Nat.le_refl _) _).alloc (by simp) _
  rw [s1] at b1
  obtain ⟨W0, hW0⟩ : ∃ W0, (w.alloc (.cells [.int .u16 t.src, .int .u16 t.dst, .int .u32 t.seq, .int .u32 t.ack, .int .u8 t.fl, .int .u16 t.win, .int .u16 t.urg, vo, vd].toArray 34)).alloc (.cells [.int .u16 0, .int .u16 0, .int .u32 0, .int .u32 0, .int .u8 0, .int .u16 0, .int .u16 0, .slice none 0 0, .slice none 0 0].toArray 34) = W0 := ⟨_, rfl⟩
  rw [hW0] at b0 b1 hb
  have hlt1 : w.heap.size + 1 < W0.heap.size := (Array.getElem?_eq_some_iff.1 b1).1
  have k7 := blk_cell (j := 7) b0 rfl
  have k8 := blk_cell (j := 8) b0 rfl
  have HC1 : Hid (∀ W, Below W0.heap.size W0 W → Calls Try.prog 56 #[vo] W fun e w' => ∃ u, e = .returned u ∧ (CpV W0.heap.size w' u t.opts ∧ Below W0.heap.size W0 w')) := fun W hW => (Clone_cp vo t.opts W (hvo.later (hb.trans (hW.mono hb.size)))).mono (fun e w' ⟨u, k1, k2, k3⟩ => ⟨u, k1, k2.old hW.size, hW.trans (k3.mono hW.size)⟩)
  have HC2 : Hid (∀ W, Below W0.heap.size W0 W → Calls Try.prog 56 #[vd] W fun e w' => ∃ u, e = .returned u ∧ (CpV W.heap.size w' u t.data ∧ Below W.heap.size W w')) := fun W hW => Clone_cp vd t.data W (hvd.later (hb.trans (hW.mono hb.size)))
  have HK8 : Hid (∀ W, Below W0.heap.size W0 W → W.cell? ⟨w.heap.size, 8, none⟩ = some vd) := fun W hW => blk_cell (j := 8) (blk_on b0 hW) rfl
  have HST : Hid (∀ w3 w4 u1 u2, Below W0.heap.size W0 w3 → Below w3.heap.size w3 w4 → w4.cell? ⟨w.heap.size, 7, none⟩ = some vo ∧ w4.frozen? ⟨w.heap.size, 7, none⟩ = false ∧ (w4.setCell ⟨w.heap.size, 7, none⟩ u1).cell? ⟨w.heap.size, 8, none⟩ = some vd ∧ (w4.setCell ⟨w.heap.size, 7, none⟩ u1).frozen? ⟨w.heap.size, 8, none⟩ = false ∧ (CpV W0.heap.size w3 u1 t.opts → CpV w3.heap.size w4 u2 t.data → Mid w W0 ((w4.setCell ⟨w.heap.size, 7, none⟩ u1).setCell ⟨w.heap.size, 8, none⟩ u2) t u1 u2 w3.heap.size)) := fun w3 w4 u1 u2 h3 h4 => by
    have h34 := h3.trans (h4.mono h3.size)
    have c0 := blk_on b0 h34
    have c1 := blk_on b1 h34
    have d0 := blk_set c0 7 u1
    have d1 := blk_set_other (b' := w.heap.size) c1 (by omega) 7 u1
    have e0 := blk_set d0 8 u2
    have e1 := blk_set_other (b' := w.heap.size) d1 (by omega) 8 u2
    have o1 : Only w.heap.size w4 (w4.setCell ⟨w.heap.size, 7, none⟩ u1) := (Only.refl _ _).set _ _
    have o2 := o1.set 8 u2
    refine ⟨blk_cell (j := 7) c0 rfl, blk_open c0 7, blk_cell (j := 8) d0 rfl, blk_open d0 8, fun p1 p2 => ?_⟩
    refine ⟨(p1.on h4).off (by omega) o2, p2.off (by have := h3.size; omega) o2, fun g k hu hne => ?_, h3.size, e0, e1, (hb.trans (h34.mono hb.size)).trans (o2.below (Nat.le_refl _)), ?_⟩
    · rcases p1 with ⟨q, _⟩ | ⟨g', k', q, _, _, q4⟩
      · exact absurd q hne
      · rw [hu] at q
        simp at q
        have := q4.lt
        omega
    · have q1 := h34.size
      have q2 := o2.size
      show W0.heap.size ≤ ((w4.setCell ⟨w.heap.size, 7, none⟩ u1).setCell ⟨w.heap.size, 8, none⟩ u2).heap.size
      omega
  have HLT : Hid _ := hlt1
  have HCN : Hid _ := h0
  obtain ⟨ao, ko, rfl, _⟩ := hvo.val
  obtain ⟨ad, kd, rfl, _⟩ := hvd.val
  have hfo := hvo.fit
  have hfd := hvd.fit
  have hlo := hvo.len
  have hld := hvd.len
  have HFO : Hid (Fit t.opts) := hfo
  have HFD : Hid (Fit t.data) := hfd
  clear b0 b1 s1 hb h0 hvo hvd hfo hfd
  go_enter Try.func30, Try.ntmps30
  go_wp2_with fail
  refine region_mid2 (fun a a' w' => ∃ u1 u2 B2, a' = ((((((((a.put (some 7) (.pointer (some ⟨w.heap.size, 7, none⟩))).put (some 8) ((.slice ao t.opts.length ko))).put (some 9) (u1)).put (some 10) (.pointer (some ⟨w.heap.size, 8, none⟩))).put (some 11) ((.slice ad t.data.length kd))).put (some 12) (u2)).put (some 13) (.pointer (some ⟨w.heap.size, 7, none⟩))).put (some 14) (.pointer (some ⟨w.heap.size, 8, none⟩))) ∧ Mid w W0 w' t u1 u2 B2) ?_ ?_
  · go_region_law (first
      | (refine step_callF rfl 56 #[.tmp 8] _ rfl _ (by kernel_rfl) (HC1.out _ (by first | exact Below.refl _ _ | exact (Below.refl _ W0).drew)) ?_; rintro u1 w3 ⟨hc1, hb3⟩; have k83 := HK8.out w3 hb3; obtain ⟨x1, y1, rfl⟩ := CpV.slc hc1)
      | (refine step_callF rfl 56 #[.tmp 11] _ rfl _ (by kernel_rfl) (HC2.out _ (by first | exact hb3 | exact hb3.drew)) ?_; rintro u2 w4 ⟨hc2, hb4⟩; obtain ⟨x2, y2, rfl⟩ := CpV.slc hc2; obtain ⟨m1, m2, m3, m4, m5⟩ := HST.out w3 w4 (.slice x1 t.opts.length y1) (.slice x2 t.data.length y2) hb3 hb4))
    all_goals exact ⟨_, _, _, rfl, m5 hc1 hc2⟩
  rintro _ w1 ⟨u1, u2, B2, rfl, hM⟩
  simp only [Act.put, List.setIfInBounds_toArray, List.set_cons_zero, List.set_cons_succ]
  have hrow1 := hM.cp1.row HFO.out hlo
  have hlt := HLT.out
  have HPL : Hid _ := mssPlace_calls [.int .u16 t.src, .int .u16 t.dst, .int .u32 t.seq, .int .u32 t.ack, .int .u8 t.fl, .int .u16 t.win, .int .u16 t.urg, u1, u2] t u1 u2 w1 rfl ⟨ff.1, by omega⟩ hrow1
  have HMD : Hid _ := hM
  have HLD : Hid (∀ W, Below w1.heap.size w1 W → (Instr.loadAt 34 (.pointer (some ⟨w.heap.size, 0, none⟩))).run Try.prog W = .ok (.agg [.int .u16 t.src, .int .u16 t.dst, .int .u32 t.seq, .int .u32 t.ack, .int .u8 t.fl, .int .u16 t.win, .int .u16 t.urg, u1, u2].toArray) W) := fun W hW => agg_load Try.isAgg34 Try.sizeOf34 rfl (CellsAt.of_blk (blk_on HMD.out.b0 hW))
  obtain ⟨x1, y1, e1⟩ := hM.cp1.slc
  obtain ⟨x2, y2, e2⟩ := hM.cp2.slc
  have HONE : Hid (∀ v ∈ [.int .u16 t.src, .int .u16 t.dst, .int .u32 t.seq, .int .u32 t.ack, .int .u8 t.fl, .int .u16 t.win, .int .u16 t.urg, u1, u2], Value.oneCell' v = true) := by
    have : ∀ v ∈ [.int .u16 t.src, .int .u16 t.dst, .int .u32 t.seq, .int .u32 t.ack, .int .u8 t.fl, .int .u16 t.win, .int .u16 t.urg, u1, u2], Value.oneCell' v = true := by
      rw [e1, e2]
      simp [Value.oneCell']
    exact this
  have hy0 : Below w1.heap.size w1 w1 := Below.refl _ _
  -- the segment as it is
  have HSAME : Hid (∀ W, Below w1.heap.size w1 W → ∃ W', (Instr.storeAt 34 (.pointer (some ⟨w.heap.size + 1, 0, none⟩)) (.agg [.int .u16 t.src, .int .u16 t.dst, .int .u32 t.seq, .int .u32 t.ack, .int .u8 t.fl, .int .u16 t.win, .int .u16 t.urg, u1, u2].toArray)).run Try.prog W = .ok () W' ∧ W'.heap[w.heap.size + 1]? = some (.cells [.int .u16 t.src, .int .u16 t.dst, .int .u32 t.seq, .int .u32 t.ack, .int .u8 t.fl, .int .u16 t.win, .int .u16 t.urg, u1, u2].toArray 34) ∧ TcpA W' [.int .u16 t.src, .int .u16 t.dst, .int .u32 t.seq, .int .u32 t.ack, .int .u8 t.fl, .int .u16 t.win, .int .u16 t.urg, u1, u2] t ∧ Below w.heap.size w W') := fun W hW => by
    obtain ⟨W', s1, s2, s3⟩ := box_store Try.sizeOf34 (blk_on HMD.out.b1 hW) rfl [.int .u16 t.src, .int .u16 t.dst, .int .u32 t.seq, .int .u32 t.ack, .int .u8 t.fl, .int .u16 t.win, .int .u16 t.urg, u1, u2] rfl HONE.out
    have g1 := (HMD.out.cp1.on hW).off hlt s3
    have g2 := (HMD.out.cp2.on hW).off (by have := HMD.out.lo; omega) s3
    refine ⟨W', s1, s2, ⟨⟨u1, u2, rfl, g1.row HFO.out hlo, (g2.row HFD.out hld).bytes⟩, ⟨⟨u1, u2, rfl, (g1.row HFO.out hlo).bytes, (g2.row HFD.out hld).bytes⟩, fs, fd, fq, fa, ff, fw, fu⟩⟩, (HMD.out.bel.trans (hW.mono HMD.out.bel.size)).trans (s3.below (by omega))⟩
  have hLEN : Hid (mssO t ≠ none → 0 < t.opts.length) := fun h => by
    cases hm : mssO t with
    | none => exact absurd hm h
    | some i =>
      unfold mssO at hm
      split at hm
      · cases hm
      · have := pl_bound 0 i (Nat.zero_le _) hm
        omega
  clear hM hrow1 k7 k8 HC1 HC2 HK8 HST HCN
  cases ho : mssO t with
  | none =>
    have HCB : Hid (clB t most = false ∧ clT t most = t) := by
      have : clB t most = false ∧ clT t most = t := by simp [clB, clT, clO, ho]
      exact this
    rw [ho] at HPL
    clear ho hLEN
    subst e1 e2
    go_wp2_with ((with_reducible show wpList _ _ _ _ _ _); refine arm_load rfl (.tmp 2) 34 rfl rfl (HLD.out _ hy0) ?_)
    refine Calls.mono HPL.out ?_
    rintro _ wq ⟨rfl, hb2⟩
    have hq := Go.Lib.run_eql_slice_nil (P := Try.prog) wq 29 5 none 0 0 0 0 Try.underlying29
    obtain ⟨w3, s1, s2, s3, s4⟩ := HSAME.out wq hb2
    have L2 : Hid _ := HLD.out wq hb2
    have S1 : Hid _ := s1
    have S2 : Hid _ := s2
    have S3 : Hid _ := s3
    have S4 : Hid _ := s4
    clear s1 s2 s3 s4 hb2 HPL
    go_wp2_with first
      | ((with_reducible show wpList _ _ _ _ _ _); refine arm_load rfl (.tmp 2) 34 rfl rfl L2.out ?_)
      | ((with_reducible show wpList _ _ _ _ _ _); refine arm_store rfl (.tmp 4) (.tmp 26) 34 rfl rfl rfl S1.out ?_)
    exact bodyPost_ret (res2t rfl rfl (agg_loadVar Try.isAgg34 Try.sizeOf34 rfl (CellsAt.of_blk S2.out))) rfl ⟨_, by rw [HCB.out.1]; rfl, by rw [HCB.out.2]; exact S3.out, S4.out⟩
  | some i =>
    have hpos := hLEN.out (by rw [ho]; simp)
    have HC1 : Hid (wd2 t.opts i ≤ most → clB t most = false ∧ clT t most = t) := fun h => by simp [clB, clT, clO, ho, h]
    have HC2 : Hid (¬ wd2 t.opts i ≤ most → clB t most = true ∧ clT t most = ⟨t.src, t.dst, t.seq, t.ack, t.fl, t.win, t.urg, laid t.opts i (w2 (max most 0)), t.data⟩) := fun h => by simp [clB, clT, clO, ho, h]
    rw [ho] at HPL
    clear ho hLEN
    have hne : t.opts ≠ [] := by
      intro e
      rw [e] at hpos
      simp at hpos
    obtain ⟨g, k, e3, hk1, hk2, hk3⟩ : ∃ g k, u1 = .slice (some ⟨g, 0, none⟩) t.opts.length k ∧ t.opts.length ≤ k ∧ W0.heap.size ≤ g ∧ OwnG w1 g t.opts := by
      rcases HMD.out.cp1 with ⟨q, _⟩ | q
      · exact absurd q hne
      · exact q
    rw [e3] at e1
    simp at e1
    obtain ⟨rfl, rfl⟩ := e1
    subst e3 e2
    have hgB : g < B2 := HMD.out.lt g k rfl hne
    have OWN : Hid _ := hk3
    go_wp2_with ((with_reducible show wpList _ _ _ _ _ _); refine arm_load rfl (.tmp 2) 34 rfl rfl (HLD.out _ hy0) ?_)
    refine Calls.mono HPL.out ?_
    rintro _ wq ⟨⟨b', off', cap', e4, _, hi2, _, rfl⟩, hb2⟩
    obtain ⟨rfl, rfl, rfl⟩ : g = b' ∧ 0 = off' ∧ k = cap' := by
      simp at e4
      exact ⟨e4.1.1, e4.1.2, e4.2⟩
    clear e4
    have own2 := OWN.out.kept OWN.out.lt hb2
    have hq := Go.Lib.run_eql_slice_nil (P := Try.prog) wq 29 5 (some ⟨g, 0 + i, none⟩) 2 (k - i) 0 0 Try.underlying29
    have hz0 := HFO.out.gz i
    have hz1 := HFO.out.gz (i + 1)
    have hWO := wordOf_calls g (0 + i) 2 (k - i) (gz t.opts i) (gz t.opts (i + 1)) wq (by decide) (by rw [Nat.zero_add]; exact own2.cell i (by omega)) (by rw [Nat.zero_add]; exact own2.cell (i + 1) (by omega)) hz0 hz1
    have hwr := wd2_range HFO.out i
    have hwe : gz t.opts i * 256 + gz t.opts (i + 1) = wd2 t.opts i := rfl
    rw [hwe] at hWO
    have HWO : Hid _ := hWO
    have HOW2 : Hid _ := own2
    rw [Nat.zero_add] at HWO hq ⊢
    have HB2 : Hid _ := hb2
    by_cases hmo : wd2 t.opts i ≤ most
    · have HCB : Hid _ := HC1.out (by omega)
      obtain ⟨w3, s1, s2, s3, s4⟩ := HSAME.out wq.drew hb2.drew
      have L2 : Hid _ := HLD.out wq.drew hb2.drew
      have S1 : Hid _ := s1
      have S2 : Hid _ := s2
      have S3 : Hid _ := s3
      have S4 : Hid _ := s4
      generalize wd2 t.opts i = x at *
      clear s1 s2 s3 s4 hb2 HPL own2 hWO hwe hz0 hz1
      go_wp2_with fail
      refine Calls.mono HWO.out ?_
      rintro _ wq' ⟨rfl, rfl⟩
      go_wp2_with first
        | ((with_reducible show wpList _ _ _ _ _ _); refine arm_load rfl (.tmp 2) 34 rfl rfl L2.out ?_)
        | ((with_reducible show wpList _ _ _ _ _ _); refine arm_store rfl (.tmp 4) (.tmp 26) 34 rfl rfl rfl S1.out ?_)
      exact bodyPost_ret (res2t rfl rfl (agg_loadVar Try.isAgg34 Try.sizeOf34 rfl (CellsAt.of_blk S2.out))) rfl ⟨_, by rw [HCB.out.1]; rfl, by rw [HCB.out.2]; exact S3.out, S4.out⟩
    · have HCB : Hid _ := HC2.out (by omega)
      have hmo' : most < wd2 t.opts i := by omega
      have hmx : 0 ≤ max most 0 ∧ max most 0 ≤ 65535 := by omega
      have HPW : Hid _ := putWord_calls6 g i 2 (k - i) t.opts (max most 0) wq.drew (own2.kept own2.lt (Below.refl _ wq).drew) (by decide) hi2 hmx hlo
      have hll : (laid t.opts i (w2 (max most 0))).length = t.opts.length := laid_length i (by simpa [w2] using hi2)
      have hlf : Fit (laid t.opts i (w2 (max most 0))) := laid_fit HFO.out (w2_fit hmx) i
      have HEND : Hid (∀ w4, OwnG w4 g (laid t.opts i (w2 (max most 0))) → But g wq.drew w4 → (Instr.loadAt 34 (.pointer (some ⟨w.heap.size, 0, none⟩))).run Try.prog w4 = .ok (.agg [.int .u16 t.src, .int .u16 t.dst, .int .u32 t.seq, .int .u32 t.ack, .int .u8 t.fl, .int .u16 t.win, .int .u16 t.urg, .slice (some ⟨g, 0, none⟩) t.opts.length k, .slice x2 t.data.length y2].toArray) w4 ∧ ∃ W', (Instr.storeAt 34 (.pointer (some ⟨w.heap.size + 1, 0, none⟩)) (.agg [.int .u16 t.src, .int .u16 t.dst, .int .u32 t.seq, .int .u32 t.ack, .int .u8 t.fl, .int .u16 t.win, .int .u16 t.urg, .slice (some ⟨g, 0, none⟩) t.opts.length k, .slice x2 t.data.length y2].toArray)).run Try.prog w4 = .ok () W' ∧ W'.heap[w.heap.size + 1]? = some (.cells [.int .u16 t.src, .int .u16 t.dst, .int .u32 t.seq, .int .u32 t.ack, .int .u8 t.fl, .int .u16 t.win, .int .u16 t.urg, .slice (some ⟨g, 0, none⟩) t.opts.length k, .slice x2 t.data.length y2].toArray 34) ∧ TcpA W' [.int .u16 t.src, .int .u16 t.dst, .int .u32 t.seq, .int .u32 t.ack, .int .u8 t.fl, .int .u16 t.win, .int .u16 t.urg, .slice (some ⟨g, 0, none⟩) t.opts.length k, .slice x2 t.data.length y2] ⟨t.src, t.dst, t.seq, t.ack, t.fl, t.win, t.urg, laid t.opts i (w2 (max most 0)), t.data⟩ ∧ Below w.heap.size w W') := fun w4 own4 but4 => by
        have c0 := but4.blk (blk_on HMD.out.b0 HB2.out.drew) (by omega)
        have c1 := but4.blk (blk_on HMD.out.b1 HB2.out.drew) (by omega)
        obtain ⟨W', s1, s2, s3⟩ := box_store Try.sizeOf34 c1 rfl [.int .u16 t.src, .int .u16 t.dst, .int .u32 t.seq, .int .u32 t.ack, .int .u8 t.fl, .int .u16 t.win, .int .u16 t.urg, .slice (some ⟨g, 0, none⟩) t.opts.length k, .slice x2 t.data.length y2] rfl HONE.out
        refine ⟨agg_load Try.isAgg34 Try.sizeOf34 rfl (CellsAt.of_blk c0), W', s1, s2, ?_, ?_⟩
        · have r1 : RowC W' (.slice (some ⟨g, 0, none⟩) t.opts.length k) (laid t.opts i (w2 (max most 0))) := .of_bytes ((own4.off s3 (by omega)).all hlf (by rw [hll]; exact hlo) t.opts.length k hll.symm) hk1
          have r2 : RowC W' (.slice x2 t.data.length y2) t.data := by
            have q := HMD.out.cp2
            have q2 : CpV B2 W' (.slice x2 t.data.length y2) t.data := by
              rcases q with q | ⟨g2, k2, p1, p2, p3, p4⟩
              · exact .inl q
              · refine .inr ⟨g2, k2, p1, p2, p3, ?_⟩
                have := HMD.out.lo
                exact ((p4.kept p4.lt HB2.out.drew).but but4 (by omega)).off s3 (by omega)
            exact q2.row HFD.out hld
          exact ⟨⟨_, _, rfl, r1, r2.bytes⟩, ⟨⟨_, _, rfl, r1.bytes, r2.bytes⟩, fs, fd, fq, fa, ff, fw, fu⟩⟩
        · have q1 := HMD.out.bel.trans (HB2.out.drew.mono HMD.out.bel.size)
          exact (q1.trans (but4.below (by omega) q1.size)).trans (s3.below (by omega))
      by_cases hm0 : 0 ≤ most
      · skip
        have hme : max most 0 = most := by omega
        rw [hme] at HPW HEND HCB hmx
        have HPW2 : Hid _ := HPW.out
        generalize wd2 t.opts i = x at *
        clear hb2 HPL own2 hWO hwe hz0 hz1 HSAME HLD hmo hll hlf HPW
        have hwp : most % 65536 = most := by omega
        go_wp2_with fail
        refine Calls.mono HWO.out ?_
        rintro _ wq' ⟨rfl, rfl⟩
        go_wp2_with fail
        refine Calls.mono HPW2.out ?_
        rintro _ w4 ⟨rfl, own4, but4⟩
        obtain ⟨l4, w5, s1, s2, s3, s4⟩ := HEND.out w4 own4 but4
        have L4 : Hid _ := l4
        have S1 : Hid _ := s1
        have S2 : Hid _ := s2
        have S3 : Hid _ := s3
        have S4 : Hid _ := s4
        clear l4 s1 s2 s3 s4 own4 but4
        go_wp2_with first
          | ((with_reducible show wpList _ _ _ _ _ _); refine arm_load rfl (.tmp 2) 34 rfl rfl L4.out ?_)
          | ((with_reducible show wpList _ _ _ _ _ _); refine arm_store rfl (.tmp 4) (.tmp 32) 34 rfl rfl rfl S1.out ?_)
        exact bodyPost_ret (res2t rfl rfl (agg_loadVar Try.isAgg34 Try.sizeOf34 rfl (CellsAt.of_blk S2.out))) rfl ⟨_, by rw [HCB.out.1]; rfl, by rw [HCB.out.2]; exact S3.out, S4.out⟩
      · have hm0 : most < 0 := by omega
        have hme : max most 0 = 0 := by omega
        rw [hme] at HPW HEND HCB hmx
        have HPW2 : Hid _ := HPW.out
        generalize wd2 t.opts i = x at *
        clear hb2 HPL own2 hWO hwe hz0 hz1 HSAME HLD hmo hll hlf HPW
        go_wp2_with fail
        refine Calls.mono HWO.out ?_
        rintro _ wq' ⟨rfl, rfl⟩
        go_wp2_with fail
        refine Calls.mono HPW2.out ?_
        rintro _ w4 ⟨rfl, own4, but4⟩
        obtain ⟨l4, w5, s1, s2, s3, s4⟩ := HEND.out w4 own4 but4
        have L4 : Hid _ := l4
        have S1 : Hid _ := s1
        have S2 : Hid _ := s2
        have S3 : Hid _ := s3
        have S4 : Hid _ := s4
        clear l4 s1 s2 s3 s4 own4 but4
        go_wp2_with first
          | ((with_reducible show wpList _ _ _ _ _ _); refine arm_load rfl (.tmp 2) 34 rfl rfl L4.out ?_)
          | ((with_reducible show wpList _ _ _ _ _ _); refine arm_store rfl (.tmp 4) (.tmp 32) 34 rfl rfl rfl S1.out ?_)
        exact bodyPost_ret (res2t rfl rfl (agg_loadVar Try.isAgg34 Try.sizeOf34 rfl (CellsAt.of_blk S2.out))) rfl ⟨_, by rw [HCB.out.1]; rfl, by rw [HCB.out.2]; exact S3.out, S4.out⟩

end Go.Proofs.Ytnlaomjhnndblaa
