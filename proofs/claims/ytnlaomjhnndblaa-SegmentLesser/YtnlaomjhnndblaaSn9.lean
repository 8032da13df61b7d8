/-
  SegmentLesser.
-/
import Derived.Test.YtnlaomjhnndblaaSn7
import Derived.Test.YtnlaomjhnndblaaSn8
namespace Go.Proofs.Ytnlaomjhnndblaa
open Go Go.RowKit Go.Shelf Go.ChangeShapes Go.WideShapes Go.ChangeAt
set_option linter.unusedVariables false
set_option linter.unusedSimpArgs false

theorem ex_indexV {o : Oper} {a : Act} {W : World} (k j : Nat) {b off len cap i : Nat} (hop : o.op = Op.indexAddr 29 (.tmp k) (.tmp j)) (hk : a.eval (.tmp k) = .slice (some ⟨b, off, none⟩) len cap) (hj : a.eval (.tmp j) = .int .i64 (i : Int)) (hi : i < len) :
    (execOp a.eval o).run Try.prog W = .ok (.value (.pointer (some ⟨b, off + i, none⟩))) W := by
  have h1 : (i : Int) < (len : Int) := by omega
  generalize a.eval = ev at *
  simp [execOp, hop, hk, hj, go_sem, h1]
theorem ex_load8L {o : Oper} {a : Act} {W : World} (k : Nat) {p : Addr} {x : Int} (hop : o.op = Op.load 5 (.tmp k)) (hk : a.eval (.tmp k) = .pointer (some p)) (hc : W.cell? p = some (.int .u8 x)) :
    (execOp a.eval o).run Try.prog W = .ok (.value (.int .u8 x)) W := by
  generalize a.eval = ev at *
  simp [execOp, hop, hk, go_sem, hc]
theorem ex_fieldTL {o : Oper} {a : Act} {W : World} (k : Nat) {b : Nat} (hop : o.op = Op.fieldAddr 34 (.tmp k) 7) (hk : a.eval (.tmp k) = .pointer (some ⟨b, 0, none⟩)) :
    (execOp a.eval o).run Try.prog W = .ok (.value (.pointer (some ⟨b, 7, none⟩))) W := by
  generalize a.eval = ev at *
  simp [execOp, hop, hk, go_sem]
theorem ex_moveL {P : Program} {o : Oper} {a : Act} {W : World} (p : Operand) (hop : o.op = Op.move p) {v : Value} (hp : a.eval p = v) : (execOp a.eval o).run P W = .ok (.value v) W := by
  generalize a.eval = ev at *
  simp [execOp, hop, hp, go_sem]
theorem ex_neq8 {o : Oper} {a : Act} {W : World} (k j : Nat) {t : TypeId} {x y : Int} (hop : o.op = Op.binOp .neq 5 (.tmp k) (.tmp j) t) (hk : a.eval (.tmp k) = .int .u8 x) (hj : a.eval (.tmp j) = .int .u8 y) : (execOp a.eval o).run Try.prog W = .ok (.value (.bool (x != y))) W := by
  generalize a.eval = ev at *
  simp [execOp, hop, hk, hj, go_sem]

set_option maxHeartbeats 8000000 in
set_option maxRecDepth 100000 in
theorem segmentLesser_walk (c : List Value) (t : Seg) (most : Int) (hmost : -9223372036854775808 ≤ most ∧ most ≤ 9223372036854775807) (w : World) (h : TcpA w c t) :
    Calls Try.prog 11 #[.agg c.toArray, .int .i64 most] w fun e w' => e = .returned (.bool true) ∧ Below w.heap.size w w' := by
  have b0 := blk_new w (.cells c.toArray 34)
  have hB0 := (Below.refl w.heap.size w).alloc (Nat.le_refl _) (.cells c.toArray 34)
  obtain ⟨W0, hW0⟩ : ∃ W0, w.alloc (.cells c.toArray 34) = W0 := ⟨_, rfl⟩
  rw [hW0] at b0 hB0
  have HL : Hid (∀ W, Below W0.heap.size W0 W → (Instr.loadAt 34 (.pointer (some ⟨w.heap.size, 0, none⟩))).run Try.prog W = .ok (.agg c.toArray) W) := fun W hW => agg_load Try.isAgg34 Try.sizeOf34 h.all.len (CellsAt.of_blk (blk_on b0 hW))
  have hA : ∀ W, Below W0.heap.size W0 W → TcpA W c t := fun W hW => h.on (hB0.trans (hW.mono hB0.size))
  have M1 : Hid (∀ W, Below W0.heap.size W0 W → Calls Try.prog 28 #[.agg c.toArray] W fun e w' => e = .returned (.tuple #[.int .i64 (mssN t), .bool (mssB t)]) ∧ Below W.heap.size W w') := fun W hW => MSS_calls c t W (hA W hW)
  have M3 : Hid (∀ W, Below W0.heap.size W0 W → Calls Try.prog 30 #[.agg c.toArray, .int .i64 most] W fun e w' => ∃ c', e = .returned (.tuple #[.agg c'.toArray, .bool (clB t most)]) ∧ TcpA w' c' (clT t most) ∧ Below W.heap.size W w') := fun W hW => Clamp_calls c t most hmost W (hA W hW).all
  obtain ⟨vo, vd, hcc, hro, hvd⟩ := h.val
  have hls := less most hro.fit
  have hlo := hro.len
  have hnr : 0 ≤ mssN t ∧ mssN t ≤ 65535 := by
    unfold mssN
    split
    · decide
    · exact wd2_range hro.fit _
  have HT : Hid (∀ W, Below W0.heap.size W0 W → TcpC W c t) := fun W hW => (hA W hW).all
  have HRO : Hid (∀ W, Below W0.heap.size W0 W → RowC W vo t.opts) := fun W hW => hro.on (hB0.trans (hW.mono hB0.size))
  have HK7 : Hid (∀ W, Below W0.heap.size W0 W → W.cell? ⟨w.heap.size, 7, none⟩ = some vo) := fun W hW => blk_cell (j := 7) (blk_on b0 hW) (by rw [hcc]; rfl)
  have HFIT : Hid (TcpC w c t) := h.all
  have M1B : Hid (∀ W d, TcpA W d (clT t most) → Calls Try.prog 28 #[.agg d.toArray] W fun e w' => e = .returned (.tuple #[.int .i64 (mssN (clT t most)), .bool (mssB (clT t most))]) ∧ Below W.heap.size W w') := fun W d hd => MSS_calls d _ W hd
  rw [hls.same] at M1B
  have hsz := hls.size
  have hfew := hls.few
  have hnone := hls.none
  have hlen := hls.len
  have hturn := hls.turned
  have HREST : Hid _ := hls.rest
  generalize clT t most = ct at *
  generalize clB t most = cb at *
  obtain ⟨m, hm⟩ : ∃ m, mssN ct = m := ⟨_, rfl⟩
  rw [hm] at M1B hsz
  generalize mssN t = n at *
  generalize mssB t = nb at *
  obtain ⟨dn, hdn⟩ : ∃ dn, df ct.opts t.opts t.opts.length = dn := ⟨_, rfl⟩
  rw [hdn] at hfew hnone
  have HDN : Hid _ := hdn
  obtain ⟨ao, ko, rfl, hko⟩ := hro.val
  have hko1 := hko.1
  have HB : Hid _ := hB0
  have B0 : Hid _ := b0
  have hx0 : Below W0.heap.size W0 W0 := Below.refl _ _
  have HCC : Hid _ := hcc
  clear b0 hB0 hA h hmost hls hm hdn hko hro hvd hcc
  have hcase : (nb = false ∧ cb = false) ∨ (nb = true ∧ cb = false ∧ n ≤ most ∧ m = n) ∨ (nb = true ∧ cb = true ∧ most < n ∧ 0 ≤ most ∧ m = most) ∨ (nb = true ∧ cb = true ∧ most < 0 ∧ 0 < n ∧ m = 0) ∨ (nb = true ∧ cb = true ∧ most < 0 ∧ n = 0 ∧ m = 0) := by
    cases nb with
    | false => exact .inl ⟨rfl, by simpa using hturn⟩
    | true =>
      have hs := hsz rfl
      by_cases q : most < n
      · have hc : cb = true := by simpa [q] using hturn
        by_cases q2 : 0 ≤ most
        · exact .inr (.inr (.inl ⟨rfl, hc, q, q2, by omega⟩))
        · by_cases q3 : n = 0
          · exact .inr (.inr (.inr (.inr ⟨rfl, hc, by omega, q3, by omega⟩)))
          · exact .inr (.inr (.inr (.inl ⟨rfl, hc, by omega, by omega, by omega⟩)))
      · have hc : cb = false := by simpa [q] using hturn
        exact .inr (.inl ⟨rfl, hc, by omega, by omega⟩)
  clear hsz hturn
  rcases hcase with ⟨rfl, rfl⟩ | ⟨rfl, rfl, h1, rfl⟩ | ⟨rfl, rfl, h1, h2, rfl⟩ | ⟨rfl, rfl, h1, h2, rfl⟩ | ⟨rfl, rfl, h1, rfl, rfl⟩
  · skip
    obtain cb0 : dn = 0 := hnone rfl
    subst cb0
    clear hnone
    go_enter Try.func11, Try.ntmps11
    go_wp2_with fail
    refine Calls.mono (awake_calls6 _) ?_
    rintro _ w1 ⟨rfl, hx1⟩
    go_wp2_with ((with_reducible show wpList _ _ _ _ _ _); refine arm_load rfl (.tmp 2) 34 rfl rfl (HL.out _ hx1) ?_)
    refine Calls.mono (M1.out _ hx1) ?_
    rintro _ w2' ⟨rfl, hb2⟩
    have hx2 := hx1.trans (hb2.mono hx1.size)
    clear hb2
    go_wp2_with ((with_reducible show wpList _ _ _ _ _ _); refine arm_load rfl (.tmp 2) 34 rfl rfl (HL.out _ hx2) ?_)
    refine Calls.mono (M3.out _ hx2) ?_
    rintro _ w3 ⟨d, rfl, hd3, hb3⟩
    obtain ⟨w4, hst4, b4, hb4⟩ := box_new Try.sizeOf34 w3 [.int .u16 0, .int .u16 0, .int .u32 0, .int .u32 0, .int .u8 0, .int .u16 0, .int .u16 0, .slice none 0 0, .slice none 0 0] rfl d hd3.all.len hd3.all.one
    have hx3 := hx2.trans (hb3.mono hx2.size)
    have hx4 := hx3.trans (hb4.mono hx3.size)
    have HM5 : Hid _ := M1B.out w4 d (hd3.on hb4)
    have HD3 : Hid _ := hd3
    have HB4 : Hid _ := hb4
    have B4 : Hid _ := b4
    have HST4 : Hid _ := hst4
    have HX3 : Hid _ := hx3
    have L4 : Hid _ := agg_load (t := 34) Try.isAgg34 Try.sizeOf34 hd3.all.len (CellsAt.of_blk b4)
    clear hd3 hb3 hb4 hst4 b4 hx3
    go_wp2_with first
      | ((with_reducible show wpList _ _ _ _ _ _); refine arm_store rfl (.tmp 7) (.tmp 24) 34 rfl rfl rfl HST4.out ?_)
      | ((with_reducible show wpList _ _ _ _ _ _); refine arm_load rfl (.tmp 7) 34 rfl rfl L4.out ?_)
    refine Calls.mono HM5.out ?_
    rintro _ w5 ⟨rfl, hb5⟩
    have hx5 := hx4.trans (hb5.mono hx4.size)
    have hy35 := HB4.out.trans (hb5.mono HB4.out.size)
    have B5 : Hid _ := blk_on B4.out hb5
    obtain ⟨vo', vd', hdd, hro', hvd'⟩ := HD3.out.val
    have hctl := hlen
    have HROC : Hid _ := hro'
    have HVDC : Hid _ := hvd'
    obtain ⟨ao', ko', rfl, _⟩ := hro'.val
    rw [hctl] at hdd
    have HDD : Hid _ := hdd
    have KC : Hid (∀ W, Below w5.heap.size w5 W → W.cell? ⟨w3.heap.size, 7, none⟩ = some (.slice ao' t.opts.length ko')) := fun W hW => blk_cell (j := 7) (blk_on B5.out hW) (by rw [HDD.out]; rfl)
    have KT : Hid (∀ W, Below w5.heap.size w5 W → W.cell? ⟨w.heap.size, 7, none⟩ = some (.slice ao t.opts.length ko)) := fun W hW => HK7.out W (hx5.trans (hW.mono hx5.size))
    have kc5 := KC.out w5 (Below.refl _ _)
    have kt5 := KT.out w5 (Below.refl _ _)
    have HCELL : Hid (∀ k, k < t.opts.length → ∃ b off b' off', ao = some ⟨b, off, none⟩ ∧ ao' = some ⟨b', off', none⟩ ∧ (∀ W, Below w5.heap.size w5 W → W.cell? ⟨b, off + k, none⟩ = some (.int .u8 (gz t.opts k)) ∧ W.cell? ⟨b', off' + k, none⟩ = some (.int .u8 (gz ct.opts k)))) := fun k hk => by
      obtain ⟨b, off, cp, e1, _, l1, c1⟩ := (HRO.out w5 hx5).some (by omega)
      obtain ⟨b', off', cp', e2, _, l2, c2⟩ := (HROC.out.on hy35).some (by rw [hlen]; omega)
      simp at e1 e2
      refine ⟨b, off, b', off', e1.1, e2.1, fun W hW => ⟨(hW.cell (p := ⟨b, off + k, none⟩) l1).trans (c1 k hk), (hW.cell (p := ⟨b', off' + k, none⟩) l2).trans (c2 k (by rw [hlen]; omega))⟩⟩
    have HX5 : Hid _ := hx5
    have HY35 : Hid _ := hy35
    clear hb5 hdd hro' hvd' hx5 hy35 hx4 hx2 hx1 HM5 L4 HST4 M1 M3 M1B hctl
    go_wp2
    go_loopw [11, 12] (fun x i wr => ∃ k : Nat, k ≤ t.opts.length ∧ i = .int .i64 (k : Int) ∧ x = .int .i64 ((df ct.opts t.opts k : Nat) : Int) ∧ Below w5.heap.size w5 wr) (fun _ i _ => t.opts.length - (intOf i).toNat)
    case atStart => exact ⟨0, by omega, rfl, rfl, Below.refl _ _⟩
    case round =>
      obtain ⟨k, hk, rfl, rfl, hbr⟩ := hrel
      have kt := KT.out _ hbr
      have hdk : df ct.opts t.opts k ≤ k := df_bound _ _ k
      by_cases hlt : k < t.opts.length
      · obtain ⟨b, off, b', off', rfl, rfl, hce⟩ := HCELL.out k hlt
        have HCE : Hid _ := hce
        obtain ⟨x, hx⟩ : ∃ x, gz t.opts k = x := ⟨_, rfl⟩
        obtain ⟨y, hy⟩ : ∃ y, gz ct.opts k = y := ⟨_, rfl⟩
        have HDF : Hid (df ct.opts t.opts (k + 1) = df ct.opts t.opts k + (if y = x then 0 else 1)) := by
          have : df ct.opts t.opts (k + 1) = df ct.opts t.opts k + (if y = x then 0 else 1) := by rw [← hx, ← hy]; rfl
          exact this
        rw [hx, hy] at HCE
        generalize df ct.opts t.opts k = dk at *
        clear hce hx hy
        go_wp2_with fail
        have hd1 : Below w5.heap.size w5 wr.drew := hbr.drew
        refine wp_region_held (S := fun W => Below w5.heap.size w5 W) (by kernel_rfl) ?_
        show wpAnyH _ _ _ _ _ 11 (Array.replicate 11 false) _ wr.drew
        refine take_one (i := 0) (d := some 69) (v := .pointer (some ⟨w3.heap.size, 7, none⟩)) rfl rfl rfl (by kernel_rfl) (by kernel_rfl) (by kernel_rfl) (fun _ _ d _ _ h => by cases d <;> exact h) (fun W hS => ex_fieldTL 7 rfl rfl) hd1 ?_
        simp only [Act.put, List.setIfInBounds_toArray, List.set_cons_zero, List.set_cons_succ]
        refine take_one (i := 1) (d := some 70) (v := .slice (some ⟨b', off', none⟩) t.opts.length ko') rfl rfl rfl (by kernel_rfl) (by kernel_rfl) (by kernel_rfl) (fun _ _ d _ _ h => by cases d <;> exact h) (fun W hS => ex_load 69 rfl rfl (KC.out W hS) ⟨_, _, _, rfl⟩) hd1 ?_
        simp only [Act.put, List.setIfInBounds_toArray, List.set_cons_zero, List.set_cons_succ]
        refine take_one (i := 2) (d := some 71) (v := .int .i64 (k : Int)) rfl rfl rfl (by kernel_rfl) (by kernel_rfl) (by kernel_rfl) (fun _ _ d _ _ h => by cases d <;> exact h) (fun W hS => ex_moveL (.tmp 12) rfl rfl) hd1 ?_
        simp only [Act.put, List.setIfInBounds_toArray, List.set_cons_zero, List.set_cons_succ]
        refine take_one (i := 3) (d := some 72) (v := .pointer (some ⟨b', off' + k, none⟩)) rfl rfl rfl (by kernel_rfl) (by kernel_rfl) (by kernel_rfl) (fun _ _ d _ _ h => by cases d <;> exact h) (fun W hS => ex_indexV 70 71 rfl rfl rfl hlt) hd1 ?_
        simp only [Act.put, List.setIfInBounds_toArray, List.set_cons_zero, List.set_cons_succ]
        refine take_one (i := 4) (d := some 73) (v := .int .u8 y) rfl rfl rfl (by kernel_rfl) (by kernel_rfl) (by kernel_rfl) (fun _ _ d _ _ h => by cases d <;> exact h) (fun W hS => ex_load8L 72 rfl rfl (HCE.out W hS).2) hd1 ?_
        simp only [Act.put, List.setIfInBounds_toArray, List.set_cons_zero, List.set_cons_succ]
        refine take_one (i := 5) (d := some 74) (v := .pointer (some ⟨w.heap.size, 7, none⟩)) rfl rfl rfl (by kernel_rfl) (by kernel_rfl) (by kernel_rfl) (fun _ _ d _ _ h => by cases d <;> exact h) (fun W hS => ex_fieldTL 2 rfl rfl) hd1 ?_
        simp only [Act.put, List.setIfInBounds_toArray, List.set_cons_zero, List.set_cons_succ]
        refine take_one (i := 6) (d := some 75) (v := .slice (some ⟨b, off, none⟩) t.opts.length ko) rfl rfl rfl (by kernel_rfl) (by kernel_rfl) (by kernel_rfl) (fun _ _ d _ _ h => by cases d <;> exact h) (fun W hS => ex_load 74 rfl rfl (KT.out W hS) ⟨_, _, _, rfl⟩) hd1 ?_
        simp only [Act.put, List.setIfInBounds_toArray, List.set_cons_zero, List.set_cons_succ]
        refine take_one (i := 7) (d := some 76) (v := .int .i64 (k : Int)) rfl rfl rfl (by kernel_rfl) (by kernel_rfl) (by kernel_rfl) (fun _ _ d _ _ h => by cases d <;> exact h) (fun W hS => ex_moveL (.tmp 12) rfl rfl) hd1 ?_
        simp only [Act.put, List.setIfInBounds_toArray, List.set_cons_zero, List.set_cons_succ]
        refine take_one (i := 8) (d := some 77) (v := .pointer (some ⟨b, off + k, none⟩)) rfl rfl rfl (by kernel_rfl) (by kernel_rfl) (by kernel_rfl) (fun _ _ d _ _ h => by cases d <;> exact h) (fun W hS => ex_indexV 75 76 rfl rfl rfl hlt) hd1 ?_
        simp only [Act.put, List.setIfInBounds_toArray, List.set_cons_zero, List.set_cons_succ]
        refine take_one (i := 9) (d := some 78) (v := .int .u8 x) rfl rfl rfl (by kernel_rfl) (by kernel_rfl) (by kernel_rfl) (fun _ _ d _ _ h => by cases d <;> exact h) (fun W hS => ex_load8L 77 rfl rfl (HCE.out W hS).1) hd1 ?_
        simp only [Act.put, List.setIfInBounds_toArray, List.set_cons_zero, List.set_cons_succ]
        refine take_one (i := 10) (d := some 79) (v := .bool (y != x)) rfl rfl rfl (by kernel_rfl) (by kernel_rfl) (by kernel_rfl) (fun _ _ d _ _ h => by cases d <;> exact h) (fun W hS => ex_neq8 73 78 rfl rfl rfl) hd1 ?_
        simp only [Act.put, List.setIfInBounds_toArray, List.set_cons_zero, List.set_cons_succ]
        refine wpAnyH_done (by kernel_rfl) ?_ _
        by_cases hyx : y = x
        · have q : (y != x) = false := by simpa using hyx
          rw [q]
          have HD2 : Hid (df ct.opts t.opts (k + 1) = dk) := by
            have := HDF.out
            rw [if_pos hyx] at this
            exact this
          clear hyx HDF q
          go_wp2
          exact ⟨⟨k + 1, by omega, by simp, by rw [HD2.out], hd1⟩, by simp [intOf]; omega⟩
        · have q : (y != x) = true := by simpa using hyx
          rw [q]
          have HD2 : Hid (df ct.opts t.opts (k + 1) = dk + 1) := by
            have := HDF.out
            rw [if_neg hyx] at this
            exact this
          clear hyx HDF q
          go_wp2
          exact ⟨⟨k + 1, by omega, by simp, by rw [HD2.out]; simp, hd1⟩, by simp [intOf]; omega⟩
      · obtain rfl : k = t.opts.length := by omega
        rw [HDN.out]
        have kcr := KC.out _ hbr
        have bR := blk_on B5.out hbr
        have fR := blk_open bR 7
        have dR := blk_set bR 7 (.slice ao t.opts.length ko)
        have oR := (Only.refl w3.heap.size wr).set 7 (.slice ao t.opts.length ko)
        obtain ⟨w6, hw6⟩ : ∃ w6, wr.setCell ⟨w3.heap.size, 7, none⟩ (.slice ao t.opts.length ko) = w6 := ⟨_, rfl⟩
        rw [hw6] at dR oR
        have hs5 := HY35.out.size
        have hx6 : Below W0.heap.size W0 w6 := (HX5.out.trans (hbr.mono HX5.out.size)).trans (oR.below HX3.out.size)
        have hy6 : Below w3.heap.size w3 w6 := (HY35.out.trans (hbr.mono hs5)).trans (oR.below (Nat.le_refl _))
        have hset : d.set 7 (.slice ao t.opts.length ko) = [.int .u16 t.src, .int .u16 t.dst, .int .u32 t.seq, .int .u32 t.ack, .int .u8 t.fl, .int .u16 t.win, .int .u16 t.urg, .slice ao t.opts.length ko, vd'] := by
          have e1 := HDD.out
          have e2 := HREST.out
          rw [e1, e2]
          rfl
        rw [hset] at dR
        have hdat : BytesAt w3.heap.size w3 vd' t.data := by
          have q := HVDC.out
          rw [HREST.out] at q
          exact q
        have hT6 : TcpC w6 [.int .u16 t.src, .int .u16 t.dst, .int .u32 t.seq, .int .u32 t.ack, .int .u8 t.fl, .int .u16 t.win, .int .u16 t.urg, .slice ao t.opts.length ko, vd'] t := by
          obtain ⟨_, fs, fd, fq, fa, ff, fw, fu⟩ := HFIT.out
          exact ⟨⟨_, _, rfl, (HRO.out w6 hx6).bytes, hdat.later hy6⟩, fs, fd, fq, fa, ff, fw, fu⟩
        have L7 : Hid _ := agg_load (t := 34) Try.isAgg34 Try.sizeOf34 rfl (CellsAt.of_blk dR)
        have L2 : Hid _ := HL.out w6 hx6
        have SM : Hid (Calls Try.prog 27 #[.agg [.int .u16 t.src, .int .u16 t.dst, .int .u32 t.seq, .int .u32 t.ack, .int .u8 t.fl, .int .u16 t.win, .int .u16 t.urg, .slice ao t.opts.length ko, vd'].toArray, .agg c.toArray] w6 fun e w' => e = .returned (.bool true) ∧ Below w6.heap.size w6 w') := by
          have kk := RSameTCP_calls w6 hT6 (HT.out w6 hx6)
          rw [sameT_self] at kk
          exact kk
        have HF : Hid (Below w.heap.size w w6) := HB.out.trans (hx6.mono HB.out.size)
        skip
        skip
        clear dR oR bR hx6 hy6 hset hdat hT6 hdk hs5
        go_wp2_with first
          | ((with_reducible show wpList _ _ _ _ _ _); refine arm_load rfl (.tmp 7) 34 rfl rfl L7.out ?_)
          | ((with_reducible show wpList _ _ _ _ _ _); refine arm_load rfl (.tmp 2) 34 rfl rfl L2.out ?_)
        refine Calls.mono SM.out ?_
        rintro _ w7 ⟨rfl, hz7⟩
        have HZ : Hid _ := HF.out.trans (hz7.mono HF.out.size)
        clear hz7
        go_wp2
        go_ret
        exact ⟨rfl, HZ.out⟩
  · skip
    obtain cb0 : dn = 0 := hnone rfl
    subst cb0
    clear hnone
    have hmx : 0 ≤ most := by omega
    go_enter Try.func11, Try.ntmps11
    go_wp2_with fail
    refine Calls.mono (awake_calls6 _) ?_
    rintro _ w1 ⟨rfl, hx1⟩
    go_wp2_with ((with_reducible show wpList _ _ _ _ _ _); refine arm_load rfl (.tmp 2) 34 rfl rfl (HL.out _ hx1) ?_)
    refine Calls.mono (M1.out _ hx1) ?_
    rintro _ w2' ⟨rfl, hb2⟩
    have hx2 := hx1.trans (hb2.mono hx1.size)
    clear hb2
    go_wp2_with ((with_reducible show wpList _ _ _ _ _ _); refine arm_load rfl (.tmp 2) 34 rfl rfl (HL.out _ hx2) ?_)
    refine Calls.mono (M3.out _ hx2) ?_
    rintro _ w3 ⟨d, rfl, hd3, hb3⟩
    obtain ⟨w4, hst4, b4, hb4⟩ := box_new Try.sizeOf34 w3 [.int .u16 0, .int .u16 0, .int .u32 0, .int .u32 0, .int .u8 0, .int .u16 0, .int .u16 0, .slice none 0 0, .slice none 0 0] rfl d hd3.all.len hd3.all.one
    have hx3 := hx2.trans (hb3.mono hx2.size)
    have hx4 := hx3.trans (hb4.mono hx3.size)
    have HM5 : Hid _ := M1B.out w4 d (hd3.on hb4)
    have HD3 : Hid _ := hd3
    have HB4 : Hid _ := hb4
    have B4 : Hid _ := b4
    have HST4 : Hid _ := hst4
    have HX3 : Hid _ := hx3
    have L4 : Hid _ := agg_load (t := 34) Try.isAgg34 Try.sizeOf34 hd3.all.len (CellsAt.of_blk b4)
    clear hd3 hb3 hb4 hst4 b4 hx3
    go_wp2_with first
      | ((with_reducible show wpList _ _ _ _ _ _); refine arm_store rfl (.tmp 7) (.tmp 24) 34 rfl rfl rfl HST4.out ?_)
      | ((with_reducible show wpList _ _ _ _ _ _); refine arm_load rfl (.tmp 7) 34 rfl rfl L4.out ?_)
    refine Calls.mono HM5.out ?_
    rintro _ w5 ⟨rfl, hb5⟩
    have hx5 := hx4.trans (hb5.mono hx4.size)
    have hy35 := HB4.out.trans (hb5.mono HB4.out.size)
    have B5 : Hid _ := blk_on B4.out hb5
    obtain ⟨vo', vd', hdd, hro', hvd'⟩ := HD3.out.val
    have hctl := hlen
    have HROC : Hid _ := hro'
    have HVDC : Hid _ := hvd'
    obtain ⟨ao', ko', rfl, _⟩ := hro'.val
    rw [hctl] at hdd
    have HDD : Hid _ := hdd
    have KC : Hid (∀ W, Below w5.heap.size w5 W → W.cell? ⟨w3.heap.size, 7, none⟩ = some (.slice ao' t.opts.length ko')) := fun W hW => blk_cell (j := 7) (blk_on B5.out hW) (by rw [HDD.out]; rfl)
    have KT : Hid (∀ W, Below w5.heap.size w5 W → W.cell? ⟨w.heap.size, 7, none⟩ = some (.slice ao t.opts.length ko)) := fun W hW => HK7.out W (hx5.trans (hW.mono hx5.size))
    have kc5 := KC.out w5 (Below.refl _ _)
    have kt5 := KT.out w5 (Below.refl _ _)
    have HCELL : Hid (∀ k, k < t.opts.length → ∃ b off b' off', ao = some ⟨b, off, none⟩ ∧ ao' = some ⟨b', off', none⟩ ∧ (∀ W, Below w5.heap.size w5 W → W.cell? ⟨b, off + k, none⟩ = some (.int .u8 (gz t.opts k)) ∧ W.cell? ⟨b', off' + k, none⟩ = some (.int .u8 (gz ct.opts k)))) := fun k hk => by
      obtain ⟨b, off, cp, e1, _, l1, c1⟩ := (HRO.out w5 hx5).some (by omega)
      obtain ⟨b', off', cp', e2, _, l2, c2⟩ := (HROC.out.on hy35).some (by rw [hlen]; omega)
      simp at e1 e2
      refine ⟨b, off, b', off', e1.1, e2.1, fun W hW => ⟨(hW.cell (p := ⟨b, off + k, none⟩) l1).trans (c1 k hk), (hW.cell (p := ⟨b', off' + k, none⟩) l2).trans (c2 k (by rw [hlen]; omega))⟩⟩
    have HX5 : Hid _ := hx5
    have HY35 : Hid _ := hy35
    clear hb5 hdd hro' hvd' hx5 hy35 hx4 hx2 hx1 HM5 L4 HST4 M1 M3 M1B hctl
    go_wp2
    go_loopw [11, 12] (fun x i wr => ∃ k : Nat, k ≤ t.opts.length ∧ i = .int .i64 (k : Int) ∧ x = .int .i64 ((df ct.opts t.opts k : Nat) : Int) ∧ Below w5.heap.size w5 wr) (fun _ i _ => t.opts.length - (intOf i).toNat)
    case atStart => exact ⟨0, by omega, rfl, rfl, Below.refl _ _⟩
    case round =>
      obtain ⟨k, hk, rfl, rfl, hbr⟩ := hrel
      have kt := KT.out _ hbr
      have hdk : df ct.opts t.opts k ≤ k := df_bound _ _ k
      by_cases hlt : k < t.opts.length
      · obtain ⟨b, off, b', off', rfl, rfl, hce⟩ := HCELL.out k hlt
        have HCE : Hid _ := hce
        obtain ⟨x, hx⟩ : ∃ x, gz t.opts k = x := ⟨_, rfl⟩
        obtain ⟨y, hy⟩ : ∃ y, gz ct.opts k = y := ⟨_, rfl⟩
        have HDF : Hid (df ct.opts t.opts (k + 1) = df ct.opts t.opts k + (if y = x then 0 else 1)) := by
          have : df ct.opts t.opts (k + 1) = df ct.opts t.opts k + (if y = x then 0 else 1) := by rw [← hx, ← hy]; rfl
          exact this
        rw [hx, hy] at HCE
        generalize df ct.opts t.opts k = dk at *
        clear hce hx hy
        go_wp2_with fail
        have hd1 : Below w5.heap.size w5 wr.drew := hbr.drew
        refine wp_region_held (S := fun W => Below w5.heap.size w5 W) (by kernel_rfl) ?_
        show wpAnyH _ _ _ _ _ 11 (Array.replicate 11 false) _ wr.drew
        refine take_one (i := 0) (d := some 69) (v := .pointer (some ⟨w3.heap.size, 7, none⟩)) rfl rfl rfl (by kernel_rfl) (by kernel_rfl) (by kernel_rfl) (fun _ _ d _ _ h => by cases d <;> exact h) (fun W hS => ex_fieldTL 7 rfl rfl) hd1 ?_
        simp only [Act.put, List.setIfInBounds_toArray, List.set_cons_zero, List.set_cons_succ]
        refine take_one (i := 1) (d := some 70) (v := .slice (some ⟨b', off', none⟩) t.opts.length ko') rfl rfl rfl (by kernel_rfl) (by kernel_rfl) (by kernel_rfl) (fun _ _ d _ _ h => by cases d <;> exact h) (fun W hS => ex_load 69 rfl rfl (KC.out W hS) ⟨_, _, _, rfl⟩) hd1 ?_
        simp only [Act.put, List.setIfInBounds_toArray, List.set_cons_zero, List.set_cons_succ]
        refine take_one (i := 2) (d := some 71) (v := .int .i64 (k : Int)) rfl rfl rfl (by kernel_rfl) (by kernel_rfl) (by kernel_rfl) (fun _ _ d _ _ h => by cases d <;> exact h) (fun W hS => ex_moveL (.tmp 12) rfl rfl) hd1 ?_
        simp only [Act.put, List.setIfInBounds_toArray, List.set_cons_zero, List.set_cons_succ]
        refine take_one (i := 3) (d := some 72) (v := .pointer (some ⟨b', off' + k, none⟩)) rfl rfl rfl (by kernel_rfl) (by kernel_rfl) (by kernel_rfl) (fun _ _ d _ _ h => by cases d <;> exact h) (fun W hS => ex_indexV 70 71 rfl rfl rfl hlt) hd1 ?_
        simp only [Act.put, List.setIfInBounds_toArray, List.set_cons_zero, List.set_cons_succ]
        refine take_one (i := 4) (d := some 73) (v := .int .u8 y) rfl rfl rfl (by kernel_rfl) (by kernel_rfl) (by kernel_rfl) (fun _ _ d _ _ h => by cases d <;> exact h) (fun W hS => ex_load8L 72 rfl rfl (HCE.out W hS).2) hd1 ?_
        simp only [Act.put, List.setIfInBounds_toArray, List.set_cons_zero, List.set_cons_succ]
        refine take_one (i := 5) (d := some 74) (v := .pointer (some ⟨w.heap.size, 7, none⟩)) rfl rfl rfl (by kernel_rfl) (by kernel_rfl) (by kernel_rfl) (fun _ _ d _ _ h => by cases d <;> exact h) (fun W hS => ex_fieldTL 2 rfl rfl) hd1 ?_
        simp only [Act.put, List.setIfInBounds_toArray, List.set_cons_zero, List.set_cons_succ]
        refine take_one (i := 6) (d := some 75) (v := .slice (some ⟨b, off, none⟩) t.opts.length ko) rfl rfl rfl (by kernel_rfl) (by kernel_rfl) (by kernel_rfl) (fun _ _ d _ _ h => by cases d <;> exact h) (fun W hS => ex_load 74 rfl rfl (KT.out W hS) ⟨_, _, _, rfl⟩) hd1 ?_
        simp only [Act.put, List.setIfInBounds_toArray, List.set_cons_zero, List.set_cons_succ]
        refine take_one (i := 7) (d := some 76) (v := .int .i64 (k : Int)) rfl rfl rfl (by kernel_rfl) (by kernel_rfl) (by kernel_rfl) (fun _ _ d _ _ h => by cases d <;> exact h) (fun W hS => ex_moveL (.tmp 12) rfl rfl) hd1 ?_
        simp only [Act.put, List.setIfInBounds_toArray, List.set_cons_zero, List.set_cons_succ]
        refine take_one (i := 8) (d := some 77) (v := .pointer (some ⟨b, off + k, none⟩)) rfl rfl rfl (by kernel_rfl) (by kernel_rfl) (by kernel_rfl) (fun _ _ d _ _ h => by cases d <;> exact h) (fun W hS => ex_indexV 75 76 rfl rfl rfl hlt) hd1 ?_
        simp only [Act.put, List.setIfInBounds_toArray, List.set_cons_zero, List.set_cons_succ]
        refine take_one (i := 9) (d := some 78) (v := .int .u8 x) rfl rfl rfl (by kernel_rfl) (by kernel_rfl) (by kernel_rfl) (fun _ _ d _ _ h => by cases d <;> exact h) (fun W hS => ex_load8L 77 rfl rfl (HCE.out W hS).1) hd1 ?_
        simp only [Act.put, List.setIfInBounds_toArray, List.set_cons_zero, List.set_cons_succ]
        refine take_one (i := 10) (d := some 79) (v := .bool (y != x)) rfl rfl rfl (by kernel_rfl) (by kernel_rfl) (by kernel_rfl) (fun _ _ d _ _ h => by cases d <;> exact h) (fun W hS => ex_neq8 73 78 rfl rfl rfl) hd1 ?_
        simp only [Act.put, List.setIfInBounds_toArray, List.set_cons_zero, List.set_cons_succ]
        refine wpAnyH_done (by kernel_rfl) ?_ _
        by_cases hyx : y = x
        · have q : (y != x) = false := by simpa using hyx
          rw [q]
          have HD2 : Hid (df ct.opts t.opts (k + 1) = dk) := by
            have := HDF.out
            rw [if_pos hyx] at this
            exact this
          clear hyx HDF q
          go_wp2
          exact ⟨⟨k + 1, by omega, by simp, by rw [HD2.out], hd1⟩, by simp [intOf]; omega⟩
        · have q : (y != x) = true := by simpa using hyx
          rw [q]
          have HD2 : Hid (df ct.opts t.opts (k + 1) = dk + 1) := by
            have := HDF.out
            rw [if_neg hyx] at this
            exact this
          clear hyx HDF q
          go_wp2
          exact ⟨⟨k + 1, by omega, by simp, by rw [HD2.out]; simp, hd1⟩, by simp [intOf]; omega⟩
      · obtain rfl : k = t.opts.length := by omega
        rw [HDN.out]
        have kcr := KC.out _ hbr
        have bR := blk_on B5.out hbr
        have fR := blk_open bR 7
        have dR := blk_set bR 7 (.slice ao t.opts.length ko)
        have oR := (Only.refl w3.heap.size wr).set 7 (.slice ao t.opts.length ko)
        obtain ⟨w6, hw6⟩ : ∃ w6, wr.setCell ⟨w3.heap.size, 7, none⟩ (.slice ao t.opts.length ko) = w6 := ⟨_, rfl⟩
        rw [hw6] at dR oR
        have hs5 := HY35.out.size
        have hx6 : Below W0.heap.size W0 w6 := (HX5.out.trans (hbr.mono HX5.out.size)).trans (oR.below HX3.out.size)
        have hy6 : Below w3.heap.size w3 w6 := (HY35.out.trans (hbr.mono hs5)).trans (oR.below (Nat.le_refl _))
        have hset : d.set 7 (.slice ao t.opts.length ko) = [.int .u16 t.src, .int .u16 t.dst, .int .u32 t.seq, .int .u32 t.ack, .int .u8 t.fl, .int .u16 t.win, .int .u16 t.urg, .slice ao t.opts.length ko, vd'] := by
          have e1 := HDD.out
          have e2 := HREST.out
          rw [e1, e2]
          rfl
        rw [hset] at dR
        have hdat : BytesAt w3.heap.size w3 vd' t.data := by
          have q := HVDC.out
          rw [HREST.out] at q
          exact q
        have hT6 : TcpC w6 [.int .u16 t.src, .int .u16 t.dst, .int .u32 t.seq, .int .u32 t.ack, .int .u8 t.fl, .int .u16 t.win, .int .u16 t.urg, .slice ao t.opts.length ko, vd'] t := by
          obtain ⟨_, fs, fd, fq, fa, ff, fw, fu⟩ := HFIT.out
          exact ⟨⟨_, _, rfl, (HRO.out w6 hx6).bytes, hdat.later hy6⟩, fs, fd, fq, fa, ff, fw, fu⟩
        have L7 : Hid _ := agg_load (t := 34) Try.isAgg34 Try.sizeOf34 rfl (CellsAt.of_blk dR)
        have L2 : Hid _ := HL.out w6 hx6
        have SM : Hid (Calls Try.prog 27 #[.agg [.int .u16 t.src, .int .u16 t.dst, .int .u32 t.seq, .int .u32 t.ack, .int .u8 t.fl, .int .u16 t.win, .int .u16 t.urg, .slice ao t.opts.length ko, vd'].toArray, .agg c.toArray] w6 fun e w' => e = .returned (.bool true) ∧ Below w6.heap.size w6 w') := by
          have kk := RSameTCP_calls w6 hT6 (HT.out w6 hx6)
          rw [sameT_self] at kk
          exact kk
        have HF : Hid (Below w.heap.size w w6) := HB.out.trans (hx6.mono HB.out.size)
        skip
        skip
        clear dR oR bR hx6 hy6 hset hdat hT6 hdk hs5
        go_wp2_with first
          | ((with_reducible show wpList _ _ _ _ _ _); refine arm_load rfl (.tmp 7) 34 rfl rfl L7.out ?_)
          | ((with_reducible show wpList _ _ _ _ _ _); refine arm_load rfl (.tmp 2) 34 rfl rfl L2.out ?_)
        refine Calls.mono SM.out ?_
        rintro _ w7 ⟨rfl, hz7⟩
        have HZ : Hid _ := HF.out.trans (hz7.mono HF.out.size)
        clear hz7
        go_wp2
        go_ret
        exact ⟨rfl, HZ.out⟩
  · skip
    clear hnone
    go_enter Try.func11, Try.ntmps11
    go_wp2_with fail
    refine Calls.mono (awake_calls6 _) ?_
    rintro _ w1 ⟨rfl, hx1⟩
    go_wp2_with ((with_reducible show wpList _ _ _ _ _ _); refine arm_load rfl (.tmp 2) 34 rfl rfl (HL.out _ hx1) ?_)
    refine Calls.mono (M1.out _ hx1) ?_
    rintro _ w2' ⟨rfl, hb2⟩
    have hx2 := hx1.trans (hb2.mono hx1.size)
    clear hb2
    go_wp2_with ((with_reducible show wpList _ _ _ _ _ _); refine arm_load rfl (.tmp 2) 34 rfl rfl (HL.out _ hx2) ?_)
    refine Calls.mono (M3.out _ hx2) ?_
    rintro _ w3 ⟨d, rfl, hd3, hb3⟩
    obtain ⟨w4, hst4, b4, hb4⟩ := box_new Try.sizeOf34 w3 [.int .u16 0, .int .u16 0, .int .u32 0, .int .u32 0, .int .u8 0, .int .u16 0, .int .u16 0, .slice none 0 0, .slice none 0 0] rfl d hd3.all.len hd3.all.one
    have hx3 := hx2.trans (hb3.mono hx2.size)
    have hx4 := hx3.trans (hb4.mono hx3.size)
    have HM5 : Hid _ := M1B.out w4 d (hd3.on hb4)
    have HD3 : Hid _ := hd3
    have HB4 : Hid _ := hb4
    have B4 : Hid _ := b4
    have HST4 : Hid _ := hst4
    have HX3 : Hid _ := hx3
    have L4 : Hid _ := agg_load (t := 34) Try.isAgg34 Try.sizeOf34 hd3.all.len (CellsAt.of_blk b4)
    clear hd3 hb3 hb4 hst4 b4 hx3
    go_wp2_with first
      | ((with_reducible show wpList _ _ _ _ _ _); refine arm_store rfl (.tmp 7) (.tmp 24) 34 rfl rfl rfl HST4.out ?_)
      | ((with_reducible show wpList _ _ _ _ _ _); refine arm_load rfl (.tmp 7) 34 rfl rfl L4.out ?_)
    refine Calls.mono HM5.out ?_
    rintro _ w5 ⟨rfl, hb5⟩
    have hx5 := hx4.trans (hb5.mono hx4.size)
    have hy35 := HB4.out.trans (hb5.mono HB4.out.size)
    have B5 : Hid _ := blk_on B4.out hb5
    obtain ⟨vo', vd', hdd, hro', hvd'⟩ := HD3.out.val
    have hctl := hlen
    have HROC : Hid _ := hro'
    have HVDC : Hid _ := hvd'
    obtain ⟨ao', ko', rfl, _⟩ := hro'.val
    rw [hctl] at hdd
    have HDD : Hid _ := hdd
    have KC : Hid (∀ W, Below w5.heap.size w5 W → W.cell? ⟨w3.heap.size, 7, none⟩ = some (.slice ao' t.opts.length ko')) := fun W hW => blk_cell (j := 7) (blk_on B5.out hW) (by rw [HDD.out]; rfl)
    have KT : Hid (∀ W, Below w5.heap.size w5 W → W.cell? ⟨w.heap.size, 7, none⟩ = some (.slice ao t.opts.length ko)) := fun W hW => HK7.out W (hx5.trans (hW.mono hx5.size))
    have kc5 := KC.out w5 (Below.refl _ _)
    have kt5 := KT.out w5 (Below.refl _ _)
    have HCELL : Hid (∀ k, k < t.opts.length → ∃ b off b' off', ao = some ⟨b, off, none⟩ ∧ ao' = some ⟨b', off', none⟩ ∧ (∀ W, Below w5.heap.size w5 W → W.cell? ⟨b, off + k, none⟩ = some (.int .u8 (gz t.opts k)) ∧ W.cell? ⟨b', off' + k, none⟩ = some (.int .u8 (gz ct.opts k)))) := fun k hk => by
      obtain ⟨b, off, cp, e1, _, l1, c1⟩ := (HRO.out w5 hx5).some (by omega)
      obtain ⟨b', off', cp', e2, _, l2, c2⟩ := (HROC.out.on hy35).some (by rw [hlen]; omega)
      simp at e1 e2
      refine ⟨b, off, b', off', e1.1, e2.1, fun W hW => ⟨(hW.cell (p := ⟨b, off + k, none⟩) l1).trans (c1 k hk), (hW.cell (p := ⟨b', off' + k, none⟩) l2).trans (c2 k (by rw [hlen]; omega))⟩⟩
    have HX5 : Hid _ := hx5
    have HY35 : Hid _ := hy35
    clear hb5 hdd hro' hvd' hx5 hy35 hx4 hx2 hx1 HM5 L4 HST4 M1 M3 M1B hctl
    go_wp2
    go_loopw [11, 12] (fun x i wr => ∃ k : Nat, k ≤ t.opts.length ∧ i = .int .i64 (k : Int) ∧ x = .int .i64 ((df ct.opts t.opts k : Nat) : Int) ∧ Below w5.heap.size w5 wr) (fun _ i _ => t.opts.length - (intOf i).toNat)
    case atStart => exact ⟨0, by omega, rfl, rfl, Below.refl _ _⟩
    case round =>
      obtain ⟨k, hk, rfl, rfl, hbr⟩ := hrel
      have kt := KT.out _ hbr
      have hdk : df ct.opts t.opts k ≤ k := df_bound _ _ k
      by_cases hlt : k < t.opts.length
      · obtain ⟨b, off, b', off', rfl, rfl, hce⟩ := HCELL.out k hlt
        have HCE : Hid _ := hce
        obtain ⟨x, hx⟩ : ∃ x, gz t.opts k = x := ⟨_, rfl⟩
        obtain ⟨y, hy⟩ : ∃ y, gz ct.opts k = y := ⟨_, rfl⟩
        have HDF : Hid (df ct.opts t.opts (k + 1) = df ct.opts t.opts k + (if y = x then 0 else 1)) := by
          have : df ct.opts t.opts (k + 1) = df ct.opts t.opts k + (if y = x then 0 else 1) := by rw [← hx, ← hy]; rfl
          exact this
        rw [hx, hy] at HCE
        generalize df ct.opts t.opts k = dk at *
        clear hce hx hy
        go_wp2_with fail
        have hd1 : Below w5.heap.size w5 wr.drew := hbr.drew
        refine wp_region_held (S := fun W => Below w5.heap.size w5 W) (by kernel_rfl) ?_
        show wpAnyH _ _ _ _ _ 11 (Array.replicate 11 false) _ wr.drew
        refine take_one (i := 0) (d := some 69) (v := .pointer (some ⟨w3.heap.size, 7, none⟩)) rfl rfl rfl (by kernel_rfl) (by kernel_rfl) (by kernel_rfl) (fun _ _ d _ _ h => by cases d <;> exact h) (fun W hS => ex_fieldTL 7 rfl rfl) hd1 ?_
        simp only [Act.put, List.setIfInBounds_toArray, List.set_cons_zero, List.set_cons_succ]
        refine take_one (i := 1) (d := some 70) (v := .slice (some ⟨b', off', none⟩) t.opts.length ko') rfl rfl rfl (by kernel_rfl) (by kernel_rfl) (by kernel_rfl) (fun _ _ d _ _ h => by cases d <;> exact h) (fun W hS => ex_load 69 rfl rfl (KC.out W hS) ⟨_, _, _, rfl⟩) hd1 ?_
        simp only [Act.put, List.setIfInBounds_toArray, List.set_cons_zero, List.set_cons_succ]
        refine take_one (i := 2) (d := some 71) (v := .int .i64 (k : Int)) rfl rfl rfl (by kernel_rfl) (by kernel_rfl) (by kernel_rfl) (fun _ _ d _ _ h => by cases d <;> exact h) (fun W hS => ex_moveL (.tmp 12) rfl rfl) hd1 ?_
        simp only [Act.put, List.setIfInBounds_toArray, List.set_cons_zero, List.set_cons_succ]
        refine take_one (i := 3) (d := some 72) (v := .pointer (some ⟨b', off' + k, none⟩)) rfl rfl rfl (by kernel_rfl) (by kernel_rfl) (by kernel_rfl) (fun _ _ d _ _ h => by cases d <;> exact h) (fun W hS => ex_indexV 70 71 rfl rfl rfl hlt) hd1 ?_
        simp only [Act.put, List.setIfInBounds_toArray, List.set_cons_zero, List.set_cons_succ]
        refine take_one (i := 4) (d := some 73) (v := .int .u8 y) rfl rfl rfl (by kernel_rfl) (by kernel_rfl) (by kernel_rfl) (fun _ _ d _ _ h => by cases d <;> exact h) (fun W hS => ex_load8L 72 rfl rfl (HCE.out W hS).2) hd1 ?_
        simp only [Act.put, List.setIfInBounds_toArray, List.set_cons_zero, List.set_cons_succ]
        refine take_one (i := 5) (d := some 74) (v := .pointer (some ⟨w.heap.size, 7, none⟩)) rfl rfl rfl (by kernel_rfl) (by kernel_rfl) (by kernel_rfl) (fun _ _ d _ _ h => by cases d <;> exact h) (fun W hS => ex_fieldTL 2 rfl rfl) hd1 ?_
        simp only [Act.put, List.setIfInBounds_toArray, List.set_cons_zero, List.set_cons_succ]
        refine take_one (i := 6) (d := some 75) (v := .slice (some ⟨b, off, none⟩) t.opts.length ko) rfl rfl rfl (by kernel_rfl) (by kernel_rfl) (by kernel_rfl) (fun _ _ d _ _ h => by cases d <;> exact h) (fun W hS => ex_load 74 rfl rfl (KT.out W hS) ⟨_, _, _, rfl⟩) hd1 ?_
        simp only [Act.put, List.setIfInBounds_toArray, List.set_cons_zero, List.set_cons_succ]
        refine take_one (i := 7) (d := some 76) (v := .int .i64 (k : Int)) rfl rfl rfl (by kernel_rfl) (by kernel_rfl) (by kernel_rfl) (fun _ _ d _ _ h => by cases d <;> exact h) (fun W hS => ex_moveL (.tmp 12) rfl rfl) hd1 ?_
        simp only [Act.put, List.setIfInBounds_toArray, List.set_cons_zero, List.set_cons_succ]
        refine take_one (i := 8) (d := some 77) (v := .pointer (some ⟨b, off + k, none⟩)) rfl rfl rfl (by kernel_rfl) (by kernel_rfl) (by kernel_rfl) (fun _ _ d _ _ h => by cases d <;> exact h) (fun W hS => ex_indexV 75 76 rfl rfl rfl hlt) hd1 ?_
        simp only [Act.put, List.setIfInBounds_toArray, List.set_cons_zero, List.set_cons_succ]
        refine take_one (i := 9) (d := some 78) (v := .int .u8 x) rfl rfl rfl (by kernel_rfl) (by kernel_rfl) (by kernel_rfl) (fun _ _ d _ _ h => by cases d <;> exact h) (fun W hS => ex_load8L 77 rfl rfl (HCE.out W hS).1) hd1 ?_
        simp only [Act.put, List.setIfInBounds_toArray, List.set_cons_zero, List.set_cons_succ]
        refine take_one (i := 10) (d := some 79) (v := .bool (y != x)) rfl rfl rfl (by kernel_rfl) (by kernel_rfl) (by kernel_rfl) (fun _ _ d _ _ h => by cases d <;> exact h) (fun W hS => ex_neq8 73 78 rfl rfl rfl) hd1 ?_
        simp only [Act.put, List.setIfInBounds_toArray, List.set_cons_zero, List.set_cons_succ]
        refine wpAnyH_done (by kernel_rfl) ?_ _
        by_cases hyx : y = x
        · have q : (y != x) = false := by simpa using hyx
          rw [q]
          have HD2 : Hid (df ct.opts t.opts (k + 1) = dk) := by
            have := HDF.out
            rw [if_pos hyx] at this
            exact this
          clear hyx HDF q
          go_wp2
          exact ⟨⟨k + 1, by omega, by simp, by rw [HD2.out], hd1⟩, by simp [intOf]; omega⟩
        · have q : (y != x) = true := by simpa using hyx
          rw [q]
          have HD2 : Hid (df ct.opts t.opts (k + 1) = dk + 1) := by
            have := HDF.out
            rw [if_neg hyx] at this
            exact this
          clear hyx HDF q
          go_wp2
          exact ⟨⟨k + 1, by omega, by simp, by rw [HD2.out]; simp, hd1⟩, by simp [intOf]; omega⟩
      · obtain rfl : k = t.opts.length := by omega
        rw [HDN.out]
        have kcr := KC.out _ hbr
        have bR := blk_on B5.out hbr
        have fR := blk_open bR 7
        have dR := blk_set bR 7 (.slice ao t.opts.length ko)
        have oR := (Only.refl w3.heap.size wr).set 7 (.slice ao t.opts.length ko)
        obtain ⟨w6, hw6⟩ : ∃ w6, wr.setCell ⟨w3.heap.size, 7, none⟩ (.slice ao t.opts.length ko) = w6 := ⟨_, rfl⟩
        rw [hw6] at dR oR
        have hs5 := HY35.out.size
        have hx6 : Below W0.heap.size W0 w6 := (HX5.out.trans (hbr.mono HX5.out.size)).trans (oR.below HX3.out.size)
        have hy6 : Below w3.heap.size w3 w6 := (HY35.out.trans (hbr.mono hs5)).trans (oR.below (Nat.le_refl _))
        have hset : d.set 7 (.slice ao t.opts.length ko) = [.int .u16 t.src, .int .u16 t.dst, .int .u32 t.seq, .int .u32 t.ack, .int .u8 t.fl, .int .u16 t.win, .int .u16 t.urg, .slice ao t.opts.length ko, vd'] := by
          have e1 := HDD.out
          have e2 := HREST.out
          rw [e1, e2]
          rfl
        rw [hset] at dR
        have hdat : BytesAt w3.heap.size w3 vd' t.data := by
          have q := HVDC.out
          rw [HREST.out] at q
          exact q
        have hT6 : TcpC w6 [.int .u16 t.src, .int .u16 t.dst, .int .u32 t.seq, .int .u32 t.ack, .int .u8 t.fl, .int .u16 t.win, .int .u16 t.urg, .slice ao t.opts.length ko, vd'] t := by
          obtain ⟨_, fs, fd, fq, fa, ff, fw, fu⟩ := HFIT.out
          exact ⟨⟨_, _, rfl, (HRO.out w6 hx6).bytes, hdat.later hy6⟩, fs, fd, fq, fa, ff, fw, fu⟩
        have L7 : Hid _ := agg_load (t := 34) Try.isAgg34 Try.sizeOf34 rfl (CellsAt.of_blk dR)
        have L2 : Hid _ := HL.out w6 hx6
        have SM : Hid (Calls Try.prog 27 #[.agg [.int .u16 t.src, .int .u16 t.dst, .int .u32 t.seq, .int .u32 t.ack, .int .u8 t.fl, .int .u16 t.win, .int .u16 t.urg, .slice ao t.opts.length ko, vd'].toArray, .agg c.toArray] w6 fun e w' => e = .returned (.bool true) ∧ Below w6.heap.size w6 w') := by
          have kk := RSameTCP_calls w6 hT6 (HT.out w6 hx6)
          rw [sameT_self] at kk
          exact kk
        have HF : Hid (Below w.heap.size w w6) := HB.out.trans (hx6.mono HB.out.size)
        have q2 : (dn : Int) ≤ 2 := by omega
        skip
        clear dR oR bR hx6 hy6 hset hdat hT6 hdk hs5
        go_wp2_with first
          | ((with_reducible show wpList _ _ _ _ _ _); refine arm_load rfl (.tmp 7) 34 rfl rfl L7.out ?_)
          | ((with_reducible show wpList _ _ _ _ _ _); refine arm_load rfl (.tmp 2) 34 rfl rfl L2.out ?_)
        refine Calls.mono SM.out ?_
        rintro _ w7 ⟨rfl, hz7⟩
        have HZ : Hid _ := HF.out.trans (hz7.mono HF.out.size)
        clear hz7
        go_wp2
        go_ret
        exact ⟨rfl, HZ.out⟩
  · skip
    clear hnone
    go_enter Try.func11, Try.ntmps11
    go_wp2_with fail
    refine Calls.mono (awake_calls6 _) ?_
    rintro _ w1 ⟨rfl, hx1⟩
    go_wp2_with ((with_reducible show wpList _ _ _ _ _ _); refine arm_load rfl (.tmp 2) 34 rfl rfl (HL.out _ hx1) ?_)
    refine Calls.mono (M1.out _ hx1) ?_
    rintro _ w2' ⟨rfl, hb2⟩
    have hx2 := hx1.trans (hb2.mono hx1.size)
    clear hb2
    go_wp2_with ((with_reducible show wpList _ _ _ _ _ _); refine arm_load rfl (.tmp 2) 34 rfl rfl (HL.out _ hx2) ?_)
    refine Calls.mono (M3.out _ hx2) ?_
    rintro _ w3 ⟨d, rfl, hd3, hb3⟩
    obtain ⟨w4, hst4, b4, hb4⟩ := box_new Try.sizeOf34 w3 [.int .u16 0, .int .u16 0, .int .u32 0, .int .u32 0, .int .u8 0, .int .u16 0, .int .u16 0, .slice none 0 0, .slice none 0 0] rfl d hd3.all.len hd3.all.one
    have hx3 := hx2.trans (hb3.mono hx2.size)
    have hx4 := hx3.trans (hb4.mono hx3.size)
    have HM5 : Hid _ := M1B.out w4 d (hd3.on hb4)
    have HD3 : Hid _ := hd3
    have HB4 : Hid _ := hb4
    have B4 : Hid _ := b4
    have HST4 : Hid _ := hst4
    have HX3 : Hid _ := hx3
    have L4 : Hid _ := agg_load (t := 34) Try.isAgg34 Try.sizeOf34 hd3.all.len (CellsAt.of_blk b4)
    clear hd3 hb3 hb4 hst4 b4 hx3
    go_wp2_with first
      | ((with_reducible show wpList _ _ _ _ _ _); refine arm_store rfl (.tmp 7) (.tmp 24) 34 rfl rfl rfl HST4.out ?_)
      | ((with_reducible show wpList _ _ _ _ _ _); refine arm_load rfl (.tmp 7) 34 rfl rfl L4.out ?_)
    refine Calls.mono HM5.out ?_
    rintro _ w5 ⟨rfl, hb5⟩
    have hx5 := hx4.trans (hb5.mono hx4.size)
    have hy35 := HB4.out.trans (hb5.mono HB4.out.size)
    have B5 : Hid _ := blk_on B4.out hb5
    obtain ⟨vo', vd', hdd, hro', hvd'⟩ := HD3.out.val
    have hctl := hlen
    have HROC : Hid _ := hro'
    have HVDC : Hid _ := hvd'
    obtain ⟨ao', ko', rfl, _⟩ := hro'.val
    rw [hctl] at hdd
    have HDD : Hid _ := hdd
    have KC : Hid (∀ W, Below w5.heap.size w5 W → W.cell? ⟨w3.heap.size, 7, none⟩ = some (.slice ao' t.opts.length ko')) := fun W hW => blk_cell (j := 7) (blk_on B5.out hW) (by rw [HDD.out]; rfl)
    have KT : Hid (∀ W, Below w5.heap.size w5 W → W.cell? ⟨w.heap.size, 7, none⟩ = some (.slice ao t.opts.length ko)) := fun W hW => HK7.out W (hx5.trans (hW.mono hx5.size))
    have kc5 := KC.out w5 (Below.refl _ _)
    have kt5 := KT.out w5 (Below.refl _ _)
    have HCELL : Hid (∀ k, k < t.opts.length → ∃ b off b' off', ao = some ⟨b, off, none⟩ ∧ ao' = some ⟨b', off', none⟩ ∧ (∀ W, Below w5.heap.size w5 W → W.cell? ⟨b, off + k, none⟩ = some (.int .u8 (gz t.opts k)) ∧ W.cell? ⟨b', off' + k, none⟩ = some (.int .u8 (gz ct.opts k)))) := fun k hk => by
      obtain ⟨b, off, cp, e1, _, l1, c1⟩ := (HRO.out w5 hx5).some (by omega)
      obtain ⟨b', off', cp', e2, _, l2, c2⟩ := (HROC.out.on hy35).some (by rw [hlen]; omega)
      simp at e1 e2
      refine ⟨b, off, b', off', e1.1, e2.1, fun W hW => ⟨(hW.cell (p := ⟨b, off + k, none⟩) l1).trans (c1 k hk), (hW.cell (p := ⟨b', off' + k, none⟩) l2).trans (c2 k (by rw [hlen]; omega))⟩⟩
    have HX5 : Hid _ := hx5
    have HY35 : Hid _ := hy35
    clear hb5 hdd hro' hvd' hx5 hy35 hx4 hx2 hx1 HM5 L4 HST4 M1 M3 M1B hctl
    go_wp2
    go_loopw [11, 12] (fun x i wr => ∃ k : Nat, k ≤ t.opts.length ∧ i = .int .i64 (k : Int) ∧ x = .int .i64 ((df ct.opts t.opts k : Nat) : Int) ∧ Below w5.heap.size w5 wr) (fun _ i _ => t.opts.length - (intOf i).toNat)
    case atStart => exact ⟨0, by omega, rfl, rfl, Below.refl _ _⟩
    case round =>
      obtain ⟨k, hk, rfl, rfl, hbr⟩ := hrel
      have kt := KT.out _ hbr
      have hdk : df ct.opts t.opts k ≤ k := df_bound _ _ k
      by_cases hlt : k < t.opts.length
      · obtain ⟨b, off, b', off', rfl, rfl, hce⟩ := HCELL.out k hlt
        have HCE : Hid _ := hce
        obtain ⟨x, hx⟩ : ∃ x, gz t.opts k = x := ⟨_, rfl⟩
        obtain ⟨y, hy⟩ : ∃ y, gz ct.opts k = y := ⟨_, rfl⟩
        have HDF : Hid (df ct.opts t.opts (k + 1) = df ct.opts t.opts k + (if y = x then 0 else 1)) := by
          have : df ct.opts t.opts (k + 1) = df ct.opts t.opts k + (if y = x then 0 else 1) := by rw [← hx, ← hy]; rfl
          exact this
        rw [hx, hy] at HCE
        generalize df ct.opts t.opts k = dk at *
        clear hce hx hy
        go_wp2_with fail
        have hd1 : Below w5.heap.size w5 wr.drew := hbr.drew
        refine wp_region_held (S := fun W => Below w5.heap.size w5 W) (by kernel_rfl) ?_
        show wpAnyH _ _ _ _ _ 11 (Array.replicate 11 false) _ wr.drew
        refine take_one (i := 0) (d := some 69) (v := .pointer (some ⟨w3.heap.size, 7, none⟩)) rfl rfl rfl (by kernel_rfl) (by kernel_rfl) (by kernel_rfl) (fun _ _ d _ _ h => by cases d <;> exact h) (fun W hS => ex_fieldTL 7 rfl rfl) hd1 ?_
        simp only [Act.put, List.setIfInBounds_toArray, List.set_cons_zero, List.set_cons_succ]
        refine take_one (i := 1) (d := some 70) (v := .slice (some ⟨b', off', none⟩) t.opts.length ko') rfl rfl rfl (by kernel_rfl) (by kernel_rfl) (by kernel_rfl) (fun _ _ d _ _ h => by cases d <;> exact h) (fun W hS => ex_load 69 rfl rfl (KC.out W hS) ⟨_, _, _, rfl⟩) hd1 ?_
        simp only [Act.put, List.setIfInBounds_toArray, List.set_cons_zero, List.set_cons_succ]
        refine take_one (i := 2) (d := some 71) (v := .int .i64 (k : Int)) rfl rfl rfl (by kernel_rfl) (by kernel_rfl) (by kernel_rfl) (fun _ _ d _ _ h => by cases d <;> exact h) (fun W hS => ex_moveL (.tmp 12) rfl rfl) hd1 ?_
        simp only [Act.put, List.setIfInBounds_toArray, List.set_cons_zero, List.set_cons_succ]
        refine take_one (i := 3) (d := some 72) (v := .pointer (some ⟨b', off' + k, none⟩)) rfl rfl rfl (by kernel_rfl) (by kernel_rfl) (by kernel_rfl) (fun _ _ d _ _ h => by cases d <;> exact h) (fun W hS => ex_indexV 70 71 rfl rfl rfl hlt) hd1 ?_
        simp only [Act.put, List.setIfInBounds_toArray, List.set_cons_zero, List.set_cons_succ]
        refine take_one (i := 4) (d := some 73) (v := .int .u8 y) rfl rfl rfl (by kernel_rfl) (by kernel_rfl) (by kernel_rfl) (fun _ _ d _ _ h => by cases d <;> exact h) (fun W hS => ex_load8L 72 rfl rfl (HCE.out W hS).2) hd1 ?_
        simp only [Act.put, List.setIfInBounds_toArray, List.set_cons_zero, List.set_cons_succ]
        refine take_one (i := 5) (d := some 74) (v := .pointer (some ⟨w.heap.size, 7, none⟩)) rfl rfl rfl (by kernel_rfl) (by kernel_rfl) (by kernel_rfl) (fun _ _ d _ _ h => by cases d <;> exact h) (fun W hS => ex_fieldTL 2 rfl rfl) hd1 ?_
        simp only [Act.put, List.setIfInBounds_toArray, List.set_cons_zero, List.set_cons_succ]
        refine take_one (i := 6) (d := some 75) (v := .slice (some ⟨b, off, none⟩) t.opts.length ko) rfl rfl rfl (by kernel_rfl) (by kernel_rfl) (by kernel_rfl) (fun _ _ d _ _ h => by cases d <;> exact h) (fun W hS => ex_load 74 rfl rfl (KT.out W hS) ⟨_, _, _, rfl⟩) hd1 ?_
        simp only [Act.put, List.setIfInBounds_toArray, List.set_cons_zero, List.set_cons_succ]
        refine take_one (i := 7) (d := some 76) (v := .int .i64 (k : Int)) rfl rfl rfl (by kernel_rfl) (by kernel_rfl) (by kernel_rfl) (fun _ _ d _ _ h => by cases d <;> exact h) (fun W hS => ex_moveL (.tmp 12) rfl rfl) hd1 ?_
        simp only [Act.put, List.setIfInBounds_toArray, List.set_cons_zero, List.set_cons_succ]
        refine take_one (i := 8) (d := some 77) (v := .pointer (some ⟨b, off + k, none⟩)) rfl rfl rfl (by kernel_rfl) (by kernel_rfl) (by kernel_rfl) (fun _ _ d _ _ h => by cases d <;> exact h) (fun W hS => ex_indexV 75 76 rfl rfl rfl hlt) hd1 ?_
        simp only [Act.put, List.setIfInBounds_toArray, List.set_cons_zero, List.set_cons_succ]
        refine take_one (i := 9) (d := some 78) (v := .int .u8 x) rfl rfl rfl (by kernel_rfl) (by kernel_rfl) (by kernel_rfl) (fun _ _ d _ _ h => by cases d <;> exact h) (fun W hS => ex_load8L 77 rfl rfl (HCE.out W hS).1) hd1 ?_
        simp only [Act.put, List.setIfInBounds_toArray, List.set_cons_zero, List.set_cons_succ]
        refine take_one (i := 10) (d := some 79) (v := .bool (y != x)) rfl rfl rfl (by kernel_rfl) (by kernel_rfl) (by kernel_rfl) (fun _ _ d _ _ h => by cases d <;> exact h) (fun W hS => ex_neq8 73 78 rfl rfl rfl) hd1 ?_
        simp only [Act.put, List.setIfInBounds_toArray, List.set_cons_zero, List.set_cons_succ]
        refine wpAnyH_done (by kernel_rfl) ?_ _
        by_cases hyx : y = x
        · have q : (y != x) = false := by simpa using hyx
          rw [q]
          have HD2 : Hid (df ct.opts t.opts (k + 1) = dk) := by
            have := HDF.out
            rw [if_pos hyx] at this
            exact this
          clear hyx HDF q
          go_wp2
          exact ⟨⟨k + 1, by omega, by simp, by rw [HD2.out], hd1⟩, by simp [intOf]; omega⟩
        · have q : (y != x) = true := by simpa using hyx
          rw [q]
          have HD2 : Hid (df ct.opts t.opts (k + 1) = dk + 1) := by
            have := HDF.out
            rw [if_neg hyx] at this
            exact this
          clear hyx HDF q
          go_wp2
          exact ⟨⟨k + 1, by omega, by simp, by rw [HD2.out]; simp, hd1⟩, by simp [intOf]; omega⟩
      · obtain rfl : k = t.opts.length := by omega
        rw [HDN.out]
        have kcr := KC.out _ hbr
        have bR := blk_on B5.out hbr
        have fR := blk_open bR 7
        have dR := blk_set bR 7 (.slice ao t.opts.length ko)
        have oR := (Only.refl w3.heap.size wr).set 7 (.slice ao t.opts.length ko)
        obtain ⟨w6, hw6⟩ : ∃ w6, wr.setCell ⟨w3.heap.size, 7, none⟩ (.slice ao t.opts.length ko) = w6 := ⟨_, rfl⟩
        rw [hw6] at dR oR
        have hs5 := HY35.out.size
        have hx6 : Below W0.heap.size W0 w6 := (HX5.out.trans (hbr.mono HX5.out.size)).trans (oR.below HX3.out.size)
        have hy6 : Below w3.heap.size w3 w6 := (HY35.out.trans (hbr.mono hs5)).trans (oR.below (Nat.le_refl _))
        have hset : d.set 7 (.slice ao t.opts.length ko) = [.int .u16 t.src, .int .u16 t.dst, .int .u32 t.seq, .int .u32 t.ack, .int .u8 t.fl, .int .u16 t.win, .int .u16 t.urg, .slice ao t.opts.length ko, vd'] := by
          have e1 := HDD.out
          have e2 := HREST.out
          rw [e1, e2]
          rfl
        rw [hset] at dR
        have hdat : BytesAt w3.heap.size w3 vd' t.data := by
          have q := HVDC.out
          rw [HREST.out] at q
          exact q
        have hT6 : TcpC w6 [.int .u16 t.src, .int .u16 t.dst, .int .u32 t.seq, .int .u32 t.ack, .int .u8 t.fl, .int .u16 t.win, .int .u16 t.urg, .slice ao t.opts.length ko, vd'] t := by
          obtain ⟨_, fs, fd, fq, fa, ff, fw, fu⟩ := HFIT.out
          exact ⟨⟨_, _, rfl, (HRO.out w6 hx6).bytes, hdat.later hy6⟩, fs, fd, fq, fa, ff, fw, fu⟩
        have L7 : Hid _ := agg_load (t := 34) Try.isAgg34 Try.sizeOf34 rfl (CellsAt.of_blk dR)
        have L2 : Hid _ := HL.out w6 hx6
        have SM : Hid (Calls Try.prog 27 #[.agg [.int .u16 t.src, .int .u16 t.dst, .int .u32 t.seq, .int .u32 t.ack, .int .u8 t.fl, .int .u16 t.win, .int .u16 t.urg, .slice ao t.opts.length ko, vd'].toArray, .agg c.toArray] w6 fun e w' => e = .returned (.bool true) ∧ Below w6.heap.size w6 w') := by
          have kk := RSameTCP_calls w6 hT6 (HT.out w6 hx6)
          rw [sameT_self] at kk
          exact kk
        have HF : Hid (Below w.heap.size w w6) := HB.out.trans (hx6.mono HB.out.size)
        have q2 : (dn : Int) ≤ 2 := by omega
        skip
        clear dR oR bR hx6 hy6 hset hdat hT6 hdk hs5
        go_wp2_with first
          | ((with_reducible show wpList _ _ _ _ _ _); refine arm_load rfl (.tmp 7) 34 rfl rfl L7.out ?_)
          | ((with_reducible show wpList _ _ _ _ _ _); refine arm_load rfl (.tmp 2) 34 rfl rfl L2.out ?_)
        refine Calls.mono SM.out ?_
        rintro _ w7 ⟨rfl, hz7⟩
        have HZ : Hid _ := HF.out.trans (hz7.mono HF.out.size)
        clear hz7
        go_wp2
        go_ret
        exact ⟨rfl, HZ.out⟩
  · skip
    clear hnone
    go_enter Try.func11, Try.ntmps11
    go_wp2_with fail
    refine Calls.mono (awake_calls6 _) ?_
    rintro _ w1 ⟨rfl, hx1⟩
    go_wp2_with ((with_reducible show wpList _ _ _ _ _ _); refine arm_load rfl (.tmp 2) 34 rfl rfl (HL.out _ hx1) ?_)
    refine Calls.mono (M1.out _ hx1) ?_
    rintro _ w2' ⟨rfl, hb2⟩
    have hx2 := hx1.trans (hb2.mono hx1.size)
    clear hb2
    go_wp2_with ((with_reducible show wpList _ _ _ _ _ _); refine arm_load rfl (.tmp 2) 34 rfl rfl (HL.out _ hx2) ?_)
    refine Calls.mono (M3.out _ hx2) ?_
    rintro _ w3 ⟨d, rfl, hd3, hb3⟩
    obtain ⟨w4, hst4, b4, hb4⟩ := box_new Try.sizeOf34 w3 [.int .u16 0, .int .u16 0, .int .u32 0, .int .u32 0, .int .u8 0, .int .u16 0, .int .u16 0, .slice none 0 0, .slice none 0 0] rfl d hd3.all.len hd3.all.one
    have hx3 := hx2.trans (hb3.mono hx2.size)
    have hx4 := hx3.trans (hb4.mono hx3.size)
    have HM5 : Hid _ := M1B.out w4 d (hd3.on hb4)
    have HD3 : Hid _ := hd3
    have HB4 : Hid _ := hb4
    have B4 : Hid _ := b4
    have HST4 : Hid _ := hst4
    have HX3 : Hid _ := hx3
    have L4 : Hid _ := agg_load (t := 34) Try.isAgg34 Try.sizeOf34 hd3.all.len (CellsAt.of_blk b4)
    clear hd3 hb3 hb4 hst4 b4 hx3
    go_wp2_with first
      | ((with_reducible show wpList _ _ _ _ _ _); refine arm_store rfl (.tmp 7) (.tmp 24) 34 rfl rfl rfl HST4.out ?_)
      | ((with_reducible show wpList _ _ _ _ _ _); refine arm_load rfl (.tmp 7) 34 rfl rfl L4.out ?_)
    refine Calls.mono HM5.out ?_
    rintro _ w5 ⟨rfl, hb5⟩
    have hx5 := hx4.trans (hb5.mono hx4.size)
    have hy35 := HB4.out.trans (hb5.mono HB4.out.size)
    have B5 : Hid _ := blk_on B4.out hb5
    obtain ⟨vo', vd', hdd, hro', hvd'⟩ := HD3.out.val
    have hctl := hlen
    have HROC : Hid _ := hro'
    have HVDC : Hid _ := hvd'
    obtain ⟨ao', ko', rfl, _⟩ := hro'.val
    rw [hctl] at hdd
    have HDD : Hid _ := hdd
    have KC : Hid (∀ W, Below w5.heap.size w5 W → W.cell? ⟨w3.heap.size, 7, none⟩ = some (.slice ao' t.opts.length ko')) := fun W hW => blk_cell (j := 7) (blk_on B5.out hW) (by rw [HDD.out]; rfl)
    have KT : Hid (∀ W, Below w5.heap.size w5 W → W.cell? ⟨w.heap.size, 7, none⟩ = some (.slice ao t.opts.length ko)) := fun W hW => HK7.out W (hx5.trans (hW.mono hx5.size))
    have kc5 := KC.out w5 (Below.refl _ _)
    have kt5 := KT.out w5 (Below.refl _ _)
    have HCELL : Hid (∀ k, k < t.opts.length → ∃ b off b' off', ao = some ⟨b, off, none⟩ ∧ ao' = some ⟨b', off', none⟩ ∧ (∀ W, Below w5.heap.size w5 W → W.cell? ⟨b, off + k, none⟩ = some (.int .u8 (gz t.opts k)) ∧ W.cell? ⟨b', off' + k, none⟩ = some (.int .u8 (gz ct.opts k)))) := fun k hk => by
      obtain ⟨b, off, cp, e1, _, l1, c1⟩ := (HRO.out w5 hx5).some (by omega)
      obtain ⟨b', off', cp', e2, _, l2, c2⟩ := (HROC.out.on hy35).some (by rw [hlen]; omega)
      simp at e1 e2
      refine ⟨b, off, b', off', e1.1, e2.1, fun W hW => ⟨(hW.cell (p := ⟨b, off + k, none⟩) l1).trans (c1 k hk), (hW.cell (p := ⟨b', off' + k, none⟩) l2).trans (c2 k (by rw [hlen]; omega))⟩⟩
    have HX5 : Hid _ := hx5
    have HY35 : Hid _ := hy35
    clear hb5 hdd hro' hvd' hx5 hy35 hx4 hx2 hx1 HM5 L4 HST4 M1 M3 M1B hctl
    go_wp2
    go_loopw [11, 12] (fun x i wr => ∃ k : Nat, k ≤ t.opts.length ∧ i = .int .i64 (k : Int) ∧ x = .int .i64 ((df ct.opts t.opts k : Nat) : Int) ∧ Below w5.heap.size w5 wr) (fun _ i _ => t.opts.length - (intOf i).toNat)
    case atStart => exact ⟨0, by omega, rfl, rfl, Below.refl _ _⟩
    case round =>
      obtain ⟨k, hk, rfl, rfl, hbr⟩ := hrel
      have kt := KT.out _ hbr
      have hdk : df ct.opts t.opts k ≤ k := df_bound _ _ k
      by_cases hlt : k < t.opts.length
      · obtain ⟨b, off, b', off', rfl, rfl, hce⟩ := HCELL.out k hlt
        have HCE : Hid _ := hce
        obtain ⟨x, hx⟩ : ∃ x, gz t.opts k = x := ⟨_, rfl⟩
        obtain ⟨y, hy⟩ : ∃ y, gz ct.opts k = y := ⟨_, rfl⟩
        have HDF : Hid (df ct.opts t.opts (k + 1) = df ct.opts t.opts k + (if y = x then 0 else 1)) := by
          have : df ct.opts t.opts (k + 1) = df ct.opts t.opts k + (if y = x then 0 else 1) := by rw [← hx, ← hy]; rfl
          exact this
        rw [hx, hy] at HCE
        generalize df ct.opts t.opts k = dk at *
        clear hce hx hy
        go_wp2_with fail
        have hd1 : Below w5.heap.size w5 wr.drew := hbr.drew
        refine wp_region_held (S := fun W => Below w5.heap.size w5 W) (by kernel_rfl) ?_
        show wpAnyH _ _ _ _ _ 11 (Array.replicate 11 false) _ wr.drew
        refine take_one (i := 0) (d := some 69) (v := .pointer (some ⟨w3.heap.size, 7, none⟩)) rfl rfl rfl (by kernel_rfl) (by kernel_rfl) (by kernel_rfl) (fun _ _ d _ _ h => by cases d <;> exact h) (fun W hS => ex_fieldTL 7 rfl rfl) hd1 ?_
        simp only [Act.put, List.setIfInBounds_toArray, List.set_cons_zero, List.set_cons_succ]
        refine take_one (i := 1) (d := some 70) (v := .slice (some ⟨b', off', none⟩) t.opts.length ko') rfl rfl rfl (by kernel_rfl) (by kernel_rfl) (by kernel_rfl) (fun _ _ d _ _ h => by cases d <;> exact h) (fun W hS => ex_load 69 rfl rfl (KC.out W hS) ⟨_, _, _, rfl⟩) hd1 ?_
        simp only [Act.put, List.setIfInBounds_toArray, List.set_cons_zero, List.set_cons_succ]
        refine take_one (i := 2) (d := some 71) (v := .int .i64 (k : Int)) rfl rfl rfl (by kernel_rfl) (by kernel_rfl) (by kernel_rfl) (fun _ _ d _ _ h => by cases d <;> exact h) (fun W hS => ex_moveL (.tmp 12) rfl rfl) hd1 ?_
        simp only [Act.put, List.setIfInBounds_toArray, List.set_cons_zero, List.set_cons_succ]
        refine take_one (i := 3) (d := some 72) (v := .pointer (some ⟨b', off' + k, none⟩)) rfl rfl rfl (by kernel_rfl) (by kernel_rfl) (by kernel_rfl) (fun _ _ d _ _ h => by cases d <;> exact h) (fun W hS => ex_indexV 70 71 rfl rfl rfl hlt) hd1 ?_
        simp only [Act.put, List.setIfInBounds_toArray, List.set_cons_zero, List.set_cons_succ]
        refine take_one (i := 4) (d := some 73) (v := .int .u8 y) rfl rfl rfl (by kernel_rfl) (by kernel_rfl) (by kernel_rfl) (fun _ _ d _ _ h => by cases d <;> exact h) (fun W hS => ex_load8L 72 rfl rfl (HCE.out W hS).2) hd1 ?_
        simp only [Act.put, List.setIfInBounds_toArray, List.set_cons_zero, List.set_cons_succ]
        refine take_one (i := 5) (d := some 74) (v := .pointer (some ⟨w.heap.size, 7, none⟩)) rfl rfl rfl (by kernel_rfl) (by kernel_rfl) (by kernel_rfl) (fun _ _ d _ _ h => by cases d <;> exact h) (fun W hS => ex_fieldTL 2 rfl rfl) hd1 ?_
        simp only [Act.put, List.setIfInBounds_toArray, List.set_cons_zero, List.set_cons_succ]
        refine take_one (i := 6) (d := some 75) (v := .slice (some ⟨b, off, none⟩) t.opts.length ko) rfl rfl rfl (by kernel_rfl) (by kernel_rfl) (by kernel_rfl) (fun _ _ d _ _ h => by cases d <;> exact h) (fun W hS => ex_load 74 rfl rfl (KT.out W hS) ⟨_, _, _, rfl⟩) hd1 ?_
        simp only [Act.put, List.setIfInBounds_toArray, List.set_cons_zero, List.set_cons_succ]
        refine take_one (i := 7) (d := some 76) (v := .int .i64 (k : Int)) rfl rfl rfl (by kernel_rfl) (by kernel_rfl) (by kernel_rfl) (fun _ _ d _ _ h => by cases d <;> exact h) (fun W hS => ex_moveL (.tmp 12) rfl rfl) hd1 ?_
        simp only [Act.put, List.setIfInBounds_toArray, List.set_cons_zero, List.set_cons_succ]
        refine take_one (i := 8) (d := some 77) (v := .pointer (some ⟨b, off + k, none⟩)) rfl rfl rfl (by kernel_rfl) (by kernel_rfl) (by kernel_rfl) (fun _ _ d _ _ h => by cases d <;> exact h) (fun W hS => ex_indexV 75 76 rfl rfl rfl hlt) hd1 ?_
        simp only [Act.put, List.setIfInBounds_toArray, List.set_cons_zero, List.set_cons_succ]
        refine take_one (i := 9) (d := some 78) (v := .int .u8 x) rfl rfl rfl (by kernel_rfl) (by kernel_rfl) (by kernel_rfl) (fun _ _ d _ _ h => by cases d <;> exact h) (fun W hS => ex_load8L 77 rfl rfl (HCE.out W hS).1) hd1 ?_
        simp only [Act.put, List.setIfInBounds_toArray, List.set_cons_zero, List.set_cons_succ]
        refine take_one (i := 10) (d := some 79) (v := .bool (y != x)) rfl rfl rfl (by kernel_rfl) (by kernel_rfl) (by kernel_rfl) (fun _ _ d _ _ h => by cases d <;> exact h) (fun W hS => ex_neq8 73 78 rfl rfl rfl) hd1 ?_
        simp only [Act.put, List.setIfInBounds_toArray, List.set_cons_zero, List.set_cons_succ]
        refine wpAnyH_done (by kernel_rfl) ?_ _
        by_cases hyx : y = x
        · have q : (y != x) = false := by simpa using hyx
          rw [q]
          have HD2 : Hid (df ct.opts t.opts (k + 1) = dk) := by
            have := HDF.out
            rw [if_pos hyx] at this
            exact this
          clear hyx HDF q
          go_wp2
          exact ⟨⟨k + 1, by omega, by simp, by rw [HD2.out], hd1⟩, by simp [intOf]; omega⟩
        · have q : (y != x) = true := by simpa using hyx
          rw [q]
          have HD2 : Hid (df ct.opts t.opts (k + 1) = dk + 1) := by
            have := HDF.out
            rw [if_neg hyx] at this
            exact this
          clear hyx HDF q
          go_wp2
          exact ⟨⟨k + 1, by omega, by simp, by rw [HD2.out]; simp, hd1⟩, by simp [intOf]; omega⟩
      · obtain rfl : k = t.opts.length := by omega
        rw [HDN.out]
        have kcr := KC.out _ hbr
        have bR := blk_on B5.out hbr
        have fR := blk_open bR 7
        have dR := blk_set bR 7 (.slice ao t.opts.length ko)
        have oR := (Only.refl w3.heap.size wr).set 7 (.slice ao t.opts.length ko)
        obtain ⟨w6, hw6⟩ : ∃ w6, wr.setCell ⟨w3.heap.size, 7, none⟩ (.slice ao t.opts.length ko) = w6 := ⟨_, rfl⟩
        rw [hw6] at dR oR
        have hs5 := HY35.out.size
        have hx6 : Below W0.heap.size W0 w6 := (HX5.out.trans (hbr.mono HX5.out.size)).trans (oR.below HX3.out.size)
        have hy6 : Below w3.heap.size w3 w6 := (HY35.out.trans (hbr.mono hs5)).trans (oR.below (Nat.le_refl _))
        have hset : d.set 7 (.slice ao t.opts.length ko) = [.int .u16 t.src, .int .u16 t.dst, .int .u32 t.seq, .int .u32 t.ack, .int .u8 t.fl, .int .u16 t.win, .int .u16 t.urg, .slice ao t.opts.length ko, vd'] := by
          have e1 := HDD.out
          have e2 := HREST.out
          rw [e1, e2]
          rfl
        rw [hset] at dR
        have hdat : BytesAt w3.heap.size w3 vd' t.data := by
          have q := HVDC.out
          rw [HREST.out] at q
          exact q
        have hT6 : TcpC w6 [.int .u16 t.src, .int .u16 t.dst, .int .u32 t.seq, .int .u32 t.ack, .int .u8 t.fl, .int .u16 t.win, .int .u16 t.urg, .slice ao t.opts.length ko, vd'] t := by
          obtain ⟨_, fs, fd, fq, fa, ff, fw, fu⟩ := HFIT.out
          exact ⟨⟨_, _, rfl, (HRO.out w6 hx6).bytes, hdat.later hy6⟩, fs, fd, fq, fa, ff, fw, fu⟩
        have L7 : Hid _ := agg_load (t := 34) Try.isAgg34 Try.sizeOf34 rfl (CellsAt.of_blk dR)
        have L2 : Hid _ := HL.out w6 hx6
        have SM : Hid (Calls Try.prog 27 #[.agg [.int .u16 t.src, .int .u16 t.dst, .int .u32 t.seq, .int .u32 t.ack, .int .u8 t.fl, .int .u16 t.win, .int .u16 t.urg, .slice ao t.opts.length ko, vd'].toArray, .agg c.toArray] w6 fun e w' => e = .returned (.bool true) ∧ Below w6.heap.size w6 w') := by
          have kk := RSameTCP_calls w6 hT6 (HT.out w6 hx6)
          rw [sameT_self] at kk
          exact kk
        have HF : Hid (Below w.heap.size w w6) := HB.out.trans (hx6.mono HB.out.size)
        have q2 : (dn : Int) ≤ 2 := by omega
        skip
        clear dR oR bR hx6 hy6 hset hdat hT6 hdk hs5
        go_wp2_with first
          | ((with_reducible show wpList _ _ _ _ _ _); refine arm_load rfl (.tmp 7) 34 rfl rfl L7.out ?_)
          | ((with_reducible show wpList _ _ _ _ _ _); refine arm_load rfl (.tmp 2) 34 rfl rfl L2.out ?_)
        refine Calls.mono SM.out ?_
        rintro _ w7 ⟨rfl, hz7⟩
        have HZ : Hid _ := HF.out.trans (hz7.mono HF.out.size)
        clear hz7
        go_wp2
        go_ret
        exact ⟨rfl, HZ.out⟩

set_option maxRecDepth 100000 in
theorem segmentLesser_open {H : Type} {enc : TypeId × Value → H} {W : World} {base : Nat} (v0 v1 : Value) {d0 d1 : DataW H} {p0 p1 : List MemPlace}
    (o0 : Value.okWide Try.prog W .any base 34 v0) (h0 : DataW.Trod enc Try.prog W 0 (fun _ => true) true 34 v0 d0 p0) (z0 : ∀ k ∈ d0.weights Try.prog 34, k ≤ reachBytes)
    (o1 : Value.okWide Try.prog W .any base 3 v1) (h1 : DataW.Trod enc Try.prog W 0 (fun _ => true) true 3 v1 d1 p1) (z1 : ∀ k ∈ d1.weights Try.prog 3, k ≤ reachBytes) :
    Calls Try.prog 11 #[v0, v1] W fun e w' => e = .returned (.bool true) ∧ Below W.heap.size W w' := by
  obtain ⟨c, t, rfl, ht⟩ := open_tcpA h0 z0
  obtain ⟨n, rfl, _, _, wn⟩ := Go.ChangeShapes.open_int Try.underlying3 o1 h1
  have hq := bounds_i64 wn
  exact segmentLesser_walk c t n (by omega) W ht

end Go.Proofs.Ytnlaomjhnndblaa
