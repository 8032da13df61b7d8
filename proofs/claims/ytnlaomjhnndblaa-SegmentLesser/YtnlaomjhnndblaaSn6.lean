/-
  Clamp of the document.
-/
import Derived.Test.YtnlaomjhnndblaaSn4
namespace Go.Proofs.Ytnlaomjhnndblaa
open Go Go.RowKit Go.Shelf
set_option linter.unusedVariables false
set_option linter.unusedSimpArgs false

theorem laid_set2 {zs : List Int} {i : Nat} {x : Int} (h : i + 2 ≤ zs.length) : (zs.set i (x / 256)).set (i + 1) (x % 256) = laid zs i (w2 x) := by
  apply List.ext_getElem?
  intro j
  unfold laid w2
  by_cases h1 : j < i
  · rw [List.getElem?_set_ne (by omega), List.getElem?_set_ne (by omega), List.append_assoc, List.getElem?_append_left (by simp; omega), List.getElem?_take_of_lt h1]
  · by_cases h2 : j = i
    · subst h2
      rw [List.getElem?_set_ne (by omega), List.getElem?_set_self (by omega), List.append_assoc, List.getElem?_append_right (by simp; omega)]
      simp
      rw [show j - min j zs.length = 0 by omega]
      rfl
    · by_cases h3 : j = i + 1
      · subst h3
        rw [List.getElem?_set_self (by simp; omega), List.append_assoc, List.getElem?_append_right (by simp; omega)]
        simp
        rw [show i + 1 - min i zs.length = 1 by omega]
        rfl
      · rw [List.getElem?_set_ne (by omega), List.getElem?_set_ne (by omega), List.getElem?_append_right (by simp; omega), List.getElem?_drop]
        congr 1
        simp
        omega

set_option maxHeartbeats 4000000 in
set_option maxRecDepth 100000 in
theorem RClamp_calls (c : List Value) (t : Seg) (most : Int) (hmost : -9223372036854775808 ≤ most ∧ most ≤ 9223372036854775807) (w : World) (h : TcpA w c t) :
    Calls Try.prog 31 #[.agg c.toArray, .int .i64 most] w fun e w' => ∃ c', e = .returned (.tuple #[.agg c'.toArray, .bool (clB t most)]) ∧ TcpC w' c' (clT t most) ∧ Below w.heap.size w w' := by
  have h0 := h
  obtain ⟨⟨vo, vd, rfl, hro, hvd⟩, hall⟩ := h
  obtain ⟨_, fs, fd, fq, fa, ff, fw, fu⟩ := id hall
  have b0 := blk_alloc (blk_new w (.cells [.int .u16 t.src, .int .u16 t.dst, .int .u32 t.seq, .int .u32 t.ack, .int .u8 t.fl, .int .u16 t.win, .int .u16 t.urg, vo, vd].toArray 34)) (.cells [.int .u16 0, .int .u16 0, .int .u32 0, .int .u32 0, .int .u8 0, .int .u16 0, .int .u16 0, .slice none 0 0, .slice none 0 0].toArray 34)
  have b1 := blk_new (w.alloc (.cells [.int .u16 t.src, .int .u16 t.dst, .int .u32 t.seq, .int .u32 t.ack, .int .u8 t.fl, .int .u16 t.win, .int .u16 t.urg, vo, vd].toArray 34)) (.cells [.int .u16 0, .int .u16 0, .int .u32 0, .int .u32 0, .int .u8 0, .int .u16 0, .int .u16 0, .slice none 0 0, .slice none 0 0].toArray 34)
  have s1 : (w.alloc (.cells [.int .u16 t.src, .int .u16 t.dst, .int .u32 t.seq, .int .u32 t.ack, .int .u8 t.fl, .int .u16 t.win, .int .u16 t.urg, vo, vd].toArray 34)).heap.size = w.heap.size + 1 := by simp
  have hb : Below w.heap.size w ((w.alloc (.cells [.int .u16 t.src, .int .u16 t.dst, .int .u32 t.seq, .int .u32 t.ack, .int .u8 t.fl, .int .u16 t.win, .int .u16 t.urg, vo, vd].toArray 34)).alloc (.cells [.int .u16 0, .int .u16 0, .int .u32 0, .int .u32 0, .int .u8 0, .int .u16 0, .int .u16 0, .slice none 0 0, .slice none 0 0].toArray 34)) := ((Below.refl _ w).alloc (Nat.le_refl _) _).alloc (by simp) _
  rw [s1] at b1
  obtain ⟨W0, hW0⟩ : ∃ W0, (w.alloc (.cells [.int .u16 t.src, .int .u16 t.dst, .int .u32 t.seq, .int .u32 t.ack, .int .u8 t.fl, .int .u16 t.win, .int .u16 t.urg, vo, vd].toArray 34)).alloc (.cells [.int .u16 0, .int .u16 0, .int .u32 0, .int .u32 0, .int .u8 0, .int .u16 0, .int .u16 0, .slice none 0 0, .slice none 0 0].toArray 34) = W0 := ⟨_, rfl⟩
  rw [hW0] at b0 b1 hb
  have hlt1 : w.heap.size + 1 < W0.heap.size := (Array.getElem?_eq_some_iff.1 b1).1
  have HLD : Hid (∀ W, Below W0.heap.size W0 W → (Instr.loadAt 34 (.pointer (some ⟨w.heap.size, 0, none⟩))).run Try.prog W = .ok (.agg [.int .u16 t.src, .int .u16 t.dst, .int .u32 t.seq, .int .u32 t.ack, .int .u8 t.fl, .int .u16 t.win, .int .u16 t.urg, vo, vd].toArray) W) := fun W hW => agg_load Try.isAgg34 Try.sizeOf34 rfl (CellsAt.of_blk (blk_on b0 hW))
  have HMS : Hid _ := RMSS_calls [.int .u16 t.src, .int .u16 t.dst, .int .u32 t.seq, .int .u32 t.ack, .int .u8 t.fl, .int .u16 t.win, .int .u16 t.urg, vo, vd] t W0 (h0.on hb)
  have HPL : Hid (∀ W, Below W0.heap.size W0 W → Calls Try.prog 55 #[.agg [.int .u16 t.src, .int .u16 t.dst, .int .u32 t.seq, .int .u32 t.ack, .int .u8 t.fl, .int .u16 t.win, .int .u16 t.urg, vo, vd].toArray] W fun e w' => e = .returned (.int .i64 (plI (mssO t))) ∧ Below W.heap.size W w') := fun W hW => place_calls _ t W (hall.on (hb.trans (hW.mono hb.size)))
  have hoB := hro.bytes
  have HB : Hid _ := hb
  have B0 : Hid _ := b0
  have B1 : Hid _ := b1
  have HLT : Hid _ := hlt1
  have HALL : Hid _ := hall
  have HRO : Hid _ := hro
  have HVD : Hid _ := hvd
  obtain ⟨ao, ko, rfl, _⟩ := hro.val
  obtain ⟨ad, kd, rfl, _⟩ := hvd.val
  have hlo := hro.len
  have HFO : Hid (Fit t.opts) := hro.fit
  have HONE : Hid (∀ v ∈ [.int .u16 t.src, .int .u16 t.dst, .int .u32 t.seq, .int .u32 t.ack, .int .u8 t.fl, .int .u16 t.win, .int .u16 t.urg, .slice ao t.opts.length ko, .slice ad t.data.length kd], Value.oneCell' v = true) := by
    have : ∀ v ∈ [.int .u16 t.src, .int .u16 t.dst, .int .u32 t.seq, .int .u32 t.ack, .int .u8 t.fl, .int .u16 t.win, .int .u16 t.urg, .slice ao t.opts.length ko, .slice ad t.data.length kd], Value.oneCell' v = true := by simp [Value.oneCell']
    exact this
  have HSAME : Hid (∀ W, Below W0.heap.size W0 W → ∃ W', (Instr.storeAt 34 (.pointer (some ⟨w.heap.size + 1, 0, none⟩)) (.agg [.int .u16 t.src, .int .u16 t.dst, .int .u32 t.seq, .int .u32 t.ack, .int .u8 t.fl, .int .u16 t.win, .int .u16 t.urg, .slice ao t.opts.length ko, .slice ad t.data.length kd].toArray)).run Try.prog W = .ok () W' ∧ W'.heap[w.heap.size + 1]? = some (.cells [.int .u16 t.src, .int .u16 t.dst, .int .u32 t.seq, .int .u32 t.ack, .int .u8 t.fl, .int .u16 t.win, .int .u16 t.urg, .slice ao t.opts.length ko, .slice ad t.data.length kd].toArray 34) ∧ TcpC W' [.int .u16 t.src, .int .u16 t.dst, .int .u32 t.seq, .int .u32 t.ack, .int .u8 t.fl, .int .u16 t.win, .int .u16 t.urg, .slice ao t.opts.length ko, .slice ad t.data.length kd] t ∧ Below w.heap.size w W') := fun W hW => by
    obtain ⟨W', s1, s2, s3⟩ := box_store Try.sizeOf34 (blk_on B1.out hW) rfl [.int .u16 t.src, .int .u16 t.dst, .int .u32 t.seq, .int .u32 t.ack, .int .u8 t.fl, .int .u16 t.win, .int .u16 t.urg, .slice ao t.opts.length ko, .slice ad t.data.length kd] rfl HONE.out
    have hbW : Below w.heap.size w W' := (HB.out.trans (hW.mono HB.out.size)).trans (s3.below (by omega))
    exact ⟨W', s1, s2, HALL.out.on hbW, hbW⟩
  have hx0 : Below W0.heap.size W0 W0 := Below.refl _ _
  have hPB : Hid (∀ i, mssO t = some i → i + 2 ≤ t.opts.length) := fun i hi => by
    unfold mssO at hi
    split at hi
    · cases hi
    · exact pl_bound 0 i (Nat.zero_le _) hi
  clear b0 b1 s1 hb h0 hall hro hvd hoB hlt1
  cases ho : mssO t with
  | none =>
    have HCB : Hid (clB t most = false ∧ clT t most = t) := by
      have : clB t most = false ∧ clT t most = t := by simp [clB, clT, clO, ho]
      exact this
    have e1 : mssN t = 0 := by simp [mssN, ho]
    have e2 : mssB t = false := by simp [mssB, ho]
    rw [e1, e2] at HMS
    clear ho e1 e2 hPB HPL
    go_enter Try.func31, Try.ntmps31
    go_wp2_with ((with_reducible show wpList _ _ _ _ _ _); refine arm_load rfl (.tmp 2) 34 rfl rfl (HLD.out _ hx0) ?_)
    refine Calls.mono HMS.out ?_
    rintro _ w2 ⟨rfl, hb2⟩
    obtain ⟨w3, s1, s2, s3, s4⟩ := HSAME.out w2 hb2
    have L2 : Hid _ := HLD.out w2 hb2
    have S1 : Hid _ := s1
    have S2 : Hid _ := s2
    have S3 : Hid _ := s3
    have S4 : Hid _ := s4
    clear s1 s2 s3 s4 hb2
    go_wp2_with first
      | ((with_reducible show wpList _ _ _ _ _ _); refine arm_load rfl (.tmp 2) 34 rfl rfl L2.out ?_)
      | ((with_reducible show wpList _ _ _ _ _ _); refine arm_store rfl (.tmp 4) (.tmp 22) 34 rfl rfl rfl S1.out ?_)
    exact bodyPost_ret (res2t rfl rfl (agg_loadVar Try.isAgg34 Try.sizeOf34 rfl (CellsAt.of_blk S2.out))) rfl ⟨_, by rw [HCB.out.1]; rfl, by rw [HCB.out.2]; exact S3.out, S4.out⟩
  | some i =>
    have hi2 := hPB.out i ho
    have e1 : mssN t = wd2 t.opts i := by simp [mssN, ho]
    have e2 : mssB t = true := by simp [mssB, ho]
    have HC1 : Hid (wd2 t.opts i ≤ most → clB t most = false ∧ clT t most = t) := fun h => by simp [clB, clT, clO, ho, h]
    have HC2 : Hid (¬ wd2 t.opts i ≤ most → clB t most = true ∧ clT t most = ⟨t.src, t.dst, t.seq, t.ack, t.fl, t.win, t.urg, laid t.opts i (w2 (max most 0)), t.data⟩) := fun h => by simp [clB, clT, clO, ho, h]
    have e3 : plI (mssO t) = (i : Int) := by rw [ho]; rfl
    rw [e1, e2] at HMS
    rw [e3] at HPL
    have hwr := wd2_range HFO.out i
    clear ho e1 e2 e3 hPB
    by_cases hmo : wd2 t.opts i ≤ most
    · have HCB : Hid _ := HC1.out hmo
      generalize wd2 t.opts i = x at *
      clear HC1 HC2 HPL
      go_enter Try.func31, Try.ntmps31
      go_wp2_with ((with_reducible show wpList _ _ _ _ _ _); refine arm_load rfl (.tmp 2) 34 rfl rfl (HLD.out _ hx0) ?_)
      refine Calls.mono HMS.out ?_
      rintro _ w2 ⟨rfl, hb2⟩
      obtain ⟨w3, s1, s2, s3, s4⟩ := HSAME.out w2 hb2
      have L2 : Hid _ := HLD.out w2 hb2
      have S1 : Hid _ := s1
      have S2 : Hid _ := s2
      have S3 : Hid _ := s3
      have S4 : Hid _ := s4
      clear s1 s2 s3 s4 hb2
      go_wp2_with first
        | ((with_reducible show wpList _ _ _ _ _ _); refine arm_load rfl (.tmp 2) 34 rfl rfl L2.out ?_)
        | ((with_reducible show wpList _ _ _ _ _ _); refine arm_store rfl (.tmp 4) (.tmp 22) 34 rfl rfl rfl S1.out ?_)
      exact bodyPost_ret (res2t rfl rfl (agg_loadVar Try.isAgg34 Try.sizeOf34 rfl (CellsAt.of_blk S2.out))) rfl ⟨_, by rw [HCB.out.1]; rfl, by rw [HCB.out.2]; exact S3.out, S4.out⟩
    · have HCB : Hid _ := HC2.out hmo
      have hmo' : most < wd2 t.opts i := by omega
      have hmx : 0 ≤ max most 0 ∧ max most 0 ≤ 65535 := by omega
      have hll : (laid t.opts i (w2 (max most 0))).length = t.opts.length := laid_length i (by simpa [w2] using hi2)
      have hlf : Fit (laid t.opts i (w2 (max most 0))) := laid_fit HFO.out (w2_fit hmx) i
      -- the copy, and what is written into it
      have HCOP : Hid (∀ W, Below W0.heap.size W0 W → ∃ g k w4, (Builtin.append_ #[29, 29] 29 #[.slice (some ⟨W.heap.size, 0, none⟩) 0 0, .slice ao t.opts.length ko]).run Try.prog (W.alloc (.cells #[] 5)) = .ok (.slice (some ⟨g, 0, none⟩) t.opts.length k) w4 ∧ t.opts.length ≤ k ∧ W.heap.size ≤ g ∧ OwnG w4 g t.opts ∧ Below W.heap.size W w4) := fun W hW => by
        have hBa := (Below.refl W.heap.size W).alloc (Nat.le_refl _) (.cells #[] 5)
        have hq := hW.trans (hBa.mono hW.size)
        obtain ⟨g, k, w4, r1, r2, r3, r4⟩ := bytes_copied3 ((HRO.out.on (HB.out.trans (hq.mono HB.out.size))).bytes) W.heap.size 29
        rcases r4 with ⟨q, _⟩ | ⟨q1, q2⟩
        · rw [q] at hi2
          simp at hi2
        · exact ⟨g, k, w4, r1, r2, Nat.le_trans hBa.size q1, q2, hBa.trans (r3.mono hBa.size)⟩
      have HEND : Hid (∀ W w4 g k, Below W0.heap.size W0 W → W.heap.size ≤ g → OwnG w4 g t.opts → Below W.heap.size W w4 → t.opts.length ≤ k → ∀ z0 z1 : Int, z0 = max most 0 / 256 → z1 = max most 0 % 256 → w4.cell? ⟨g, i, none⟩ = some (.int .u8 (gz t.opts i)) ∧ w4.frozen? ⟨g, i, none⟩ = false ∧ (w4.setCell ⟨g, i, none⟩ (.int .u8 z0)).cell? ⟨g, i + 1, none⟩ = some (.int .u8 (gz t.opts (i + 1))) ∧ (w4.setCell ⟨g, i, none⟩ (.int .u8 z0)).frozen? ⟨g, i + 1, none⟩ = false ∧ ∀ w5, (w4.setCell ⟨g, i, none⟩ (.int .u8 z0)).setCell ⟨g, i + 1, none⟩ (.int .u8 z1) = w5 → w5.cell? ⟨w.heap.size, 7, none⟩ = some (.slice ao t.opts.length ko) ∧ w5.frozen? ⟨w.heap.size, 7, none⟩ = false ∧ ∀ w6, w5.setCell ⟨w.heap.size, 7, none⟩ (.slice (some ⟨g, 0, none⟩) t.opts.length k) = w6 → (Instr.loadAt 34 (.pointer (some ⟨w.heap.size, 0, none⟩))).run Try.prog w6 = .ok (.agg [.int .u16 t.src, .int .u16 t.dst, .int .u32 t.seq, .int .u32 t.ack, .int .u8 t.fl, .int .u16 t.win, .int .u16 t.urg, .slice (some ⟨g, 0, none⟩) t.opts.length k, .slice ad t.data.length kd].toArray) w6 ∧ ∃ W', (Instr.storeAt 34 (.pointer (some ⟨w.heap.size + 1, 0, none⟩)) (.agg [.int .u16 t.src, .int .u16 t.dst, .int .u32 t.seq, .int .u32 t.ack, .int .u8 t.fl, .int .u16 t.win, .int .u16 t.urg, .slice (some ⟨g, 0, none⟩) t.opts.length k, .slice ad t.data.length kd].toArray)).run Try.prog w6 = .ok () W' ∧ W'.heap[w.heap.size + 1]? = some (.cells [.int .u16 t.src, .int .u16 t.dst, .int .u32 t.seq, .int .u32 t.ack, .int .u8 t.fl, .int .u16 t.win, .int .u16 t.urg, .slice (some ⟨g, 0, none⟩) t.opts.length k, .slice ad t.data.length kd].toArray 34) ∧ TcpC W' [.int .u16 t.src, .int .u16 t.dst, .int .u32 t.seq, .int .u32 t.ack, .int .u8 t.fl, .int .u16 t.win, .int .u16 t.urg, .slice (some ⟨g, 0, none⟩) t.opts.length k, .slice ad t.data.length kd] ⟨t.src, t.dst, t.seq, t.ack, t.fl, t.win, t.urg, laid t.opts i (w2 (max most 0)), t.data⟩ ∧ Below w.heap.size w W') := fun W w4 g k hW hg own4 hb4 hk z0 z1 hz0 hz1 => by
        have o1 := own4.set i (by omega) z0
        have hl1 : (t.opts.set i z0).length = t.opts.length := by simp
        refine ⟨own4.cell i (by omega), own4.open i, ?_, o1.open (i + 1), fun w5 hw5 => ?_⟩
        · have q := o1.cell (i + 1) (by rw [hl1]; omega)
          rw [List.getElem?_set_ne (by omega)] at q
          exact q
        have o2 := o1.set (i + 1) (by rw [hl1]; omega) z1
        have n1 : Only g w4 w5 := by
          rw [← hw5]
          exact ((Only.refl _ _).set _ _).set _ _
        rw [hw5, hz0, hz1, laid_set2 hi2] at o2
        have hx4 := hW.trans (hb4.mono hW.size)
        have hsz := hW.size
        have hlt := HLT.out
        have c0 : w5.heap[w.heap.size]? = some (.cells [.int .u16 t.src, .int .u16 t.dst, .int .u32 t.seq, .int .u32 t.ack, .int .u8 t.fl, .int .u16 t.win, .int .u16 t.urg, .slice ao t.opts.length ko, .slice ad t.data.length kd].toArray 34) := (n1.other _ (by omega)).trans (blk_on B0.out hx4)
        have c1 : w5.heap[w.heap.size + 1]? = some (.cells [.int .u16 0, .int .u16 0, .int .u32 0, .int .u32 0, .int .u8 0, .int .u16 0, .int .u16 0, .slice none 0 0, .slice none 0 0].toArray 34) := (n1.other _ (by omega)).trans (blk_on B1.out hx4)
        refine ⟨blk_cell (j := 7) c0 rfl, blk_open c0 7, fun w6 hw6 => ?_⟩
        have d0 := blk_set c0 7 (.slice (some ⟨g, 0, none⟩) t.opts.length k)
        have d1 := blk_set_other (b' := w.heap.size) c1 (by omega) 7 (.slice (some ⟨g, 0, none⟩) t.opts.length k)
        have n2 : Only w.heap.size w5 w6 := by
          rw [← hw6]
          exact (Only.refl _ _).set _ _
        rw [hw6] at d0 d1
        have d0' : w6.heap[w.heap.size]? = some (.cells [.int .u16 t.src, .int .u16 t.dst, .int .u32 t.seq, .int .u32 t.ack, .int .u8 t.fl, .int .u16 t.win, .int .u16 t.urg, .slice (some ⟨g, 0, none⟩) t.opts.length k, .slice ad t.data.length kd].toArray 34) := d0
        obtain ⟨W', s1, s2, s3⟩ := box_store Try.sizeOf34 d1 rfl [.int .u16 t.src, .int .u16 t.dst, .int .u32 t.seq, .int .u32 t.ack, .int .u8 t.fl, .int .u16 t.win, .int .u16 t.urg, .slice (some ⟨g, 0, none⟩) t.opts.length k, .slice ad t.data.length kd] rfl (by simp [Value.oneCell'])
        have hbW : Below w.heap.size w W' := (((HB.out.trans (hx4.mono HB.out.size)).trans (n1.below (by omega))).trans (n2.below (Nat.le_refl _))).trans (s3.below (by omega))
        have r1 := (((o2.off n2 (by omega)).off s3 (by omega)).all hlf (by rw [hll]; exact hlo) t.opts.length k hll.symm)
        exact ⟨agg_load Try.isAgg34 Try.sizeOf34 rfl (CellsAt.of_blk d0'), W', s1, s2, ⟨⟨_, _, rfl, r1, HVD.out.later hbW⟩, fs, fd, fq, fa, ff, fw, fu⟩, hbW⟩
      by_cases hm0 : 0 ≤ most
      · skip
        have hme : max most 0 = most := by omega
        rw [hme] at HEND HCB hmx
        generalize wd2 t.opts i = x at *
        clear HC1 HC2 HSAME hmo hll hlf HONE HALL HVD HRO HFO
        have hwp : most / 256 % 256 = most / 256 := by omega
        have hi0 : i ≤ 140737488351232 := by omega
        have HK7 : Hid (∀ W, Below W0.heap.size W0 W → (W.alloc (.cells #[] 5)).cell? ⟨w.heap.size, 7, none⟩ = some (.slice ao t.opts.length ko)) := fun W hW => blk_cell (j := 7) (blk_alloc (blk_on B0.out hW) _) rfl
        go_enter Try.func31, Try.ntmps31
        go_wp2_with ((with_reducible show wpList _ _ _ _ _ _); refine arm_load rfl (.tmp 2) 34 rfl rfl (HLD.out _ hx0) ?_)
        refine Calls.mono HMS.out ?_
        rintro _ w2 ⟨rfl, hb2⟩
        go_wp2_with ((with_reducible show wpList _ _ _ _ _ _); refine arm_load rfl (.tmp 2) 34 rfl rfl (HLD.out _ hb2) ?_)
        refine Calls.mono (HPL.out _ hb2) ?_
        rintro _ w3 ⟨rfl, hb3⟩
        have hx3 := hb2.trans (hb3.mono hb2.size)
        obtain ⟨g, k, w4, hrun, hk, hg, own4, hb4⟩ := HCOP.out w3 hx3
        obtain ⟨m1, m2, m3, m4, m5⟩ := HEND.out w3 w4 g k hx3 hg own4 hb4 hk (most / 256) (most % 256) rfl rfl
        obtain ⟨w5, hw5⟩ : ∃ w5, (w4.setCell ⟨g, i, none⟩ (.int .u8 (most / 256))).setCell ⟨g, i + 1, none⟩ (.int .u8 (most % 256)) = w5 := ⟨_, rfl⟩
        obtain ⟨m6, m7, m8⟩ := m5 w5 hw5
        obtain ⟨w6, hw6⟩ : ∃ w6, w5.setCell ⟨w.heap.size, 7, none⟩ (.slice (some ⟨g, 0, none⟩) t.opts.length k) = w6 := ⟨_, rfl⟩
        obtain ⟨l6, W', s1, s2, s3, s4⟩ := m8 w6 hw6
        have HR : Hid _ := hrun
        have k7 := HK7.out w3 hx3
        have L6 : Hid _ := l6
        have S1 : Hid _ := s1
        have S2 : Hid _ := s2
        have S3 : Hid _ := s3
        have S4 : Hid _ := s4
        have hil : i < t.opts.length := by omega
        have hil2 : i + 1 < t.opts.length := by omega
        clear l6 s1 s2 s3 s4 m5 m8 hrun own4 hb4 hx3 hb3 hb2 HK7 HEND HCOP HMS HPL
        go_wp2_with first
          | ((with_reducible show wpList _ _ _ ({ dst := _, op := Op.call { callee := Callee.builtin Builtin.append, args := _, argTypes := _ }, type := _, pos := _, after := _, guard := _ } :: _) _ _); refine wpList_append_run rfl _ _ _ _ rfl rfl rfl HR.out ?_)
          | ((with_reducible show wpList _ _ _ _ _ _); refine arm_load rfl (.tmp 2) 34 rfl rfl L6.out ?_)
          | ((with_reducible show wpList _ _ _ _ _ _); refine arm_store rfl (.tmp 4) (.tmp 45) 34 rfl rfl rfl S1.out ?_)
        exact bodyPost_ret (res2t rfl rfl (agg_loadVar Try.isAgg34 Try.sizeOf34 rfl (CellsAt.of_blk S2.out))) rfl ⟨_, by rw [HCB.out.1]; rfl, by rw [HCB.out.2]; exact S3.out, S4.out⟩
      · have hm0 : most < 0 := by omega
        have hme : max most 0 = 0 := by omega
        rw [hme] at HEND HCB hmx
        generalize wd2 t.opts i = x at *
        clear HC1 HC2 HSAME hmo hll hlf HONE HALL HVD HRO HFO
        have hi0 : i ≤ 140737488351232 := by omega
        have HK7 : Hid (∀ W, Below W0.heap.size W0 W → (W.alloc (.cells #[] 5)).cell? ⟨w.heap.size, 7, none⟩ = some (.slice ao t.opts.length ko)) := fun W hW => blk_cell (j := 7) (blk_alloc (blk_on B0.out hW) _) rfl
        go_enter Try.func31, Try.ntmps31
        go_wp2_with ((with_reducible show wpList _ _ _ _ _ _); refine arm_load rfl (.tmp 2) 34 rfl rfl (HLD.out _ hx0) ?_)
        refine Calls.mono HMS.out ?_
        rintro _ w2 ⟨rfl, hb2⟩
        go_wp2_with ((with_reducible show wpList _ _ _ _ _ _); refine arm_load rfl (.tmp 2) 34 rfl rfl (HLD.out _ hb2) ?_)
        refine Calls.mono (HPL.out _ hb2) ?_
        rintro _ w3 ⟨rfl, hb3⟩
        have hx3 := hb2.trans (hb3.mono hb2.size)
        obtain ⟨g, k, w4, hrun, hk, hg, own4, hb4⟩ := HCOP.out w3 hx3
        obtain ⟨m1, m2, m3, m4, m5⟩ := HEND.out w3 w4 g k hx3 hg own4 hb4 hk (0) (0) rfl rfl
        obtain ⟨w5, hw5⟩ : ∃ w5, (w4.setCell ⟨g, i, none⟩ (.int .u8 (0))).setCell ⟨g, i + 1, none⟩ (.int .u8 (0)) = w5 := ⟨_, rfl⟩
        obtain ⟨m6, m7, m8⟩ := m5 w5 hw5
        obtain ⟨w6, hw6⟩ : ∃ w6, w5.setCell ⟨w.heap.size, 7, none⟩ (.slice (some ⟨g, 0, none⟩) t.opts.length k) = w6 := ⟨_, rfl⟩
        obtain ⟨l6, W', s1, s2, s3, s4⟩ := m8 w6 hw6
        have HR : Hid _ := hrun
        have k7 := HK7.out w3 hx3
        have L6 : Hid _ := l6
        have S1 : Hid _ := s1
        have S2 : Hid _ := s2
        have S3 : Hid _ := s3
        have S4 : Hid _ := s4
        have hil : i < t.opts.length := by omega
        have hil2 : i + 1 < t.opts.length := by omega
        clear l6 s1 s2 s3 s4 m5 m8 hrun own4 hb4 hx3 hb3 hb2 HK7 HEND HCOP HMS HPL
        go_wp2_with first
          | ((with_reducible show wpList _ _ _ ({ dst := _, op := Op.call { callee := Callee.builtin Builtin.append, args := _, argTypes := _ }, type := _, pos := _, after := _, guard := _ } :: _) _ _); refine wpList_append_run rfl _ _ _ _ rfl rfl rfl HR.out ?_)
          | ((with_reducible show wpList _ _ _ _ _ _); refine arm_load rfl (.tmp 2) 34 rfl rfl L6.out ?_)
          | ((with_reducible show wpList _ _ _ _ _ _); refine arm_store rfl (.tmp 4) (.tmp 45) 34 rfl rfl rfl S1.out ?_)
        exact bodyPost_ret (res2t rfl rfl (agg_loadVar Try.isAgg34 Try.sizeOf34 rfl (CellsAt.of_blk S2.out))) rfl ⟨_, by rw [HCB.out.1]; rfl, by rw [HCB.out.2]; exact S3.out, S4.out⟩

end Go.Proofs.Ytnlaomjhnndblaa
