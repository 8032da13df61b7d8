/-
  Ipv4Cut.
-/
import Derived.Test.YtmoogfdmlbalbaaIu1
namespace Go.Proofs.Ytmoogfdmlbalbaa
open Go Go.RowKit
set_option linter.unusedVariables false
set_option linter.unusedSimpArgs false

theorem part_back {w : World} {c : List Value} {tos id : Int} {df mf : Bool} {off ttl proto s0 s1 s2 s3 d0 d1 d2 d3 : Int} {opts body : List Int} (hd : Dgram w c tos id df mf off ttl proto s0 s1 s2 s3 d0 d1 d2 d3 opts body) (hk : chk off opts.length body.length = 0) (n : Nat) (hn : n ≤ body.length) : ∀ W g, OwnG W g (wrL tos id df mf off ttl proto s0 s1 s2 s3 d0 d1 d2 d3 opts body) → Calls Try.prog 20 #[.slice (some ⟨g, 0, none⟩) (20 + opts.length + (body.length - n)) (20 + opts.length + body.length)] W fun e w' => ∃ c', e = .returned (.tuple #[.agg c'.toArray, .int .i64 0, .int .i64 0]) ∧ Dgram w' c' tos id df mf off ttl proto s0 s1 s2 s3 d0 d1 d2 d3 opts (body.take (body.length - n)) ∧ Below W.heap.size W w' := by
  obtain ⟨hno, hnb, ho⟩ := chk_zero hk
  have h4 := chk_zero4 hk
  obtain ⟨sm, hwe, hsm, hsm0, hsm1, hfit⟩ := wrL_fit hd hk
  have hlen : (rhd (20 + opts.length) (20 + opts.length + body.length) tos id (cutW off df mf) ttl proto s0 s1 s2 s3 d0 d1 d2 d3 sm opts ++ body).length = 20 + opts.length + body.length := by rw [List.length_append, rhd_length]
  have htk : (rhd (20 + opts.length) (20 + opts.length + body.length) tos id (cutW off df mf) ttl proto s0 s1 s2 s3 d0 d1 d2 d3 sm opts ++ body).take (20 + opts.length + (body.length - n)) = rhd (20 + opts.length) (20 + opts.length + body.length) tos id (cutW off df mf) ttl proto s0 s1 s2 s3 d0 d1 d2 d3 sm opts ++ body.take (body.length - n) := by
    rw [List.take_append, rhd_length, show 20 + opts.length + (body.length - n) - (20 + opts.length) = (body.length - n) by omega, List.take_of_length_le (by rw [rhd_length]; omega)]
  have hpe : pErr (rhd (20 + opts.length) (20 + opts.length + body.length) tos id (cutW off df mf) ttl proto s0 s1 s2 s3 d0 d1 d2 d3 sm opts ++ body.take (body.length - n)) true = (0, 0) := by
    refine pErr_part (by rw [List.length_append, rhd_length]; omega) (rhd_ver (by omega)) ?_ ?_
    · rw [rhd_head (by omega) h4, List.length_append, rhd_length]; omega
    · rw [rhd_all, List.length_append, rhd_length, List.length_take]; omega
  have hbt : (body.take (body.length - n)).length = (body.length - n) := by rw [List.length_take]; omega
  have hrow : ∀ W g, OwnG W g (wrL tos id df mf off ttl proto s0 s1 s2 s3 d0 d1 d2 d3 opts body) → RowC W (.slice (some ⟨g, 0, none⟩) (20 + opts.length + (body.length - n)) (20 + opts.length + body.length)) (rhd (20 + opts.length) (20 + opts.length + body.length) tos id (cutW off df mf) ttl proto s0 s1 s2 s3 d0 d1 d2 d3 sm opts ++ body.take (body.length - n)) := fun W g hO => by
    have := hO.row (by rw [hwe]; exact hfit) (by rw [hwe, hlen]; exact hnb) (20 + opts.length + (body.length - n)) (20 + opts.length + body.length) (by rw [hwe, hlen]; omega) (by omega)
    rwa [hwe, htk] at this
  intro W g hO
  refine Calls.mono (Part_any (hrow W g hO)) ?_
  rintro e w' ⟨c', he, hP, hA, hB⟩
  rw [hpe] at he
  unfold ParD at hP
  rw [if_pos hpe] at hP
  exact ⟨c', he, rhd_says (by omega) h4 ho hP, hB⟩

set_option maxHeartbeats 2000000 in
set_option maxRecDepth 100000 in
theorem ipv4Cut_no (c : List Value) (tos id : Int) (df mf : Bool) (off ttl proto s0 s1 s2 s3 d0 d1 d2 d3 : Int) (opts body : List Int) (n : Int) (w : World) (h : Dgram w c tos id df mf off ttl proto s0 s1 s2 s3 d0 d1 d2 d3 opts body) (hk : chk off opts.length body.length ≠ 0) :
    Calls Try.prog 8 #[.agg c.toArray, .int .i64 n] w fun e w' => e = .returned (.bool true) ∧ Below w.heap.size w w' := by
  have hL := h.lens
  have hb0 := blk_new w (.cells c.toArray 27)
  have hB0 := (Below.refl w.heap.size w).alloc (Nat.le_refl _) (.cells c.toArray 27)
  generalize hW0 : w.alloc (.cells c.toArray 27) = W0 at *
  have hLA : ∀ x : Hi W0, (Instr.loadAt 27 (.pointer (some ⟨w.heap.size, 0, none⟩))).run Try.prog x.W = .ok (.agg c.toArray) x.W := fun x => agg_load Try.isAgg27 Try.sizeOf27 hL.len (CellsAt.of_blk (Hi.blk hb0 x))
  have HLA : Hid _ := hLA
  have HD : Hid _ := h
  have HL : Hid _ := hL
  have HB0 : Hid _ := hB0
  have HBK : Hid _ := hb0
  have HW0 : Hid _ := hW0
  have HAW : Hid _ := awake_calls W0
  have HWR : Hid _ := fun W => Write_no c off opts.length body.length W HL.out hk
  have q : (chk off opts.length body.length != 0) = true := by simp [hk]
  clear hk
  generalize chk off opts.length body.length = kk at *
  clear hLA hB0 hb0 hL h hW0
  rw [← HW0.out] at HAW
  go_enter Try.func8, Try.ntmps8
  go_wp2_with fail
  refine Calls.mono HAW.out ?_
  rintro e1 w1 ⟨rfl, hb1⟩
  rw [HW0.out] at hb1
  have hbw1 := HB0.out.trans (hb1.mono HB0.out.size)
  have hl1 : (Instr.loadAt 27 (.pointer (some ⟨w.heap.size, 0, none⟩))).run Try.prog w1 = .ok (.agg c.toArray) w1 := HLA.out ⟨w1, hb1⟩
  have HL1 : Hid _ := hl1
  clear hl1
  have HB1 : Hid _ := hb1
  clear hb1
  go_wp2_with ((with_reducible show wpList _ _ _ _ _ _); refine arm_load rfl (.tmp 2) 27 rfl rfl HL1.out ?_)
  refine Calls.mono (HWR.out w1) ?_
  rintro e2 w2 ⟨rfl, hb2⟩
  have hfin := hbw1.trans (hb2.mono hbw1.size)
  clear HWR HL1 hb2 hbw1
  go_wp2
  go_ret
  exact ⟨rfl, hfin⟩

set_option maxHeartbeats 2000000 in
set_option maxRecDepth 100000 in
theorem ipv4Cut_fara (c : List Value) (tos id : Int) (df mf : Bool) (off ttl proto s0 s1 s2 s3 d0 d1 d2 d3 : Int) (opts body : List Int) (n : Int) (w : World) (h : Dgram w c tos id df mf off ttl proto s0 s1 s2 s3 d0 d1 d2 d3 opts body) (hk : chk off opts.length body.length = 0) (hn : n < 0) :
    Calls Try.prog 8 #[.agg c.toArray, .int .i64 n] w fun e w' => e = .returned (.bool true) ∧ Below w.heap.size w w' := by
  have hL := h.lens
  have hb0 := blk_new w (.cells c.toArray 27)
  have hB0 := (Below.refl w.heap.size w).alloc (Nat.le_refl _) (.cells c.toArray 27)
  generalize hW0 : w.alloc (.cells c.toArray 27) = W0 at *
  have hLA : ∀ x : Hi W0, (Instr.loadAt 27 (.pointer (some ⟨w.heap.size, 0, none⟩))).run Try.prog x.W = .ok (.agg c.toArray) x.W := fun x => agg_load Try.isAgg27 Try.sizeOf27 hL.len (CellsAt.of_blk (Hi.blk hb0 x))
  have HLA : Hid _ := hLA
  have HD : Hid _ := h
  have HL : Hid _ := hL
  have HB0 : Hid _ := hB0
  have HBK : Hid _ := hb0
  have HW0 : Hid _ := hW0
  have HAW : Hid _ := awake_calls W0
  have HWR : Hid _ := fun W hB => Write_ok c tos id df mf off ttl proto s0 s1 s2 s3 d0 d1 d2 d3 opts body W (HD.out.on hB) hk
  obtain ⟨ab, kb, h16⟩ := HL.out.h16
  have H16 : Hid _ := h16
  have q1 : decide (n < 0) = true := by simp; omega
  clear hk h16
  clear hLA hB0 hb0 hL h hW0
  rw [← HW0.out] at HAW
  go_enter Try.func8, Try.ntmps8
  go_wp2_with fail
  refine Calls.mono HAW.out ?_
  rintro e1 w1 ⟨rfl, hb1⟩
  rw [HW0.out] at hb1
  have hbw1 := HB0.out.trans (hb1.mono HB0.out.size)
  have hl1 : (Instr.loadAt 27 (.pointer (some ⟨w.heap.size, 0, none⟩))).run Try.prog w1 = .ok (.agg c.toArray) w1 := HLA.out ⟨w1, hb1⟩
  have HL1 : Hid _ := hl1
  clear hl1
  have HB1 : Hid _ := hb1
  go_wp2_with ((with_reducible show wpList _ _ _ _ _ _); refine arm_load rfl (.tmp 2) 27 rfl rfl HL1.out ?_)
  refine Calls.mono (HWR.out w1 hbw1) ?_
  rintro e2 w2 ⟨g, rfl, hg, own, hb2⟩
  have hfin := hbw1.trans (hb2.mono hbw1.size)
  have hb02 := hb1.trans (hb2.mono hb1.size)
  have k16 := blk_cell (blk_on HBK.out hb02) H16.out
  clear HWR HL1 hb2 hbw1 own hb1 hb02 HD
  go_wp2
  go_ret
  exact ⟨rfl, hfin⟩

set_option maxHeartbeats 2000000 in
set_option maxRecDepth 100000 in
theorem ipv4Cut_farb (c : List Value) (tos id : Int) (df mf : Bool) (off ttl proto s0 s1 s2 s3 d0 d1 d2 d3 : Int) (opts body : List Int) (n : Int) (w : World) (h : Dgram w c tos id df mf off ttl proto s0 s1 s2 s3 d0 d1 d2 d3 opts body) (hk : chk off opts.length body.length = 0) (hn : (body.length : Int) < n) :
    Calls Try.prog 8 #[.agg c.toArray, .int .i64 n] w fun e w' => e = .returned (.bool true) ∧ Below w.heap.size w w' := by
  have hL := h.lens
  have hb0 := blk_new w (.cells c.toArray 27)
  have hB0 := (Below.refl w.heap.size w).alloc (Nat.le_refl _) (.cells c.toArray 27)
  generalize hW0 : w.alloc (.cells c.toArray 27) = W0 at *
  have hLA : ∀ x : Hi W0, (Instr.loadAt 27 (.pointer (some ⟨w.heap.size, 0, none⟩))).run Try.prog x.W = .ok (.agg c.toArray) x.W := fun x => agg_load Try.isAgg27 Try.sizeOf27 hL.len (CellsAt.of_blk (Hi.blk hb0 x))
  have HLA : Hid _ := hLA
  have HD : Hid _ := h
  have HL : Hid _ := hL
  have HB0 : Hid _ := hB0
  have HBK : Hid _ := hb0
  have HW0 : Hid _ := hW0
  have HAW : Hid _ := awake_calls W0
  have HWR : Hid _ := fun W hB => Write_ok c tos id df mf off ttl proto s0 s1 s2 s3 d0 d1 d2 d3 opts body W (HD.out.on hB) hk
  obtain ⟨ab, kb, h16⟩ := HL.out.h16
  have H16 : Hid _ := h16
  have q1 : decide (n < 0) = false := by simp; omega
  have q2 : decide ((body.length : Int) < n) = true := by simp; omega
  clear hk h16
  clear hLA hB0 hb0 hL h hW0
  rw [← HW0.out] at HAW
  go_enter Try.func8, Try.ntmps8
  go_wp2_with fail
  refine Calls.mono HAW.out ?_
  rintro e1 w1 ⟨rfl, hb1⟩
  rw [HW0.out] at hb1
  have hbw1 := HB0.out.trans (hb1.mono HB0.out.size)
  have hl1 : (Instr.loadAt 27 (.pointer (some ⟨w.heap.size, 0, none⟩))).run Try.prog w1 = .ok (.agg c.toArray) w1 := HLA.out ⟨w1, hb1⟩
  have HL1 : Hid _ := hl1
  clear hl1
  have HB1 : Hid _ := hb1
  go_wp2_with ((with_reducible show wpList _ _ _ _ _ _); refine arm_load rfl (.tmp 2) 27 rfl rfl HL1.out ?_)
  refine Calls.mono (HWR.out w1 hbw1) ?_
  rintro e2 w2 ⟨g, rfl, hg, own, hb2⟩
  have hfin := hbw1.trans (hb2.mono hbw1.size)
  have hb02 := hb1.trans (hb2.mono hb1.size)
  have k16 := blk_cell (blk_on HBK.out hb02) H16.out
  clear HWR HL1 hb2 hbw1 own hb1 hb02 HD
  go_wp2
  go_ret
  exact ⟨rfl, hfin⟩

set_option maxHeartbeats 2000000 in
set_option maxRecDepth 100000 in
theorem ipv4Cut_ok (c : List Value) (tos id : Int) (df mf : Bool) (off ttl proto s0 s1 s2 s3 d0 d1 d2 d3 : Int) (opts body : List Int) (n : Nat) (w : World) (h : Dgram w c tos id df mf off ttl proto s0 s1 s2 s3 d0 d1 d2 d3 opts body) (hk : chk off opts.length body.length = 0) (hn : n ≤ body.length) (x : Addr) (kb : Nat) (h16 : c[16]? = some (.slice (some x) body.length kb)) (hkb : body.length ≤ kb) :
    Calls Try.prog 8 #[.agg c.toArray, .int .i64 n] w fun e w' => e = .returned (.bool true) ∧ Below w.heap.size w w' := by
  have hL := h.lens
  have hb0 := blk_new w (.cells c.toArray 27)
  have hB0 := (Below.refl w.heap.size w).alloc (Nat.le_refl _) (.cells c.toArray 27)
  generalize hW0 : w.alloc (.cells c.toArray 27) = W0 at *
  have hLA : ∀ x : Hi W0, (Instr.loadAt 27 (.pointer (some ⟨w.heap.size, 0, none⟩))).run Try.prog x.W = .ok (.agg c.toArray) x.W := fun x => agg_load Try.isAgg27 Try.sizeOf27 hL.len (CellsAt.of_blk (Hi.blk hb0 x))
  have HLA : Hid _ := hLA
  have HD : Hid _ := h
  have HL : Hid _ := hL
  have HB0 : Hid _ := hB0
  have HBK : Hid _ := hb0
  have HW0 : Hid _ := hW0
  have HAW : Hid _ := awake_calls W0
  have HWR : Hid _ := fun W hB => Write_ok c tos id df mf off ttl proto s0 s1 s2 s3 d0 d1 d2 d3 opts body W (HD.out.on hB) hk
  obtain ⟨hno, hnb, ho⟩ := chk_zero hk
  have h4 := chk_zero4 hk
  obtain ⟨sm, hwe, hsm, hsm0, hsm1, hfit⟩ := wrL_fit HD.out hk
  have hlen : (rhd (20 + opts.length) (20 + opts.length + body.length) tos id (cutW off df mf) ttl proto s0 s1 s2 s3 d0 d1 d2 d3 sm opts ++ body).length = 20 + opts.length + body.length := by rw [List.length_append, rhd_length]
  have htk : (rhd (20 + opts.length) (20 + opts.length + body.length) tos id (cutW off df mf) ttl proto s0 s1 s2 s3 d0 d1 d2 d3 sm opts ++ body).take (20 + opts.length + (body.length - n)) = rhd (20 + opts.length) (20 + opts.length + body.length) tos id (cutW off df mf) ttl proto s0 s1 s2 s3 d0 d1 d2 d3 sm opts ++ body.take (body.length - n) := by
    rw [List.take_append, rhd_length, show 20 + opts.length + (body.length - n) - (20 + opts.length) = (body.length - n) by omega, List.take_of_length_le (by rw [rhd_length]; omega)]
  have hpe : pErr (rhd (20 + opts.length) (20 + opts.length + body.length) tos id (cutW off df mf) ttl proto s0 s1 s2 s3 d0 d1 d2 d3 sm opts ++ body.take (body.length - n)) true = (0, 0) := by
    refine pErr_part (by rw [List.length_append, rhd_length]; omega) (rhd_ver (by omega)) ?_ ?_
    · rw [rhd_head (by omega) h4, List.length_append, rhd_length]; omega
    · rw [rhd_all, List.length_append, rhd_length, List.length_take]; omega
  obtain ⟨so, sb, hc, hso, hsb⟩ := HD.out.cells
  have hbt : (body.take (body.length - n)).length = (body.length - n) := by rw [List.length_take]; omega
  have hrow : ∀ W g, OwnG W g (wrL tos id df mf off ttl proto s0 s1 s2 s3 d0 d1 d2 d3 opts body) → RowC W (.slice (some ⟨g, 0, none⟩) (20 + opts.length + (body.length - n)) (20 + opts.length + body.length)) (rhd (20 + opts.length) (20 + opts.length + body.length) tos id (cutW off df mf) ttl proto s0 s1 s2 s3 d0 d1 d2 d3 sm opts ++ body.take (body.length - n)) := fun W g hO => by
    have := hO.row (by rw [hwe]; exact hfit) (by rw [hwe, hlen]; exact hnb) (20 + opts.length + (body.length - n)) (20 + opts.length + body.length) (by rw [hwe, hlen]; omega) (by omega)
    rwa [hwe, htk] at this
  have hpart : ∀ W g, OwnG W g (wrL tos id df mf off ttl proto s0 s1 s2 s3 d0 d1 d2 d3 opts body) → Calls Try.prog 20 #[.slice (some ⟨g, 0, none⟩) (20 + opts.length + (body.length - n)) (20 + opts.length + body.length)] W fun e w' => ∃ c', e = .returned (.tuple #[.agg c'.toArray, .int .i64 0, .int .i64 0]) ∧ Dgram w' c' tos id df mf off ttl proto s0 s1 s2 s3 d0 d1 d2 d3 opts (body.take (body.length - n)) ∧ Below W.heap.size W w' := fun W g hO => by
    refine Calls.mono (Part_any (hrow W g hO)) ?_
    rintro e w' ⟨c', he, hP, hA, hB⟩
    rw [hpe] at he
    unfold ParD at hP
    rw [if_pos hpe] at hP
    exact ⟨c', he, rhd_says (by omega) h4 ho hP, hB⟩
  have q1 : decide ((n : Int) < 0) = false := by simp
  have q2 : decide ((body.length : Int) < (n : Int)) = false := by simp; omega
  have q3 : IntKind.i64.wrap (((20 + opts.length + body.length : Nat) : Int) - (n : Int)) = ((20 + opts.length + (body.length - n) : Nat) : Int) := by rw [wrapi64 _ (by omega)]; omega
  have q4 : IntKind.i64.wrap ((body.length : Int) - (n : Int)) = ((body.length - n : Nat) : Int) := by rw [wrapi64 _ (by have := HL.out.bb; omega)]; omega
  have hsbe : sb = .slice (some x) body.length kb := by
    have h' := h16
    rw [hc.eq] at h'
    exact (Option.some.inj h'.symm).symm
  subst hsbe
  have H16 : Hid _ := h16
  have HP : Hid _ := hpart
  have HC : Hid _ := hc
  have HSO : Hid _ := hso
  have HSB : Hid _ := hsb
  have HBT : Hid _ := hbt
  have HN : Hid _ := hn
  have hnle : (body.length - n) ≤ body.length := by omega
  clear hk h16 hpart hrow hpe htk hlen hfit hwe hsm hsm0 hsm1 hc hso hsb hbt h4 ho
  clear hLA hB0 hb0 hL h hW0
  rw [← HW0.out] at HAW
  go_enter Try.func8, Try.ntmps8
  go_wp2_with fail
  refine Calls.mono HAW.out ?_
  rintro e1 w1 ⟨rfl, hb1⟩
  rw [HW0.out] at hb1
  have hbw1 := HB0.out.trans (hb1.mono HB0.out.size)
  have hl1 : (Instr.loadAt 27 (.pointer (some ⟨w.heap.size, 0, none⟩))).run Try.prog w1 = .ok (.agg c.toArray) w1 := HLA.out ⟨w1, hb1⟩
  have HL1 : Hid _ := hl1
  clear hl1
  have HB1 : Hid _ := hb1
  go_wp2_with ((with_reducible show wpList _ _ _ _ _ _); refine arm_load rfl (.tmp 2) 27 rfl rfl HL1.out ?_)
  refine Calls.mono (HWR.out w1 hbw1) ?_
  rintro e2 w2 ⟨g, rfl, hg, own, hb2⟩
  have hbw2 := hbw1.trans (hb2.mono hbw1.size)
  have hb02 := hb1.trans (hb2.mono hb1.size)
  have k16 := blk_cell (blk_on HBK.out hb02) H16.out
  have hP2 := HP.out w2 g own
  rw [show 20 + opts.length + (body.length - n) = 20 + opts.length + body.length - n by have := HN.out; omega] at hP2
  have HP2 : Hid _ := hP2
  clear hP2
  have HBW2 : Hid _ := hbw2
  have HB02 : Hid _ := hb02
  clear HWR HL1 hb2 hbw1 own HB1 hb1 hb02 hbw2 HAW HP
  go_wp2_with fail
  refine Calls.mono HP2.out ?_
  rintro e3 w3 ⟨c3, rfl, hD3, hb3⟩
  have hbw3 := HBW2.out.trans (hb3.mono HBW2.out.size)
  have hb03 := HB02.out.trans (hb3.mono HB02.out.size)
  obtain ⟨w4, hst4, hk4, hb4, hlt4⟩ := box17k w3 c3 ⟨hD3.lens.len, hD3.ones⟩
  have hb04 := hb03.trans (hb4.mono hb03.size)
  have hbw4 := hbw3.trans (hb4.mono hbw3.size)
  obtain ⟨w5, hst5, hk5, hb5, hlt5⟩ := box17k w4 c ⟨HL.out.len, HD.out.ones⟩
  have hb05 := hb04.trans (hb5.mono hb04.size)
  have hbw5 := hbw4.trans (hb5.mono hbw4.size)
  have hl4 : (Instr.loadAt 27 (.pointer (some ⟨w.heap.size, 0, none⟩))).run Try.prog w4 = .ok (.agg c.toArray) w4 := HLA.out ⟨w4, hb04⟩
  have hD5 := (hD3.on hb4).on hb5
  have k5 := blk_on hk4 hb5
  have hB6 := (Below.refl w5.heap.size w5).alloc (Nat.le_refl _) (.cells #[] 5)
  have hbw6 := hbw5.trans (hB6.mono hbw5.size)
  have hfr := (HSB.out.front (body.length - n) hnle).later hbw6
  obtain ⟨a7, k7, w7, hrun7, hby7, hb7, hloc7⟩ := bytes_copied2 hfr w5.heap.size 25
  rw [HBT.out] at hrun7 hby7
  have c16a := fun o => blk_cell (blk_alloc (blk_on HBK.out hb05) o) H16.out
  have hB57 := hB6.trans (hb7.mono hB6.size)
  have vb7 := blk_on hk5 hB57
  have x16 := blk_cell vb7 (j := 16) H16.out
  have f16 := blk_open vb7 16
  have hO8 := (Only.refl w4.heap.size w7).set 16 (.slice a7 (body.length - n) k7)
  have vb8 := blk_set vb7 16 (.slice a7 (body.length - n) k7)
  have hk8 : (w7.setCell ⟨w4.heap.size, 16, none⟩ (.slice a7 (body.length - n) k7)).heap[w3.heap.size]? = _ := (hO8.other w3.heap.size (by omega)).trans (blk_on k5 hB57)
  have hlt45 : w4.heap.size < w5.heap.size := hlt5
  have hby8 := bytes_only hby7 hO8 (loc_lt (s := w5.heap.size) (hloc7.imp (fun h => h) (fun ⟨g, o, e, hs⟩ => ⟨g, o, (body.length - n), k7, by rw [e], Nat.le_trans (by simp) hs⟩)) hlt45)
  have hbw8 : Below w.heap.size w (w7.setCell ⟨w4.heap.size, 16, none⟩ (.slice a7 (body.length - n) k7)) := (hbw5.trans (hB57.mono hbw5.size)).setCell (by have := hbw4.size; simpa using this) _
  have hso8 := HSO.out.later hbw8
  have e8 : c.set 16 (.slice a7 (body.length - n) k7) = [.int .u8 tos, .int .u16 id, .bool df, .bool mf, .int .i64 off, .int .u8 ttl, .int .u8 proto] ++ ([s0, s1, s2, s3].map (fun z => Value.int .u8 z) ++ ([d0, d1, d2, d3].map (fun z => Value.int .u8 z) ++ [so, .slice a7 (body.length - n) k7])) := by rw [HC.out.eq]; rfl
  have hx8 : Dgram (w7.setCell ⟨w4.heap.size, 16, none⟩ (.slice a7 (body.length - n) k7)) (c.set 16 (.slice a7 (body.length - n) k7)) tos id df mf off ttl proto s0 s1 s2 s3 d0 d1 d2 d3 opts (body.take (body.length - n)) :=
    ⟨⟨so, _, ⟨e8, rfl, rfl⟩, hso8, hby8⟩, HD.out.hid, HD.out.ft, HD.out.fl, HD.out.fp, HD.out.fs, HD.out.fd, HD.out.bo⟩
  have hB58 : Below w4.heap.size w4 (w7.setCell ⟨w4.heap.size, 16, none⟩ (.slice a7 (body.length - n) k7)) := (hb5.trans (hB57.mono hb5.size)).setCell (Nat.le_refl _) _
  have hy8 := (hD3.on hb4).on hB58
  have hrs := RSame_calls _ hy8 hx8
  rw [sameB_self] at hrs
  have hld8a := agg_load (t := 27) Try.isAgg27 Try.sizeOf27 hD3.lens.len (CellsAt.of_blk hk8)
  have hld8b := agg_load (t := 27) Try.isAgg27 Try.sizeOf27 hx8.lens.len (CellsAt.of_blk vb8)
  have HRS : Hid _ := hrs
  have HLA8 : Hid _ := hld8a
  have HLB8 : Hid _ := hld8b
  have HST4 : Hid _ := hst4
  have HST5 : Hid _ := hst5
  have HL4 : Hid _ := hl4
  have HRUN : Hid _ := hrun7
  have HBW8 : Hid _ := hbw8
  unfold zeroC at HST4 HST5
  clear hrs hld8a hld8b hst4 hst5 hl4 hrun7 hbw8 hB58 hy8 hx8 e8 hso8 hby8 hk8 vb8 hO8 hD5 k5 vb7 hB57 hfr hb7 hloc7 hby7 hbw6 hB6 hb05 hbw5 hb04 hbw4 hk4 hk5 hb4 hb5 hb03 hbw3 hb3 hD3 HBW2 HB02 HSO HSB HC HD HL HP2 HLA
  go_wp2_with first
    | ((with_reducible show wpList _ _ _ _ _ _); refine arm_store rfl (.tmp 7) _ 27 rfl rfl rfl HST4.out ?_)
    | ((with_reducible show wpList _ _ _ _ _ _); refine arm_load rfl (.tmp 2) 27 rfl rfl HL4.out ?_)
    | ((with_reducible show wpList _ _ _ _ _ _); refine arm_store rfl (.tmp 10) _ 27 rfl rfl rfl HST5.out ?_)
    | (at_builtin; refine wpList_append_run rfl _ _ _ _ rfl rfl rfl HRUN.out ?_; clear HRUN HST4 HL4 HST5)
    | ((with_reducible show wpList _ _ _ _ _ _); refine arm_load rfl (.tmp 7) 27 rfl rfl HLA8.out ?_)
    | ((with_reducible show wpList _ _ _ _ _ _); refine arm_load rfl (.tmp 10) 27 rfl rfl HLB8.out ?_)
  refine Calls.mono HRS.out ?_
  rintro e9 w9 ⟨rfl, hb9⟩
  have hfin := HBW8.out.trans (hb9.mono HBW8.out.size)
  clear hb9
  go_wp2
  go_ret
  exact ⟨rfl, hfin⟩

set_option maxHeartbeats 2000000 in
set_option maxRecDepth 100000 in
theorem ipv4Cut_nil (c : List Value) (tos id : Int) (df mf : Bool) (off ttl proto s0 s1 s2 s3 d0 d1 d2 d3 : Int) (opts : List Int) (w : World) (h : Dgram w c tos id df mf off ttl proto s0 s1 s2 s3 d0 d1 d2 d3 opts []) (hk : chk off opts.length 0 = 0) (h16 : c[16]? = some (.slice none 0 0)) :
    Calls Try.prog 8 #[.agg c.toArray, .int .i64 0] w fun e w' => e = .returned (.bool true) ∧ Below w.heap.size w w' := by
  have hL := h.lens
  have hb0 := blk_new w (.cells c.toArray 27)
  have hB0 := (Below.refl w.heap.size w).alloc (Nat.le_refl _) (.cells c.toArray 27)
  generalize hW0 : w.alloc (.cells c.toArray 27) = W0 at *
  have hLA : ∀ x : Hi W0, (Instr.loadAt 27 (.pointer (some ⟨w.heap.size, 0, none⟩))).run Try.prog x.W = .ok (.agg c.toArray) x.W := fun x => agg_load Try.isAgg27 Try.sizeOf27 hL.len (CellsAt.of_blk (Hi.blk hb0 x))
  have HLA : Hid _ := hLA
  have HD : Hid _ := h
  have HL : Hid _ := hL
  have HB0 : Hid _ := hB0
  have HBK : Hid _ := hb0
  have HW0 : Hid _ := hW0
  have HAW : Hid _ := awake_calls W0
  have HWR : Hid _ := fun W hB => Write_ok c tos id df mf off ttl proto s0 s1 s2 s3 d0 d1 d2 d3 opts [] W (HD.out.on hB) hk
  obtain ⟨so, sb, hc, hso, hsb⟩ := HD.out.cells
  obtain ⟨hno, hnb, ho⟩ := chk_zero hk
  have hpart := part_back (n := 0) HD.out hk (Nat.le_refl _)
  simp only [List.length_nil, Nat.sub_zero, Nat.add_zero, List.take_nil] at hpart
  have hsbe : sb = .slice none 0 0 := by
    have h' := h16
    rw [hc.eq] at h'
    exact (Option.some.inj h'.symm).symm
  subst hsbe
  have H16 : Hid _ := h16
  have HP : Hid _ := hpart
  have HC : Hid _ := hc
  have HSO : Hid _ := hso
  have HSB : Hid _ := hsb
  clear hk h16 hpart hc hso hsb
  clear hLA hB0 hb0 hL h hW0
  rw [← HW0.out] at HAW
  go_enter Try.func8, Try.ntmps8
  go_wp2_with fail
  refine Calls.mono HAW.out ?_
  rintro e1 w1 ⟨rfl, hb1⟩
  rw [HW0.out] at hb1
  have hbw1 := HB0.out.trans (hb1.mono HB0.out.size)
  have hl1 : (Instr.loadAt 27 (.pointer (some ⟨w.heap.size, 0, none⟩))).run Try.prog w1 = .ok (.agg c.toArray) w1 := HLA.out ⟨w1, hb1⟩
  have HL1 : Hid _ := hl1
  clear hl1
  have HB1 : Hid _ := hb1
  go_wp2_with ((with_reducible show wpList _ _ _ _ _ _); refine arm_load rfl (.tmp 2) 27 rfl rfl HL1.out ?_)
  refine Calls.mono (HWR.out w1 hbw1) ?_
  rintro e2 w2 ⟨g, rfl, hg, own, hb2⟩
  have hbw2 := hbw1.trans (hb2.mono hbw1.size)
  have hb02 := hb1.trans (hb2.mono hb1.size)
  have k16 := blk_cell (blk_on HBK.out hb02) H16.out
  have hP2 := HP.out w2 g own
  have HP2 : Hid _ := hP2
  clear hP2
  have HBW2 : Hid _ := hbw2
  have HB02 : Hid _ := hb02
  clear HWR HL1 hb2 hbw1 own HB1 hb1 hb02 hbw2 HAW HP
  go_wp2_with fail
  refine Calls.mono HP2.out ?_
  rintro e3 w3 ⟨c3, rfl, hD3, hb3⟩
  have hbw3 := HBW2.out.trans (hb3.mono HBW2.out.size)
  have hb03 := HB02.out.trans (hb3.mono HB02.out.size)
  obtain ⟨w4, hst4, hk4, hb4, hlt4⟩ := box17k w3 c3 ⟨hD3.lens.len, hD3.ones⟩
  have hb04 := hb03.trans (hb4.mono hb03.size)
  have hbw4 := hbw3.trans (hb4.mono hbw3.size)
  obtain ⟨w5, hst5, hk5, hb5, hlt5⟩ := box17k w4 c ⟨HL.out.len, HD.out.ones⟩
  have hb05 := hb04.trans (hb5.mono hb04.size)
  have hbw5 := hbw4.trans (hb5.mono hbw4.size)
  have hl4 : (Instr.loadAt 27 (.pointer (some ⟨w.heap.size, 0, none⟩))).run Try.prog w4 = .ok (.agg c.toArray) w4 := HLA.out ⟨w4, hb04⟩
  have hD5 := (hD3.on hb4).on hb5
  have k5 := blk_on hk4 hb5
  have hB6 := (Below.refl w5.heap.size w5).alloc (Nat.le_refl _) (.cells #[] 5)
  have hbw6 := hbw5.trans (hB6.mono hbw5.size)
  have hfr := HSB.out.later hbw6
  obtain ⟨a7, k7, w7, hrun7, hby7, hb7, hloc7⟩ := bytes_copied2 hfr w5.heap.size 25
  have c16a := fun o => blk_cell (blk_alloc (blk_on HBK.out hb05) o) H16.out
  have hB57 := hB6.trans (hb7.mono hB6.size)
  have vb7 := blk_on hk5 hB57
  have x16 := blk_cell vb7 (j := 16) H16.out
  have f16 := blk_open vb7 16
  have hO8 := (Only.refl w4.heap.size w7).set 16 (.slice a7 0 k7)
  have vb8 := blk_set vb7 16 (.slice a7 0 k7)
  have hk8 : (w7.setCell ⟨w4.heap.size, 16, none⟩ (.slice a7 0 k7)).heap[w3.heap.size]? = _ := (hO8.other w3.heap.size (by omega)).trans (blk_on k5 hB57)
  have hlt45 : w4.heap.size < w5.heap.size := hlt5
  have hby8 := bytes_only hby7 hO8 (loc_lt (s := w5.heap.size) (hloc7.imp (fun h => h) (fun ⟨g, o, e, hs⟩ => ⟨g, o, 0, k7, by rw [e]; rfl, Nat.le_trans (by simp) hs⟩)) hlt45)
  have hbw8 : Below w.heap.size w (w7.setCell ⟨w4.heap.size, 16, none⟩ (.slice a7 0 k7)) := (hbw5.trans (hB57.mono hbw5.size)).setCell (by have := hbw4.size; simpa using this) _
  have hso8 := HSO.out.later hbw8
  have e8 : c.set 16 (.slice a7 0 k7) = [.int .u8 tos, .int .u16 id, .bool df, .bool mf, .int .i64 off, .int .u8 ttl, .int .u8 proto] ++ ([s0, s1, s2, s3].map (fun z => Value.int .u8 z) ++ ([d0, d1, d2, d3].map (fun z => Value.int .u8 z) ++ [so, .slice a7 0 k7])) := by rw [HC.out.eq]; rfl
  have hx8 : Dgram (w7.setCell ⟨w4.heap.size, 16, none⟩ (.slice a7 0 k7)) (c.set 16 (.slice a7 0 k7)) tos id df mf off ttl proto s0 s1 s2 s3 d0 d1 d2 d3 opts (([] : List Int)) :=
    ⟨⟨so, _, ⟨e8, rfl, rfl⟩, hso8, hby8⟩, HD.out.hid, HD.out.ft, HD.out.fl, HD.out.fp, HD.out.fs, HD.out.fd, HD.out.bo⟩
  have hB58 : Below w4.heap.size w4 (w7.setCell ⟨w4.heap.size, 16, none⟩ (.slice a7 0 k7)) := (hb5.trans (hB57.mono hb5.size)).setCell (Nat.le_refl _) _
  have hy8 := (hD3.on hb4).on hB58
  have hrs := RSame_calls _ hy8 hx8
  rw [sameB_self] at hrs
  have hld8a := agg_load (t := 27) Try.isAgg27 Try.sizeOf27 hD3.lens.len (CellsAt.of_blk hk8)
  have hld8b := agg_load (t := 27) Try.isAgg27 Try.sizeOf27 hx8.lens.len (CellsAt.of_blk vb8)
  have HRS : Hid _ := hrs
  have HLA8 : Hid _ := hld8a
  have HLB8 : Hid _ := hld8b
  have HST4 : Hid _ := hst4
  have HST5 : Hid _ := hst5
  have HL4 : Hid _ := hl4
  have HRUN : Hid _ := hrun7
  have HBW8 : Hid _ := hbw8
  unfold zeroC at HST4 HST5
  clear hrs hld8a hld8b hst4 hst5 hl4 hrun7 hbw8 hB58 hy8 hx8 e8 hso8 hby8 hk8 vb8 hO8 hD5 k5 vb7 hB57 hfr hb7 hloc7 hby7 hbw6 hB6 hb05 hbw5 hb04 hbw4 hk4 hk5 hb4 hb5 hb03 hbw3 hb3 hD3 HBW2 HB02 HSO HSB HC HD HL HP2 HLA
  go_wp2_with first
    | ((with_reducible show wpList _ _ _ _ _ _); refine arm_store rfl (.tmp 7) _ 27 rfl rfl rfl HST4.out ?_)
    | ((with_reducible show wpList _ _ _ _ _ _); refine arm_load rfl (.tmp 2) 27 rfl rfl HL4.out ?_)
    | ((with_reducible show wpList _ _ _ _ _ _); refine arm_store rfl (.tmp 10) _ 27 rfl rfl rfl HST5.out ?_)
    | (at_builtin; refine wpList_append_run rfl _ _ _ _ rfl rfl rfl HRUN.out ?_; clear HRUN HST4 HL4 HST5)
    | ((with_reducible show wpList _ _ _ _ _ _); refine arm_load rfl (.tmp 7) 27 rfl rfl HLA8.out ?_)
    | ((with_reducible show wpList _ _ _ _ _ _); refine arm_load rfl (.tmp 10) 27 rfl rfl HLB8.out ?_)
  refine Calls.mono HRS.out ?_
  rintro e9 w9 ⟨rfl, hb9⟩
  have hfin := HBW8.out.trans (hb9.mono HBW8.out.size)
  clear hb9
  go_wp2
  go_ret
  exact ⟨rfl, hfin⟩

theorem ipv4Cut_open {H : Type} {enc : TypeId × Value → H} {W : World} {base : Nat} (v0 : Value) {d0 : DataW H} {p0 : List MemPlace} (v1 : Value) {d1 : DataW H} {p1 : List MemPlace}
    (o0 : Value.okWide Try.prog W .any base 27 v0) (h0 : DataW.Trod enc Try.prog W 0 (fun _ => true) true 27 v0 d0 p0) (z0 : ∀ k ∈ d0.weights Try.prog 27, k ≤ reachBytes)
    (o1 : Value.okWide Try.prog W .any base 3 v1) (h1 : DataW.Trod enc Try.prog W 0 (fun _ => true) true 3 v1 d1 p1) (z1 : ∀ k ∈ d1.weights Try.prog 3, k ≤ reachBytes) :
    Calls Try.prog 8 #[v0, v1] W fun e w' => e = .returned (.bool true) ∧ Below W.heap.size W w' := by
  obtain ⟨n, rfl, _, _, wn⟩ := Go.ChangeShapes.open_int Try.underlying3 o1 h1
  obtain ⟨c, tos, id, df, mf, off, ttl, proto, s0, s1, s2, s3, e0, e1, e2, e3, opts, body, rfl, hD⟩ := open_v4 h0 z0
  obtain ⟨a, m, k, h16, hk16, hnone⟩ := v4_room h0 16 (.inr rfl)
  obtain ⟨a', k', h16'⟩ := hD.lens.h16
  rw [h16] at h16'
  cases h16'
  by_cases hk : chk off opts.length body.length = 0
  · by_cases hn0 : n < 0
    · exact ipv4Cut_fara c tos id df mf off ttl proto s0 s1 s2 s3 e0 e1 e2 e3 opts body n W hD hk hn0
    · by_cases hn1 : (body.length : Int) < n
      · exact ipv4Cut_farb c tos id df mf off ttl proto s0 s1 s2 s3 e0 e1 e2 e3 opts body n W hD hk hn1
      · obtain ⟨m, rfl⟩ := Int.eq_ofNat_of_zero_le (show 0 ≤ n by omega)
        cases a with
        | some x => exact ipv4Cut_ok c tos id df mf off ttl proto s0 s1 s2 s3 e0 e1 e2 e3 opts body m W hD hk (by omega) x k h16 hk16
        | none =>
          obtain rfl := hnone rfl
          obtain rfl : body = [] := List.length_eq_zero_iff.1 (by omega)
          obtain rfl : m = 0 := by simp at hn1; omega
          exact ipv4Cut_nil c tos id df mf off ttl proto s0 s1 s2 s3 e0 e1 e2 e3 opts W hD hk h16
  · exact ipv4Cut_no c tos id df mf off ttl proto s0 s1 s2 s3 e0 e1 e2 e3 opts body n W hD hk

end Go.Proofs.Ytmoogfdmlbalbaa
