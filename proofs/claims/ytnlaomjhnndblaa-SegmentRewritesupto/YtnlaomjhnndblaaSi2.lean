/-
  writeTCP of package segment: the segment's bytes, and too many of them.
-/
import Derived.Test.YtnlaomjhnndblaaSi1
namespace Go.Proofs.Ytnlaomjhnndblaa
open Go Go.RowKit Go.Shelf
set_option linter.unusedVariables false
set_option linter.unusedSimpArgs false


set_option maxHeartbeats 4000000 in
set_option maxRecDepth 100000 in
theorem writeTCP_long (o : Value) (ph : Int → Int → List Int) (c : List Value) (t : Seg) (w : World) (ho : OverV w o ph) (ht : TcpC w c t) (hb : tcpBad t = false) (hn : 65535 < tcpAll t) :
    Calls Try.prog 46 #[o, .agg c.toArray] w fun e w' => e = .returned (.tuple #[.slice none 0 0, .int .i64 2]) ∧ Below w.heap.size w w' := by
  have hws0 := tcpW_words ht hb (ck := 0) (by decide)
  have hwsk := fun (k : Int) (hk : 0 ≤ k ∧ k ≤ 65535) => tcpW_words ht hb hk
  obtain ⟨⟨vo, vd, rfl, hvo, hvd⟩, fs, fd, fq, fa, ff, fw, fu⟩ := ht
  obtain ⟨g0, lb, rfl⟩ := ho.own
  obtain ⟨src, dst, seq, ack, fl, win, urg, opts, data⟩ := t
  simp only [tcpAll] at hvo hvd hb fs fd fq fa ff fw fu hn ⊢
  have hb0 := blk_new w (.cells [.int .u16 src, .int .u16 dst, .int .u32 seq, .int .u32 ack, .int .u8 fl, .int .u16 win, .int .u16 urg, vo, vd].toArray 34)
  have hB0 := (Below.refl w.heap.size w).alloc (Nat.le_refl _) (.cells [.int .u16 src, .int .u16 dst, .int .u32 seq, .int .u32 ack, .int .u8 fl, .int .u16 win, .int .u16 urg, vo, vd].toArray 34)
  obtain ⟨W0, hW0⟩ : ∃ W0, w.alloc (.cells [.int .u16 src, .int .u16 dst, .int .u32 seq, .int .u32 ack, .int .u8 fl, .int .u16 win, .int .u16 urg, vo, vd].toArray 34) = W0 := ⟨_, rfl⟩
  rw [hW0] at hb0 hB0
  have k0 := blk_cell (j := 0) hb0 rfl
  have k1 := blk_cell (j := 1) hb0 rfl
  have k2 := blk_cell (j := 2) hb0 rfl
  have k3 := blk_cell (j := 3) hb0 rfl
  have k4 := blk_cell (j := 4) hb0 rfl
  have k5 := blk_cell (j := 5) hb0 rfl
  have k6 := blk_cell (j := 6) hb0 rfl
  have k7 := blk_cell (j := 7) hb0 rfl
  have k8 := blk_cell (j := 8) hb0 rfl
  simp [tcpBad] at hb
  have hlo := hvo.len
  have hld := hvd.len
  have x1 : decide ((63 : Int) < fl) = false := by simp; omega
  have x2 : decide ((40 : Int) < (opts.length : Int)) = false := by simp; omega
  have x3 : ((opts.length : Int) % 4 != 0) = false := by simp; omega
  have q1 : (20 + (opts.length : Int)) % 65536 = 20 + (opts.length : Int) := by omega
  have q2 : (20 + (opts.length : Int)) / 4 * 4096 % 65536 = (20 + (opts.length : Int)) / 4 * 4096 := by omega
  have q3 : seq / 65536 % 65536 = seq / 65536 := by omega
  have q4 : ack / 65536 % 65536 = ack / 65536 := by omega
  have r1 : IntKind.u16.wrap seq = seq % 65536 := by rw [IntKind.wrap_u16]
  have r2 : IntKind.u16.wrap ack = ack % 65536 := by rw [IntKind.wrap_u16]
  have r3 : (20 + (opts.length : Int)).tdiv 4 = (20 + (opts.length : Int)) / 4 := Int.tdiv_eq_ediv_of_nonneg (by omega)
  have r4 : IntKind.u16.wrap ((20 + (opts.length : Int)) / 4) = (20 + (opts.length : Int)) / 4 := by rw [IntKind.wrap_u16]; omega
  have r5 : IntKind.u16.wrap ((20 + (opts.length : Int)) / 4 * 4096) = (20 + (opts.length : Int)) / 4 * 4096 := by rw [IntKind.wrap_u16]; omega
  have q5 := or_flags ((20 + (opts.length : Int)) / 4) fl (by omega) (by omega)
  have HTW : Hid (∀ k, tcpW ⟨src, dst, seq, ack, fl, win, urg, opts, data⟩ k = [src, dst, seq / 65536, seq % 65536, ack / 65536, ack % 65536, (20 + (opts.length : Int)) / 4 * 4096 + fl, win, k, urg]) := fun k => rfl
  have hlt := laid_tcp ⟨src, dst, seq, ack, fl, win, urg, opts, data⟩ 0
  have hwl0 : ∀ k, (wbL (tcpW ⟨src, dst, seq, ack, fl, win, urg, opts, data⟩ k)).length = 20 := fun k => by rw [wbL_length]; rfl
  have hdef : tcpL ph ⟨src, dst, seq, ack, fl, win, urg, opts, data⟩ = wbL (tcpW ⟨src, dst, seq, ack, fl, win, urg, opts, data⟩ (ckS ph 6 (wbL (tcpW ⟨src, dst, seq, ack, fl, win, urg, opts, data⟩ 0) ++ (opts ++ data)))) ++ (opts ++ data) := rfl
  have hnew := words_new W0 (tcpW ⟨src, dst, seq, ack, fl, win, urg, opts, data⟩ 0) #[.int .u16 src, .int .u16 dst, .int .u16 (seq / 65536), .int .u16 (seq % 65536), .int .u16 (ack / 65536), .int .u16 (ack % 65536), .int .u16 ((20 + (opts.length : Int)) / 4 * 4096 + fl), .int .u16 win, .int .u16 0, .int .u16 urg] 28 10 rfl rfl hws0
  have HW : Hid _ := wordBytes_calls _ _ _ hnew (by simp [tcpW]) (by simp [tcpW])
  have hBn := (Below.refl W0.heap.size W0).alloc (Nat.le_refl _) (.cells #[.int .u16 src, .int .u16 dst, .int .u16 (seq / 65536), .int .u16 (seq % 65536), .int .u16 (ack / 65536), .int .u16 (ack % 65536), .int .u16 ((20 + (opts.length : Int)) / 4 * 4096 + fl), .int .u16 win, .int .u16 0, .int .u16 urg] 28)
  have hlen10 : (tcpW ⟨src, dst, seq, ack, fl, win, urg, opts, data⟩ 0).length = 10 := rfl
  generalize tcpL ph ⟨src, dst, seq, ack, fl, win, urg, opts, data⟩ = TL at *
  generalize tcpW ⟨src, dst, seq, ack, fl, win, urg, opts, data⟩ = TW at *
  rw [hlen10] at HW
  have HBN : Hid _ := hBn
  have HO : Hid _ := ho
  have HVO : Hid _ := hvo
  have HVD : Hid _ := hvd
  have HWS : Hid _ := hws0
  have HWK : Hid _ := hwsk
  have HLT : Hid _ := hlt
  have HWL : Hid _ := hwl0
  have HDEF : Hid _ := hdef
  obtain ⟨ao, co, rfl, _⟩ := hvo.val
  obtain ⟨ad, cd, rfl, _⟩ := hvd.val
  clear hnew hBn ho hvo hvd hws0 hwsk hlt hwl0 hdef hlen10 HTW
  have HB0 : Hid _ := hB0
  have HBK : Hid _ := hb0
  clear hB0 hb0
  go_enter Try.func46, Try.ntmps46
  go_wp2_with fail
  refine Calls.mono HW.out ?_
  rintro _ w1 ⟨g, cp, rfl, c1, c2, c3, c4, hb1⟩
  have hx1 := HBN.out.trans (hb1.mono HBN.out.size)
  have hg0 : W0.heap.size ≤ g := Nat.le_trans HBN.out.size c3
  have hwl := HWL.out 0
  have hhead := c4.all (wbL_fit HWS.out) (by rw [hwl]; decide) 20 cp (by rw [hwl])
  have hw01 := HB0.out.trans (hx1.mono HB0.out.size)
  have hP := parts_three w1 _ _ _ 29 _ _ _ hhead (HVO.out.later hw01) (HVD.out.later hw01)
  have hBp := (Below.refl w1.heap.size w1).alloc (Nat.le_refl _) (.cells #[.slice (some ⟨g, 0, none⟩) 20 cp, .slice ao opts.length co, .slice ad data.length cd] 29)
  have hfl : [wbL (TW 0), opts, data].flatten = wbL (TW 0) ++ (opts ++ data) := by simp
  have hck := check_long _ ph 6 (by decide) _ _ _ (HO.out.later (hw01.trans (hBp.mono hw01.size))) hP (by simp) (by rw [hfl, List.length_append, List.length_append, hwl]; omega) (by rw [hfl, List.length_append, List.length_append, hwl]; omega)
  have k7' := blk_cell (j := 7) (blk_on HBK.out hx1) rfl
  have k8' := blk_cell (j := 8) (blk_on HBK.out hx1) rfl
  have HCK : Hid _ := hck
  have HX1 : Hid (Below w.heap.size w (w1.alloc (.cells #[.slice (some ⟨g, 0, none⟩) 20 cp, .slice ao opts.length co, .slice ad data.length cd] 29))) := hw01.trans (hBp.mono hw01.size)
  clear hck hBp hx1 hw01 hhead hP hb1 c4 HW HBN k0 k1 k2 k3 k4 k5 k6 k7 k8 hW0 hfl hwl
  go_wp2_with fail
  refine Calls.mono HCK.out ?_
  rintro _ w2 ⟨rfl, hb2⟩
  have HX2 : Hid _ := HX1.out.trans (hb2.mono HX1.out.size)
  clear hb2 HX1 HCK
  go_wp2
  go_ret2
  exact ⟨rfl, HX2.out⟩

set_option maxHeartbeats 4000000 in
set_option maxRecDepth 100000 in
theorem writeTCP_ok (o : Value) (ph : Int → Int → List Int) (c : List Value) (t : Seg) (w : World) (ho : OverV w o ph) (hph : ∀ p n : Int, 0 ≤ p ∧ p < 256 → 0 ≤ n ∧ n ≤ 65535 → Fit (ph p n)) (ht : TcpC w c t) (hb : tcpBad t = false) (hn : tcpAll t ≤ 65535) :
    Calls Try.prog 46 #[o, .agg c.toArray] w fun e w' => ∃ v, e = .returned (.tuple #[v, .int .i64 0]) ∧ OB w.heap.size w w' v (tcpL ph t) := by
  have hws0 := tcpW_words ht hb (ck := 0) (by decide)
  have hwsk := fun (k : Int) (hk : 0 ≤ k ∧ k ≤ 65535) => tcpW_words ht hb hk
  obtain ⟨⟨vo, vd, rfl, hvo, hvd⟩, fs, fd, fq, fa, ff, fw, fu⟩ := ht
  obtain ⟨g0, lb, rfl⟩ := ho.own
  obtain ⟨src, dst, seq, ack, fl, win, urg, opts, data⟩ := t
  simp only [tcpAll] at hvo hvd hb fs fd fq fa ff fw fu hn ⊢
  have hb0 := blk_new w (.cells [.int .u16 src, .int .u16 dst, .int .u32 seq, .int .u32 ack, .int .u8 fl, .int .u16 win, .int .u16 urg, vo, vd].toArray 34)
  have hB0 := (Below.refl w.heap.size w).alloc (Nat.le_refl _) (.cells [.int .u16 src, .int .u16 dst, .int .u32 seq, .int .u32 ack, .int .u8 fl, .int .u16 win, .int .u16 urg, vo, vd].toArray 34)
  obtain ⟨W0, hW0⟩ : ∃ W0, w.alloc (.cells [.int .u16 src, .int .u16 dst, .int .u32 seq, .int .u32 ack, .int .u8 fl, .int .u16 win, .int .u16 urg, vo, vd].toArray 34) = W0 := ⟨_, rfl⟩
  rw [hW0] at hb0 hB0
  have k0 := blk_cell (j := 0) hb0 rfl
  have k1 := blk_cell (j := 1) hb0 rfl
  have k2 := blk_cell (j := 2) hb0 rfl
  have k3 := blk_cell (j := 3) hb0 rfl
  have k4 := blk_cell (j := 4) hb0 rfl
  have k5 := blk_cell (j := 5) hb0 rfl
  have k6 := blk_cell (j := 6) hb0 rfl
  have k7 := blk_cell (j := 7) hb0 rfl
  have k8 := blk_cell (j := 8) hb0 rfl
  simp [tcpBad] at hb
  have hlo := hvo.len
  have hld := hvd.len
  have x1 : decide ((63 : Int) < fl) = false := by simp; omega
  have x2 : decide ((40 : Int) < (opts.length : Int)) = false := by simp; omega
  have x3 : ((opts.length : Int) % 4 != 0) = false := by simp; omega
  have q1 : (20 + (opts.length : Int)) % 65536 = 20 + (opts.length : Int) := by omega
  have q2 : (20 + (opts.length : Int)) / 4 * 4096 % 65536 = (20 + (opts.length : Int)) / 4 * 4096 := by omega
  have q3 : seq / 65536 % 65536 = seq / 65536 := by omega
  have q4 : ack / 65536 % 65536 = ack / 65536 := by omega
  have r1 : IntKind.u16.wrap seq = seq % 65536 := by rw [IntKind.wrap_u16]
  have r2 : IntKind.u16.wrap ack = ack % 65536 := by rw [IntKind.wrap_u16]
  have r3 : (20 + (opts.length : Int)).tdiv 4 = (20 + (opts.length : Int)) / 4 := Int.tdiv_eq_ediv_of_nonneg (by omega)
  have r4 : IntKind.u16.wrap ((20 + (opts.length : Int)) / 4) = (20 + (opts.length : Int)) / 4 := by rw [IntKind.wrap_u16]; omega
  have r5 : IntKind.u16.wrap ((20 + (opts.length : Int)) / 4 * 4096) = (20 + (opts.length : Int)) / 4 * 4096 := by rw [IntKind.wrap_u16]; omega
  have q5 := or_flags ((20 + (opts.length : Int)) / 4) fl (by omega) (by omega)
  have HTW : Hid (∀ k, tcpW ⟨src, dst, seq, ack, fl, win, urg, opts, data⟩ k = [src, dst, seq / 65536, seq % 65536, ack / 65536, ack % 65536, (20 + (opts.length : Int)) / 4 * 4096 + fl, win, k, urg]) := fun k => rfl
  have hlt := laid_tcp ⟨src, dst, seq, ack, fl, win, urg, opts, data⟩ 0
  have hwl0 : ∀ k, (wbL (tcpW ⟨src, dst, seq, ack, fl, win, urg, opts, data⟩ k)).length = 20 := fun k => by rw [wbL_length]; rfl
  have hdef : tcpL ph ⟨src, dst, seq, ack, fl, win, urg, opts, data⟩ = wbL (tcpW ⟨src, dst, seq, ack, fl, win, urg, opts, data⟩ (ckS ph 6 (wbL (tcpW ⟨src, dst, seq, ack, fl, win, urg, opts, data⟩ 0) ++ (opts ++ data)))) ++ (opts ++ data) := rfl
  have hnew := words_new W0 (tcpW ⟨src, dst, seq, ack, fl, win, urg, opts, data⟩ 0) #[.int .u16 src, .int .u16 dst, .int .u16 (seq / 65536), .int .u16 (seq % 65536), .int .u16 (ack / 65536), .int .u16 (ack % 65536), .int .u16 ((20 + (opts.length : Int)) / 4 * 4096 + fl), .int .u16 win, .int .u16 0, .int .u16 urg] 28 10 rfl rfl hws0
  have HW : Hid _ := wordBytes_calls _ _ _ hnew (by simp [tcpW]) (by simp [tcpW])
  have hBn := (Below.refl W0.heap.size W0).alloc (Nat.le_refl _) (.cells #[.int .u16 src, .int .u16 dst, .int .u16 (seq / 65536), .int .u16 (seq % 65536), .int .u16 (ack / 65536), .int .u16 (ack % 65536), .int .u16 ((20 + (opts.length : Int)) / 4 * 4096 + fl), .int .u16 win, .int .u16 0, .int .u16 urg] 28)
  have hlen10 : (tcpW ⟨src, dst, seq, ack, fl, win, urg, opts, data⟩ 0).length = 10 := rfl
  generalize tcpL ph ⟨src, dst, seq, ack, fl, win, urg, opts, data⟩ = TL at *
  generalize tcpW ⟨src, dst, seq, ack, fl, win, urg, opts, data⟩ = TW at *
  rw [hlen10] at HW
  have HBN : Hid _ := hBn
  have HO : Hid _ := ho
  have HVO : Hid _ := hvo
  have HVD : Hid _ := hvd
  have HWS : Hid _ := hws0
  have HWK : Hid _ := hwsk
  have HLT : Hid _ := hlt
  have HWL : Hid _ := hwl0
  have HDEF : Hid _ := hdef
  have HPH : Hid _ := hph
  obtain ⟨ao, co, rfl, _⟩ := hvo.val
  obtain ⟨ad, cd, rfl, _⟩ := hvd.val
  clear hnew hBn ho hvo hvd hws0 hwsk hlt hwl0 hdef hlen10 HTW hph
  have HB0 : Hid _ := hB0
  have HBK : Hid _ := hb0
  clear hB0 hb0
  go_enter Try.func46, Try.ntmps46
  go_wp2_with fail
  refine Calls.mono HW.out ?_
  rintro _ w1 ⟨g, cp, rfl, c1, c2, c3, c4, hb1⟩
  have hx1 := HBN.out.trans (hb1.mono HBN.out.size)
  have hg0 : W0.heap.size ≤ g := Nat.le_trans HBN.out.size c3
  have hwl := HWL.out 0
  have hhead := c4.all (wbL_fit HWS.out) (by rw [hwl]; decide) 20 cp (by rw [hwl])
  have hw01 := HB0.out.trans (hx1.mono HB0.out.size)
  have hP := parts_three w1 _ _ _ 29 _ _ _ hhead (HVO.out.later hw01) (HVD.out.later hw01)
  have hBp := (Below.refl w1.heap.size w1).alloc (Nat.le_refl _) (.cells #[.slice (some ⟨g, 0, none⟩) 20 cp, .slice ao opts.length co, .slice ad data.length cd] 29)
  have hfl : [wbL (TW 0), opts, data].flatten = wbL (TW 0) ++ (opts ++ data) := by simp
  have hck := check_ok _ ph 6 (by decide) _ _ _ (HO.out.later (hw01.trans (hBp.mono hw01.size))) hP (by simp) (by rw [hfl, List.length_append, List.length_append, hwl]; omega)
  have k7' := blk_cell (j := 7) (blk_on HBK.out hx1) rfl
  have k8' := blk_cell (j := 8) (blk_on HBK.out hx1) rfl
  rw [hfl] at hck
  have HCK : Hid _ := hck
  have HBP : Hid _ := hBp
  have HX1 : Hid _ := hx1
  have C4 : Hid _ := c4
  have hg1 : g < w1.heap.size := c4.lt
  have hw0s := HX1.out.size
  clear hck hBp hx1 hw01 hhead hP hb1 c4 HW HBN k0 k1 k2 k3 k4 k5 k6 k7 k8 hW0 hfl
  go_wp2_with fail
  refine Calls.mono HCK.out ?_
  rintro _ w2 ⟨rfl, hb2⟩
  have hx2 := HBP.out.trans (hb2.mono HBP.out.size)
  have hx02 := HX1.out.trans (hx2.mono HX1.out.size)
  have HX02 : Hid _ := hx02
  have C42 : Hid _ := C4.out.kept hg1 hx2
  have hr : 0 ≤ ckS ph 6 (wbL (TW 0) ++ (opts ++ data)) ∧ ckS ph 6 (wbL (TW 0) ++ (opts ++ data)) ≤ 65535 := ckS_range (HPH.out _ _ (by decide) (by rw [List.length_append, List.length_append, hwl]; omega)) ((wbL_fit HWS.out).append (HVO.out.fit.append HVD.out.fit))
  have hckeq : 65535 - sumW 0 (wordsL (ph 6 (wbL (TW 0) ++ (opts ++ data)).length ++ (wbL (TW 0) ++ (opts ++ data)))) = ckS ph 6 (wbL (TW 0) ++ (opts ++ data)) := rfl
  rw [hckeq]
  generalize ckS ph 6 (wbL (TW 0) ++ (opts ++ data)) = ck at *
  have hpw := putWord_calls6 g 16 4 (cp - 16) (wbL (TW 0)) ck w2 C42.out (by decide) (by rw [hwl]; decide) hr (by rw [hwl]; decide)
  have HPW : Hid _ := hpw
  have hg2 : g < w2.heap.size := Nat.lt_of_lt_of_le hg1 hx2.size
  clear hx2 hx02 hb2 HCK C4 hckeq hpw
  have hcp16 : 16 < cp := by omega
  have hne16 : (cp = 16) = False := eq_false (by omega)
  unfold maxLen at c2
  go_wp2_with fail
  refine Calls.mono HPW.out ?_
  rintro _ w4 ⟨rfl, own4, but4⟩
  rw [HLT.out] at own4
  have hx24 : Below W0.heap.size w2 w4 := but4.below hg0 HX02.out.size
  have hx04 := HX02.out.trans hx24
  have hw4 := HB0.out.trans (hx04.mono HB0.out.size)
  have hwl4 := HWL.out ck
  have hhead4 := own4.all (wbL_fit (HWK.out ck hr)) (by rw [hwl4]; decide) 20 cp (by rw [hwl4])
  have hP4 := parts_three w4 _ _ _ 29 _ _ _ hhead4 (HVO.out.later hw4) (HVD.out.later hw4)
  have hB4 := (Below.refl w4.heap.size w4).alloc (Nat.le_refl _) (.cells #[.slice (some ⟨g, 0, none⟩) 20 cp, .slice ao opts.length co, .slice ad data.length cd] 29)
  have hfl4 : [wbL (TW ck), opts, data].flatten = TL := by rw [HDEF.out]; simp
  have htl : TL.length ≤ 1000000 := by rw [HDEF.out, List.length_append, List.length_append, hwl4]; omega
  have hcat := Concat_calls _ _ _ hP4 (by simp) (by rw [hfl4]; exact htl)
  rw [hfl4] at hcat
  have HCAT : Hid _ := hcat
  have HW4 : Hid (Below w.heap.size w (w4.alloc (.cells #[.slice (some ⟨g, 0, none⟩) 20 cp, .slice ao opts.length co, .slice ad data.length cd] 29))) := hw4.trans (hB4.mono hw4.size)
  have k74 := blk_cell (j := 7) (blk_on HBK.out hx04) rfl
  have k84 := blk_cell (j := 8) (blk_on HBK.out hx04) rfl
  clear hcat hP4 hhead4 hx24 hx04 hw4 own4 but4 HPW k7' k8' hfl4 hB4 htl
  go_wp2_with fail
  refine Calls.mono HCAT.out ?_
  rintro _ w5 ⟨v5, rfl, h5⟩
  have H5 : Hid (OB w.heap.size w w5 v5 TL) := h5.lower HW4.out HW4.out.size
  clear h5 HCAT
  go_wp2
  go_ret2
  exact ⟨_, rfl, H5.out⟩

end Go.Proofs.Ytnlaomjhnndblaa
