/-
  writeUDP of package segment.
-/
import Derived.Test.YtnlaomjhnndblaaSg4
namespace Go.Proofs.Ytnlaomjhnndblaa
open Go Go.RowKit Go.Shelf
set_option linter.unusedVariables false
set_option linter.unusedSimpArgs false

def nz (x : Int) : Int := if x = 0 then 65535 else x
theorem nz_range {x : Int} (h : 0 ≤ x ∧ x ≤ 65535) : 0 ≤ nz x ∧ nz x ≤ 65535 := by unfold nz; split <;> omega
/-- The checksum of bytes behind a pseudo header. -/
def ckS (ph : Int → Int → List Int) (p : Int) (zs : List Int) : Int := 65535 - sumW 0 (wordsL (ph p zs.length ++ zs))
def udpL (ph : Int → Int → List Int) (src dst : Int) (data : List Int) : List Int :=
  wbL [src, dst, 8 + (data.length : Int), nz (ckS ph 17 (wbL [src, dst, 8 + (data.length : Int), 0] ++ data))] ++ data
/-- A UDP datagram: its cells and its bytes. -/
structure UdpC (w : World) (c : List Value) (src dst : Int) (data : List Int) : Prop where
  val : ∃ vd, c = [.int .u16 src, .int .u16 dst, vd] ∧ BytesAt w.heap.size w vd data
  fs : 0 ≤ src ∧ src ≤ 65535
  fd : 0 ≤ dst ∧ dst ≤ 65535
theorem UdpC.on {w W : World} {c : List Value} {src dst : Int} {data : List Int} (h : UdpC w c src dst data) (hb : Below w.heap.size w W) : UdpC W c src dst data := by
  obtain ⟨⟨vd, h1, h2⟩, h3, h4⟩ := h
  exact ⟨⟨vd, h1, h2.later hb⟩, h3, h4⟩
theorem BytesAt.wide {n m : Nat} {W : World} {v : Value} {zs : List Int} (h : BytesAt n W v zs) (hnm : n ≤ m) : BytesAt m W v zs := by
  obtain ⟨q1, q2, q3, q4, q5, q6⟩ := h
  refine ⟨q1, q2, q3, q4, q5, q6.imp id ?_⟩
  rintro ⟨bb, oo, e, hl, hc⟩
  exact ⟨bb, oo, e, Nat.lt_of_lt_of_le hl hnm, hc⟩
theorem OwnG.all {b : Nat} {w : World} {zs : List Int} (h : OwnG w b zs) (hf : Fit zs) (hl : zs.length ≤ 140737488351232) (n cap : Nat) (hn : n = zs.length) : BytesAt w.heap.size w (.slice (some ⟨b, 0, none⟩) n cap) zs := by
  have := h.bytes hf hl 0 n cap (by omega)
  simpa [hn] using this
theorem words4 {a b c d : Int} (ha : 0 ≤ a ∧ a ≤ 65535) (hb : 0 ≤ b ∧ b ≤ 65535) (hc : 0 ≤ c ∧ c ≤ 65535) (hd : 0 ≤ d ∧ d ≤ 65535) : Words [a, b, c, d] := fun z hz => by
  simp at hz
  rcases hz with rfl | rfl | rfl | rfl <;> assumption
theorem laid_udp (a b c d x : Int) : laid (wbL [a, b, c, d]) 6 (w2 x) = wbL [a, b, c, x] := by simp [laid, wbL, w2]
theorem ckS_range {ph : Int → Int → List Int} {p : Int} {zs : List Int} (h : Fit (ph p zs.length)) (hz : Fit zs) : 0 ≤ ckS ph p zs ∧ ckS ph p zs ≤ 65535 := by
  have hrg := sumW_range (wordsL (ph p zs.length ++ zs)) 0 (by decide) (wordsL_words (h.append hz))
  unfold ckS
  omega

/-- A call of a Go function in a region that draws, told by its number. -/
theorem step_callF {P : Program} {ops : Array Oper} {o : Oper} {a : Act} {w : World} {K : Act → World → Prop} {Q : Exit → Act → World → Prop} {E : Prop} {R : Value → World → Prop} (hg : o.guard = none) (f : FuncId) (xs : Array Operand) (ts : Array TypeId)
    (hop : o.op = Op.call { callee := .value (.func f), args := xs, argTypes := ts }) (vs : Array Value)
    (hrun : (execOp a.eval o).run P w = .ok (.enter f vs) w) (hc : Calls P f vs w fun e w' => ∃ v, e = .returned v ∧ R v w') (hK : ∀ v w2, R v w2 → K (a.put o.dst v) w2) :
    if Region.wanted o (yielded ops a.tmps) = true then Oper.wp P o a w K Q else E := step_callR hg f vs hrun hc hK
theorem OB.lower {B base : Nat} {w W wx : World} {v : Value} {zs : List Int} (h : OB base W wx v zs) (hb : Below B w W) (hB : B ≤ base) : OB B w wx v zs := by
  obtain ⟨⟨h1, h2⟩, h3⟩ := h
  refine ⟨⟨h1, h2.imp id ?_⟩, hb.trans (h3.mono hB)⟩
  rintro ⟨g, cap, cur, e, hg, r⟩
  exact ⟨g, cap, cur, e, Nat.le_trans hB hg, r⟩

set_option maxHeartbeats 2000000 in
set_option maxRecDepth 100000 in
theorem writeUDP_ok (o : Value) (ph : Int → Int → List Int) (c : List Value) (src dst : Int) (data : List Int) (w : World) (ho : OverV w o ph) (hph : ∀ p n : Int, 0 ≤ p ∧ p < 256 → 0 ≤ n ∧ n ≤ 65535 → Fit (ph p n)) (hu : UdpC w c src dst data) (hn : 8 + data.length ≤ 65535) :
    Calls Try.prog 41 #[o, .agg c.toArray] w fun e w' => ∃ v, e = .returned (.tuple #[v, .int .i64 0]) ∧ OB w.heap.size w w' v (udpL ph src dst data) := by
  obtain ⟨⟨vd, rfl, hd⟩, fs, fd⟩ := hu
  obtain ⟨g0, lb, rfl⟩ := ho.own
  have hb0 := blk_new w (.cells [.int .u16 src, .int .u16 dst, vd].toArray 31)
  have hB0 := (Below.refl w.heap.size w).alloc (Nat.le_refl _) (.cells [.int .u16 src, .int .u16 dst, vd].toArray 31)
  have hs0 : (w.alloc (.cells [.int .u16 src, .int .u16 dst, vd].toArray 31)).heap.size = w.heap.size + 1 := by simp
  obtain ⟨W0, hW0⟩ : ∃ W0, w.alloc (.cells [.int .u16 src, .int .u16 dst, vd].toArray 31) = W0 := ⟨_, rfl⟩
  rw [hW0] at hb0 hB0 hs0
  have k0 := blk_cell (j := 0) hb0 rfl
  have k1 := blk_cell (j := 1) hb0 rfl
  have k2 := blk_cell (j := 2) hb0 rfl
  have hq : (8 + (data.length : Int)) % 65536 = 8 + (data.length : Int) := by omega
  have hW : Words [src, dst, 8 + (data.length : Int), 0] := words4 fs fd (by omega) (by omega)
  have hnew := words_new W0 [src, dst, 8 + (data.length : Int), 0] #[.int .u16 src, .int .u16 dst, .int .u16 (8 + (data.length : Int)), .int .u16 0] 28 4 rfl rfl hW
  have HW : Hid _ := wordBytes_calls _ _ _ hnew (by simp) (by simp)
  have hBn := (Below.refl W0.heap.size W0).alloc (Nat.le_refl _) (.cells #[.int .u16 src, .int .u16 dst, .int .u16 (8 + (data.length : Int)), .int .u16 0] 28)
  have HBN : Hid _ := hBn
  have HO : Hid _ := ho
  have HD : Hid _ := hd
  have HWS : Hid _ := hW
  have HPH : Hid _ := hph
  obtain ⟨ad, cd, rfl, _⟩ := hd.val
  clear hnew hBn ho hd hW hph hs0
  have HB0 : Hid _ := hB0
  have HBK : Hid _ := hb0
  clear hB0 hb0
  go_enter Try.func41, Try.ntmps41
  go_wp2_with fail
  refine Calls.mono HW.out ?_
  rintro _ w1 ⟨g, cp, rfl, c1, c2, c3, c4, hb1⟩
  have hx1 := HBN.out.trans (hb1.mono HBN.out.size)
  have hg0 : W0.heap.size ≤ g := Nat.le_trans HBN.out.size c3
  have hwl : (wbL [src, dst, 8 + (data.length : Int), 0]).length = 8 := by rw [wbL_length]; rfl
  have hhead := c4.all (wbL_fit HWS.out) (by rw [hwl]; decide) 8 cp (by rw [hwl])
  have hw01 := HB0.out.trans (hx1.mono HB0.out.size)
  have hdat := HD.out.later hw01
  have hP := parts_two w1 _ _ 29 _ _ hhead hdat
  have hBp := (Below.refl w1.heap.size w1).alloc (Nat.le_refl _) (.cells #[.slice (some ⟨g, 0, none⟩) 8 cp, .slice ad data.length cd] 29)
  have hck := check_ok _ ph 17 (by decide) _ _ _ (HO.out.later (hw01.trans (hBp.mono hw01.size))) hP (by simp) (by simp [hwl]; omega)
  have hfl : [wbL [src, dst, 8 + (data.length : Int), 0], data].flatten = wbL [src, dst, 8 + (data.length : Int), 0] ++ data := by simp
  rw [hfl] at hck
  have HCK : Hid _ := hck
  have HBP : Hid _ := hBp
  have HX1 : Hid _ := hx1
  have C4 : Hid _ := c4
  have HFD : Hid (Fit data) := HD.out.fit
  have k2' := blk_cell (j := 2) (blk_on HBK.out hx1) rfl
  have hg1 : g < w1.heap.size := c4.lt
  have hw0s := HX1.out.size
  clear hck hBp hx1 hw01 hdat hhead hP hfl hb1 c4 HW HBN k0 k1 k2 hW0
  go_wp2_with fail
  refine Calls.mono HCK.out ?_
  rintro _ w2 ⟨rfl, hb2⟩
  have hx2 := HBP.out.trans (hb2.mono HBP.out.size)
  have hx02 := HX1.out.trans (hx2.mono HX1.out.size)
  have HX02 : Hid _ := hx02
  have C42 : Hid _ := C4.out.kept hg1 hx2
  have hr : 0 ≤ ckS ph 17 (wbL [src, dst, 8 + (data.length : Int), 0] ++ data) ∧ ckS ph 17 (wbL [src, dst, 8 + (data.length : Int), 0] ++ data) ≤ 65535 := ckS_range (HPH.out _ _ (by decide) (by rw [List.length_append, hwl]; omega)) ((wbL_fit HWS.out).append HFD.out)
  have hckeq : 65535 - sumW 0 (wordsL (ph 17 (wbL [src, dst, 8 + (data.length : Int), 0] ++ data).length ++ (wbL [src, dst, 8 + (data.length : Int), 0] ++ data))) = ckS ph 17 (wbL [src, dst, 8 + (data.length : Int), 0] ++ data) := rfl
  rw [hckeq]
  have HU : Hid (udpL ph src dst data = wbL [src, dst, 8 + (data.length : Int), nz (ckS ph 17 (wbL [src, dst, 8 + (data.length : Int), 0] ++ data))] ++ data) := rfl
  generalize ckS ph 17 (wbL [src, dst, 8 + (data.length : Int), 0] ++ data) = ck at *
  have HNZ : Hid (∀ W, Calls Try.prog 71 #[.int .u16 ck] W fun e w' => ∃ v, e = .returned v ∧ (v = .int .u16 (nz ck) ∧ w' = W)) := fun W => (neverZero_calls ck W).mono (fun _ _ hr => ⟨_, hr.1, rfl, hr.2⟩)
  have HPW : Hid (∀ W, Below w2.heap.size w2 W → Calls Try.prog 57 #[.slice (some ⟨g, 6, none⟩) 2 (cp - 6), .int .u16 (nz ck)] W fun e w' => ∃ v, e = .returned v ∧ OwnG w' g (wbL [src, dst, 8 + (data.length : Int), nz ck]) ∧ But g W w') := fun W hW => (putWord_calls6 g 6 2 (cp - 6) (wbL [src, dst, 8 + (data.length : Int), 0]) (nz ck) W (C42.out.kept C42.out.lt hW) (by decide) (by rw [hwl]; decide) (nz_range hr) (by rw [hwl]; decide)).mono (fun _ _ hr => ⟨_, hr.1, by rw [← laid_udp _ _ _ 0]; exact hr.2.1, hr.2.2⟩)
  have hg2 : g < w2.heap.size := Nat.lt_of_lt_of_le hg1 hx2.size
  clear hx2 hx02 hb2 HCK C4 hckeq
  have hcp6 : 6 < cp := by have : 8 ≤ cp := by simpa using c1
                           omega
  have hne6 : (cp = 6) = False := eq_false (by omega)
  unfold maxLen at c2
  go_wp2_with fail
  go_region_law (first
    | (refine step_callF rfl 71 _ _ rfl _ (by kernel_rfl) (HNZ.out _) ?_; rintro v3 w3 ⟨rfl, rfl⟩)
    | (refine step_callF rfl 57 _ _ rfl _ (by kernel_rfl) (HPW.out _ ((Below.refl _ w2).drew)) ?_; rintro v4 w4 ⟨own4, but4⟩))
  have hx24 : Below W0.heap.size w2 w4 := ((Below.refl _ w2).drew).trans (but4.below hg0 HX02.out.size)
  have hx04 := HX02.out.trans hx24
  have hw4 := HB0.out.trans (hx04.mono HB0.out.size)
  have hwl4 : (wbL [src, dst, 8 + (data.length : Int), nz ck]).length = 8 := by rw [wbL_length]; rfl
  have hhead4 := own4.all (wbL_fit (words4 fs fd (by omega) (nz_range hr))) (by rw [hwl4]; decide) 8 cp (by rw [hwl4])
  have hP4 := parts_two w4 _ _ 29 _ _ hhead4 (HD.out.later hw4)
  have hB4 := (Below.refl w4.heap.size w4).alloc (Nat.le_refl _) (.cells #[.slice (some ⟨g, 0, none⟩) 8 cp, .slice ad data.length cd] 29)
  have hcat := Concat_calls _ _ _ hP4 (by simp) (by simp [hwl4]; omega)
  have hfl4 : [wbL [src, dst, 8 + (data.length : Int), nz ck], data].flatten = udpL ph src dst data := by rw [HU.out]; simp
  rw [hfl4] at hcat
  have HCAT : Hid _ := hcat
  have HW4 : Hid (Below w.heap.size w (w4.alloc (.cells #[.slice (some ⟨g, 0, none⟩) 8 cp, .slice ad data.length cd] 29))) := hw4.trans (hB4.mono hw4.size)
  have k24 := blk_cell (j := 2) (blk_on HBK.out hx04) rfl
  clear hcat hP4 hhead4 hx24 hx04 hw4 own4 but4 HPW HNZ k2' hfl4 hB4
  go_wp2_with fail
  refine Calls.mono HCAT.out ?_
  rintro _ w5 ⟨v5, rfl, h5⟩
  have H5 : Hid (OB w.heap.size w w5 v5 (udpL ph src dst data)) := h5.lower HW4.out HW4.out.size
  clear h5 HCAT
  go_wp2
  go_ret2
  exact ⟨_, rfl, H5.out⟩

set_option maxHeartbeats 2000000 in
set_option maxRecDepth 100000 in
theorem writeUDP_long (o : Value) (ph : Int → Int → List Int) (c : List Value) (src dst : Int) (data : List Int) (w : World) (ho : OverV w o ph) (hu : UdpC w c src dst data) (hn : 65535 < 8 + data.length) :
    Calls Try.prog 41 #[o, .agg c.toArray] w fun e w' => e = .returned (.tuple #[.slice none 0 0, .int .i64 2]) ∧ Below w.heap.size w w' := by
  obtain ⟨⟨vd, rfl, hd⟩, fs, fd⟩ := hu
  obtain ⟨g0, lb, rfl⟩ := ho.own
  have hb0 := blk_new w (.cells [.int .u16 src, .int .u16 dst, vd].toArray 31)
  have hB0 := (Below.refl w.heap.size w).alloc (Nat.le_refl _) (.cells [.int .u16 src, .int .u16 dst, vd].toArray 31)
  obtain ⟨W0, hW0⟩ : ∃ W0, w.alloc (.cells [.int .u16 src, .int .u16 dst, vd].toArray 31) = W0 := ⟨_, rfl⟩
  rw [hW0] at hb0 hB0
  have k0 := blk_cell (j := 0) hb0 rfl
  have k1 := blk_cell (j := 1) hb0 rfl
  have k2 := blk_cell (j := 2) hb0 rfl
  have hld := hd.len
  obtain ⟨N, hN⟩ : ∃ N : Int, IntKind.u16.wrap (8 + (data.length : Int)) = N := ⟨_, rfl⟩
  have hN0 : 0 ≤ N ∧ N ≤ 65535 := by rw [IntKind.wrap_u16] at hN; omega
  have hW : Words [src, dst, N, 0] := words4 fs fd hN0 (by omega)
  have hnew := words_new W0 [src, dst, N, 0] #[.int .u16 src, .int .u16 dst, .int .u16 N, .int .u16 0] 28 4 rfl rfl hW
  have HW : Hid _ := wordBytes_calls _ _ _ hnew (by simp) (by simp)
  have hBn := (Below.refl W0.heap.size W0).alloc (Nat.le_refl _) (.cells #[.int .u16 src, .int .u16 dst, .int .u16 N, .int .u16 0] 28)
  have HBN : Hid _ := hBn
  have HO : Hid _ := ho
  have HD : Hid _ := hd
  have HWS : Hid _ := hW
  obtain ⟨ad, cd, rfl, _⟩ := hd.val
  have hld := hd.len
  clear hnew hBn ho hd hW
  have HB0 : Hid _ := hB0
  have HBK : Hid _ := hb0
  clear hB0 hb0
  go_enter Try.func41, Try.ntmps41
  go_wp2_with fail
  refine Calls.mono HW.out ?_
  rintro _ w1 ⟨g, cp, rfl, c1, c2, c3, c4, hb1⟩
  have hx1 := HBN.out.trans (hb1.mono HBN.out.size)
  have hwl : (wbL [src, dst, N, 0]).length = 8 := by rw [wbL_length]; rfl
  have hhead := c4.all (wbL_fit HWS.out) (by rw [hwl]; decide) 8 cp (by rw [hwl])
  have hw01 := HB0.out.trans (hx1.mono HB0.out.size)
  have hdat := HD.out.later hw01
  have hP := parts_two w1 _ _ 29 _ _ hhead hdat
  have hBp := (Below.refl w1.heap.size w1).alloc (Nat.le_refl _) (.cells #[.slice (some ⟨g, 0, none⟩) 8 cp, .slice ad data.length cd] 29)
  have hck := check_long _ ph 17 (by decide) _ _ _ (HO.out.later (hw01.trans (hBp.mono hw01.size))) hP (by simp) (by simp [hwl]; omega) (by simp [hwl]; omega)
  have HCK : Hid _ := hck
  have HX1 : Hid (Below w.heap.size w (w1.alloc (.cells #[.slice (some ⟨g, 0, none⟩) 8 cp, .slice ad data.length cd] 29))) := hw01.trans (hBp.mono hw01.size)
  have k2' := blk_cell (j := 2) (blk_on HBK.out hx1) rfl
  clear hck hBp hx1 hw01 hdat hhead hP hb1 c4 HW HBN k0 k1 k2 hW0
  go_wp2_with fail
  refine Calls.mono HCK.out ?_
  rintro _ w2 ⟨rfl, hb2⟩
  have HX2 : Hid _ := HX1.out.trans (hb2.mono HX1.out.size)
  clear hb2 HX1 HCK
  go_wp2
  go_ret2
  exact ⟨rfl, HX2.out⟩

end Go.Proofs.Ytnlaomjhnndblaa
