/-
  writeUDP of package segment.
  WriteUDP4, WriteUDP6 of package segment.
  Rows that are appended to and what stays; the document's put and Pseudo.
-/
import Derived.Test.YtpgnnplpcalbbaaGreatFold18
set_option linter.unusedVariables false
set_option linter.unusedSimpArgs false
namespace Go.Proofs.YtpgnnplpcalbbaaGreat
open Go Go.RowKit Go.Shelf
def nz (x : Int) : Int := if x = 0 then 65535 else x
theorem nz_range {x : Int} (h : 0 ≤ x ∧ x ≤ 65535) : 0 ≤ nz x ∧ nz x ≤ 65535 := by unfold nz; split <;> omega
/-- The checksum of bytes behind a pseudo header. -/
def ckS (ph : Int → Int → List Int) (p : Int) (zs : List Int) : Int := 65535 - sumW 0 (wordsL (ph p zs.length ++ zs))
def udpL (ph : Int → Int → List Int) (src dst : Int) (data : List Int) : List Int :=
  wbL [src, dst, 8 + (data.length : Int), nz (ckS ph 17 (wbL [src, dst, 8 + (data.length : Int), 0] ++ data))] ++ data
/-- A UDP datagram: its cells and its bytes. -/
structure UdpC (w : World) (c : List Value) (src dst : Int) (data : List Int) : Prop where
  val : ∃ vd, c = [.int .u16 src, .int .u16 dst, vd] ∧ BytesAt w.heap.size w vd data
  fs : 0 ≤ src ∧ src ≤ 65535
  fd : 0 ≤ dst ∧ dst ≤ 65535
theorem UdpC.on {w W : World} {c : List Value} {src dst : Int} {data : List Int} (h : UdpC w c src dst data) (hb : Below w.heap.size w W) : UdpC W c src dst data := by
  obtain ⟨⟨vd, h1, h2⟩, h3, h4⟩ := h
  exact ⟨⟨vd, h1, h2.later hb⟩, h3, h4⟩
theorem BytesAt.wide {n m : Nat} {W : World} {v : Value} {zs : List Int} (h : BytesAt n W v zs) (hnm : n ≤ m) : BytesAt m W v zs := by
  obtain ⟨q1, q2, q3, q4, q5, q6⟩ := h
  refine ⟨q1, q2, q3, q4, q5, q6.imp id ?_⟩
  rintro ⟨bb, oo, e, hl, hc⟩
  exact ⟨bb, oo, e, Nat.lt_of_lt_of_le hl hnm, hc⟩
theorem OwnG.all {b : Nat} {w : World} {zs : List Int} (h : OwnG w b zs) (hf : Fit zs) (hl : zs.length ≤ 140737488351232) (n cap : Nat) (hn : n = zs.length) : BytesAt w.heap.size w (.slice (some ⟨b, 0, none⟩) n cap) zs := by
  have := h.bytes hf hl 0 n cap (by omega)
  simpa [hn] using this
theorem words4 {a b c d : Int} (ha : 0 ≤ a ∧ a ≤ 65535) (hb : 0 ≤ b ∧ b ≤ 65535) (hc : 0 ≤ c ∧ c ≤ 65535) (hd : 0 ≤ d ∧ d ≤ 65535) : Words [a, b, c, d] := fun z hz => by
  simp at hz
  rcases hz with rfl | rfl | rfl | rfl <;> assumption
theorem laid_udp (a b c d x : Int) : laid (wbL [a, b, c, d]) 6 (w2 x) = wbL [a, b, c, x] := by simp [laid, wbL, w2]
theorem ckS_range {ph : Int → Int → List Int} {p : Int} {zs : List Int} (h : Fit (ph p zs.length)) (hz : Fit zs) : 0 ≤ ckS ph p zs ∧ ckS ph p zs ≤ 65535 := by
  have hrg := sumW_range (wordsL (ph p zs.length ++ zs)) 0 (by decide) (wordsL_words (h.append hz))
  unfold ckS
  omega
/-- A call of a Go function in a region that draws, told by its number. -/
theorem step_callF {P : Program} {ops : Array Oper} {o : Oper} {a : Act} {w : World} {K : Act → World → Prop} {Q : Exit → Act → World → Prop} {E : Prop} {R : Value → World → Prop} (hg : o.guard = none) (f : FuncId) (xs : Array Operand) (ts : Array TypeId)
    (hop : o.op = Op.call { callee := .value (.func f), args := xs, argTypes := ts }) (vs : Array Value)
    (hrun : (execOp a.eval o).run P w = .ok (.enter f vs) w) (hc : Calls P f vs w fun e w' => ∃ v, e = .returned v ∧ R v w') (hK : ∀ v w2, R v w2 → K (a.put o.dst v) w2) :
    if Region.wanted o (yielded ops a.tmps) = true then Oper.wp P o a w K Q else E := step_callR hg f vs hrun hc hK
theorem OB.lower {B base : Nat} {w W wx : World} {v : Value} {zs : List Int} (h : OB base W wx v zs) (hb : Below B w W) (hB : B ≤ base) : OB B w wx v zs := by
  obtain ⟨⟨h1, h2⟩, h3⟩ := h
  refine ⟨⟨h1, h2.imp id ?_⟩, hb.trans (h3.mono hB)⟩
  rintro ⟨g, cap, cur, e, hg, r⟩
  exact ⟨g, cap, cur, e, Nat.le_trans hB hg, r⟩
set_option maxHeartbeats 2000000 in
set_option maxRecDepth 100000 in
theorem writeUDP_ok (o : Value) (ph : Int → Int → List Int) (c : List Value) (src dst : Int) (data : List Int) (w : World) (ho : OverV w o ph) (hph : ∀ p n : Int, 0 ≤ p ∧ p < 256 → 0 ≤ n ∧ n ≤ 65535 → Fit (ph p n)) (hu : UdpC w c src dst data) (hn : 8 + data.length ≤ 65535) :
    Calls Tryz.prog 243 #[o, .agg c.toArray] w fun e w' => ∃ v, e = .returned (.tuple #[v, .int .i64 0]) ∧ OB w.heap.size w w' v (udpL ph src dst data) := by
  obtain ⟨⟨vd, rfl, hd⟩, fs, fd⟩ := hu
  obtain ⟨g0, lb, rfl⟩ := ho.own
  have hb0 := blk_new w (.cells [.int .u16 src, .int .u16 dst, vd].toArray 140)
  have hB0 := (Below.refl w.heap.size w).alloc (Nat.le_refl _) (.cells [.int .u16 src, .int .u16 dst, vd].toArray 140)
  have hs0 : (w.alloc (.cells [.int .u16 src, .int .u16 dst, vd].toArray 140)).heap.size = w.heap.size + 1 := by simp
  obtain ⟨W0, hW0⟩ : ∃ W0, w.alloc (.cells [.int .u16 src, .int .u16 dst, vd].toArray 140) = W0 := ⟨_, rfl⟩
  rw [hW0] at hb0 hB0 hs0
  have k0 := blk_cell (j := 0) hb0 rfl
  have k1 := blk_cell (j := 1) hb0 rfl
  have k2 := blk_cell (j := 2) hb0 rfl
  have hq : (8 + (data.length : Int)) % 65536 = 8 + (data.length : Int) := by omega
  have hW : Words [src, dst, 8 + (data.length : Int), 0] := words4 fs fd (by omega) (by omega)
  have hnew := words_new W0 [src, dst, 8 + (data.length : Int), 0] #[.int .u16 src, .int .u16 dst, .int .u16 (8 + (data.length : Int)), .int .u16 0] 22 4 rfl rfl hW
  have HW : Hid _ := wordBytes_calls _ _ _ hnew (by simp) (by simp)
  have hBn := (Below.refl W0.heap.size W0).alloc (Nat.le_refl _) (.cells #[.int .u16 src, .int .u16 dst, .int .u16 (8 + (data.length : Int)), .int .u16 0] 22)
  have HBN : Hid _ := hBn
  have HO : Hid _ := ho
  have HD : Hid _ := hd
  have HWS : Hid _ := hW
  have HPH : Hid _ := hph
  obtain ⟨ad, cd, rfl, _⟩ := hd.val
  clear hnew hBn ho hd hW hph hs0
  have HB0 : Hid _ := hB0
  have HBK : Hid _ := hb0
  clear hB0 hb0
  go_enter Tryz.func243, Tryz.ntmps243
  go_wp2_with fail
  refine Calls.mono HW.out ?_
  rintro _ w1 ⟨g, cp, rfl, c1, c2, c3, c4, hb1⟩
  have hx1 := HBN.out.trans (hb1.mono HBN.out.size)
  have hg0 : W0.heap.size ≤ g := Nat.le_trans HBN.out.size c3
  have hwl : (wbL [src, dst, 8 + (data.length : Int), 0]).length = 8 := by rw [wbL_length]; rfl
  have hhead := c4.all (wbL_fit HWS.out) (by rw [hwl]; decide) 8 cp (by rw [hwl])
  have hw01 := HB0.out.trans (hx1.mono HB0.out.size)
  have hdat := HD.out.later hw01
  have hP := parts_two w1 _ _ 25 _ _ hhead hdat
  have hBp := (Below.refl w1.heap.size w1).alloc (Nat.le_refl _) (.cells #[.slice (some ⟨g, 0, none⟩) 8 cp, .slice ad data.length cd] 25)
  have hck := check_ok _ ph 17 (by decide) _ _ _ (HO.out.later (hw01.trans (hBp.mono hw01.size))) hP (by simp) (by simp [hwl]; omega)
  have hfl : [wbL [src, dst, 8 + (data.length : Int), 0], data].flatten = wbL [src, dst, 8 + (data.length : Int), 0] ++ data := by simp
  rw [hfl] at hck
  have HCK : Hid _ := hck
  have HBP : Hid _ := hBp
  have HX1 : Hid _ := hx1
  have C4 : Hid _ := c4
  have HFD : Hid (Fit data) := HD.out.fit
  have k2' := blk_cell (j := 2) (blk_on HBK.out hx1) rfl
  have hg1 : g < w1.heap.size := c4.lt
  have hw0s := HX1.out.size
  clear hck hBp hx1 hw01 hdat hhead hP hfl hb1 c4 HW HBN k0 k1 k2 hW0
  go_wp2_with fail
  refine Calls.mono HCK.out ?_
  rintro _ w2 ⟨rfl, hb2⟩
  have hx2 := HBP.out.trans (hb2.mono HBP.out.size)
  have hx02 := HX1.out.trans (hx2.mono HX1.out.size)
  have HX02 : Hid _ := hx02
  have C42 : Hid _ := C4.out.kept hg1 hx2
  have hr : 0 ≤ ckS ph 17 (wbL [src, dst, 8 + (data.length : Int), 0] ++ data) ∧ ckS ph 17 (wbL [src, dst, 8 + (data.length : Int), 0] ++ data) ≤ 65535 := ckS_range (HPH.out _ _ (by decide) (by rw [List.length_append, hwl]; omega)) ((wbL_fit HWS.out).append HFD.out)
  have hckeq : 65535 - sumW 0 (wordsL (ph 17 (wbL [src, dst, 8 + (data.length : Int), 0] ++ data).length ++ (wbL [src, dst, 8 + (data.length : Int), 0] ++ data))) = ckS ph 17 (wbL [src, dst, 8 + (data.length : Int), 0] ++ data) := rfl
  rw [hckeq]
  have HU : Hid (udpL ph src dst data = wbL [src, dst, 8 + (data.length : Int), nz (ckS ph 17 (wbL [src, dst, 8 + (data.length : Int), 0] ++ data))] ++ data) := rfl
  generalize ckS ph 17 (wbL [src, dst, 8 + (data.length : Int), 0] ++ data) = ck at *
  have HNZ : Hid (∀ W, Calls Tryz.prog 269 #[.int .u16 ck] W fun e w' => ∃ v, e = .returned v ∧ (v = .int .u16 (nz ck) ∧ w' = W)) := fun W => (neverZero_calls ck W).mono (fun _ _ hr => ⟨_, hr.1, rfl, hr.2⟩)
  have HPW : Hid (∀ W, Below w2.heap.size w2 W → Calls Tryz.prog 268 #[.slice (some ⟨g, 6, none⟩) 2 (cp - 6), .int .u16 (nz ck)] W fun e w' => ∃ v, e = .returned v ∧ OwnG w' g (wbL [src, dst, 8 + (data.length : Int), nz ck]) ∧ But g W w') := fun W hW => (putWord_calls6 g 6 2 (cp - 6) (wbL [src, dst, 8 + (data.length : Int), 0]) (nz ck) W (C42.out.kept C42.out.lt hW) (by decide) (by rw [hwl]; decide) (nz_range hr) (by rw [hwl]; decide)).mono (fun _ _ hr => ⟨_, hr.1, by rw [← laid_udp _ _ _ 0]; exact hr.2.1, hr.2.2⟩)
  have hg2 : g < w2.heap.size := Nat.lt_of_lt_of_le hg1 hx2.size
  clear hx2 hx02 hb2 HCK C4 hckeq
  have hcp6 : 6 < cp := by have : 8 ≤ cp := by simpa using c1
                           omega
  have hne6 : (cp = 6) = False := eq_false (by omega)
  unfold maxLen at c2
  go_wp2_with fail
  go_region_law (first
    | (refine step_callF rfl 269 _ _ rfl _ (by kernel_rfl) (HNZ.out _) ?_; rintro v3 w3 ⟨rfl, rfl⟩)
    | (refine step_callF rfl 268 _ _ rfl _ (by kernel_rfl) (HPW.out _ ((Below.refl _ w2).drew)) ?_; rintro v4 w4 ⟨own4, but4⟩))
  have hx24 : Below W0.heap.size w2 w4 := ((Below.refl _ w2).drew).trans (but4.below hg0 HX02.out.size)
  have hx04 := HX02.out.trans hx24
  have hw4 := HB0.out.trans (hx04.mono HB0.out.size)
  have hwl4 : (wbL [src, dst, 8 + (data.length : Int), nz ck]).length = 8 := by rw [wbL_length]; rfl
  have hhead4 := own4.all (wbL_fit (words4 fs fd (by omega) (nz_range hr))) (by rw [hwl4]; decide) 8 cp (by rw [hwl4])
  have hP4 := parts_two w4 _ _ 25 _ _ hhead4 (HD.out.later hw4)
  have hB4 := (Below.refl w4.heap.size w4).alloc (Nat.le_refl _) (.cells #[.slice (some ⟨g, 0, none⟩) 8 cp, .slice ad data.length cd] 25)
  have hcat := Concat_calls _ _ _ hP4 (by simp) (by simp [hwl4]; omega)
  have hfl4 : [wbL [src, dst, 8 + (data.length : Int), nz ck], data].flatten = udpL ph src dst data := by rw [HU.out]; simp
  rw [hfl4] at hcat
  have HCAT : Hid _ := hcat
  have HW4 : Hid (Below w.heap.size w (w4.alloc (.cells #[.slice (some ⟨g, 0, none⟩) 8 cp, .slice ad data.length cd] 25))) := hw4.trans (hB4.mono hw4.size)
  have k24 := blk_cell (j := 2) (blk_on HBK.out hx04) rfl
  clear hcat hP4 hhead4 hx24 hx04 hw4 own4 but4 HPW HNZ k2' hfl4 hB4
  go_wp2_with fail
  refine Calls.mono HCAT.out ?_
  rintro _ w5 ⟨v5, rfl, h5⟩
  have H5 : Hid (OB w.heap.size w w5 v5 (udpL ph src dst data)) := h5.lower HW4.out HW4.out.size
  clear h5 HCAT
  go_wp2
  go_ret2
  exact ⟨_, rfl, H5.out⟩
set_option maxHeartbeats 2000000 in
set_option maxRecDepth 100000 in
theorem writeUDP_long (o : Value) (ph : Int → Int → List Int) (c : List Value) (src dst : Int) (data : List Int) (w : World) (ho : OverV w o ph) (hu : UdpC w c src dst data) (hn : 65535 < 8 + data.length) :
    Calls Tryz.prog 243 #[o, .agg c.toArray] w fun e w' => e = .returned (.tuple #[.slice none 0 0, .int .i64 2]) ∧ Below w.heap.size w w' := by
  obtain ⟨⟨vd, rfl, hd⟩, fs, fd⟩ := hu
  obtain ⟨g0, lb, rfl⟩ := ho.own
  have hb0 := blk_new w (.cells [.int .u16 src, .int .u16 dst, vd].toArray 140)
  have hB0 := (Below.refl w.heap.size w).alloc (Nat.le_refl _) (.cells [.int .u16 src, .int .u16 dst, vd].toArray 140)
  obtain ⟨W0, hW0⟩ : ∃ W0, w.alloc (.cells [.int .u16 src, .int .u16 dst, vd].toArray 140) = W0 := ⟨_, rfl⟩
  rw [hW0] at hb0 hB0
  have k0 := blk_cell (j := 0) hb0 rfl
  have k1 := blk_cell (j := 1) hb0 rfl
  have k2 := blk_cell (j := 2) hb0 rfl
  have hld := hd.len
  obtain ⟨N, hN⟩ : ∃ N : Int, IntKind.u16.wrap (8 + (data.length : Int)) = N := ⟨_, rfl⟩
  have hN0 : 0 ≤ N ∧ N ≤ 65535 := by rw [IntKind.wrap_u16] at hN; omega
  have hW : Words [src, dst, N, 0] := words4 fs fd hN0 (by omega)
  have hnew := words_new W0 [src, dst, N, 0] #[.int .u16 src, .int .u16 dst, .int .u16 N, .int .u16 0] 22 4 rfl rfl hW
  have HW : Hid _ := wordBytes_calls _ _ _ hnew (by simp) (by simp)
  have hBn := (Below.refl W0.heap.size W0).alloc (Nat.le_refl _) (.cells #[.int .u16 src, .int .u16 dst, .int .u16 N, .int .u16 0] 22)
  have HBN : Hid _ := hBn
  have HO : Hid _ := ho
  have HD : Hid _ := hd
  have HWS : Hid _ := hW
  obtain ⟨ad, cd, rfl, _⟩ := hd.val
  have hld := hd.len
  clear hnew hBn ho hd hW
  have HB0 : Hid _ := hB0
  have HBK : Hid _ := hb0
  clear hB0 hb0
  go_enter Tryz.func243, Tryz.ntmps243
  go_wp2_with fail
  refine Calls.mono HW.out ?_
  rintro _ w1 ⟨g, cp, rfl, c1, c2, c3, c4, hb1⟩
  have hx1 := HBN.out.trans (hb1.mono HBN.out.size)
  have hwl : (wbL [src, dst, N, 0]).length = 8 := by rw [wbL_length]; rfl
  have hhead := c4.all (wbL_fit HWS.out) (by rw [hwl]; decide) 8 cp (by rw [hwl])
  have hw01 := HB0.out.trans (hx1.mono HB0.out.size)
  have hdat := HD.out.later hw01
  have hP := parts_two w1 _ _ 25 _ _ hhead hdat
  have hBp := (Below.refl w1.heap.size w1).alloc (Nat.le_refl _) (.cells #[.slice (some ⟨g, 0, none⟩) 8 cp, .slice ad data.length cd] 25)
  have hck := check_long _ ph 17 (by decide) _ _ _ (HO.out.later (hw01.trans (hBp.mono hw01.size))) hP (by simp) (by simp [hwl]; omega) (by simp [hwl]; omega)
  have HCK : Hid _ := hck
  have HX1 : Hid (Below w.heap.size w (w1.alloc (.cells #[.slice (some ⟨g, 0, none⟩) 8 cp, .slice ad data.length cd] 25))) := hw01.trans (hBp.mono hw01.size)
  have k2' := blk_cell (j := 2) (blk_on HBK.out hx1) rfl
  clear hck hBp hx1 hw01 hdat hhead hP hb1 c4 HW HBN k0 k1 k2 hW0
  go_wp2_with fail
  refine Calls.mono HCK.out ?_
  rintro _ w2 ⟨rfl, hb2⟩
  have HX2 : Hid _ := HX1.out.trans (hb2.mono HX1.out.size)
  clear hb2 HX1 HCK
  go_wp2
  go_ret2
  exact ⟨rfl, HX2.out⟩
end Go.Proofs.YtpgnnplpcalbbaaGreat
namespace Go.Proofs.YtpgnnplpcalbbaaGreat
open Go Go.RowKit Go.Shelf
theorem ex_loadv {P : Program} {o : Oper} {a : Act} {W : World} (p : Operand) (t : TypeId) (hop : o.op = Op.load t p) {vp v : Value} (hp : a.eval p = vp) (hrun : (Instr.loadAt t vp).run P W = .ok v W) : (execOp a.eval o).run P W = .ok (.value v) W := by
  simp [execOp, hop, hp, hrun]
theorem ex_extract {P : Program} {o : Oper} {a : Act} {W : World} (p : Operand) (i : Nat) (hop : o.op = Op.extract p i) {vs : Array Value} {v : Value} (hp : a.eval p = .tuple vs) (hv : vs[i]? = some v) : (execOp a.eval o).run P W = .ok (.value v) W := by
  generalize a.eval = ev at *
  simp [execOp, hop, hp, hv, go_sem]
theorem ex_assign {P : Program} {o : Oper} {a : Act} {W : World} (p : Operand) (hop : o.op = Op.assign p) {v : Value} (hp : a.eval p = v) : (execOp a.eval o).run P W = .ok (.value v) W := by
  generalize a.eval = ev at *
  simp [execOp, hop, hp, go_sem]
theorem wp_call {P : Program} {o : Oper} {a : Act} {d : Option Nat} {w : World} {K : Act → World → Prop} {Q : Exit → Act → World → Prop} {R : Value → World → Prop} (f : FuncId) (vs : Array Value) (hd : o.dst = d)
    (hrun : (execOp a.eval o).run P w = .ok (.enter f vs) w) (hc : Calls P f vs w fun e w' => ∃ v, e = .returned v ∧ R v w') (hK : ∀ v w2, R v w2 → K (a.put d v) w2) : o.wp P a w K Q := by
  subst hd
  unfold Oper.wp
  rw [hrun]
  refine hc.mono ?_
  rintro e w' ⟨v, rfl, hr⟩
  exact hK v w' hr
set_option maxHeartbeats 1000000 in
set_option maxRecDepth 100000 in
theorem WriteUDP6_walk (A B : List Int) (hA : A.length = 16) (hB : B.length = 16) (fa : Fit A) (fb : Fit B) (c : List Value) (hc : c.length = 3) (w : World) {R : Ending → World → Prop}
    (hR : ∀ e w', R e w' → ∃ x y, e = .returned (.tuple #[x, y]))
    (hw : ∀ W o, Below w.heap.size w W → OverV W o (ph6 A B) → Calls Tryz.prog 243 #[o, .agg c.toArray] W fun e w' => R e w' ∧ Below W.heap.size W w') :
    Calls Tryz.prog 199 #[.agg (u8L A).toArray, .agg (u8L B).toArray, .agg c.toArray] w R := by
  obtain ⟨W0, hW0⟩ : ∃ W0, ((w.alloc (.cells (u8L A).toArray 29)).alloc (.cells (u8L B).toArray 29)).alloc (.cells c.toArray 140) = W0 := ⟨_, rfl⟩
  have b0 := blk_new w (.cells (u8L A).toArray 29)
  have b1 := blk_new (w.alloc (.cells (u8L A).toArray 29)) (.cells (u8L B).toArray 29)
  have b2 := blk_new ((w.alloc (.cells (u8L A).toArray 29)).alloc (.cells (u8L B).toArray 29)) (.cells c.toArray 140)
  have b0' := blk_alloc (blk_alloc b0 (.cells (u8L B).toArray 29)) (.cells c.toArray 140)
  have b1' := blk_alloc b1 (.cells c.toArray 140)
  have hb : Below w.heap.size w (((w.alloc (.cells (u8L A).toArray 29)).alloc (.cells (u8L B).toArray 29)).alloc (.cells c.toArray 140)) := (((Below.refl _ w).alloc (Nat.le_refl _) _).alloc (by simp) _).alloc (by simp <;> omega) _
  rw [hW0] at b0' b1' b2 hb
  have s1 : (w.alloc (.cells (u8L A).toArray 29)).heap.size = w.heap.size + 1 := by simp
  have s2 : ((w.alloc (.cells (u8L A).toArray 29)).alloc (.cells (u8L B).toArray 29)).heap.size = w.heap.size + 1 + 1 := by simp
  rw [s1] at b1'
  rw [s2] at b2
  have HA : Hid (∀ W, Below W0.heap.size W0 W → (Instr.loadAt 29 (.pointer (some ⟨w.heap.size, 0, none⟩))).run Tryz.prog W = .ok (.agg (u8L A).toArray) W) := fun W hS => agg_load Tryz.isAgg29 Tryz.sizeOf29 (by simp [u8L, hA]) (CellsAt.of_blk (blk_on b0' hS))
  have HB : Hid (∀ W, Below W0.heap.size W0 W → (Instr.loadAt 29 (.pointer (some ⟨w.heap.size + 1, 0, none⟩))).run Tryz.prog W = .ok (.agg (u8L B).toArray) W) := fun W hS => agg_load Tryz.isAgg29 Tryz.sizeOf29 (by simp [u8L, hB]) (CellsAt.of_blk (blk_on b1' hS))
  have HC : Hid (∀ W, Below W0.heap.size W0 W → (Instr.loadAt 140 (.pointer (some ⟨w.heap.size + 1 + 1, 0, none⟩))).run Tryz.prog W = .ok (.agg c.toArray) W) := fun W hS => agg_load Tryz.isAgg140 Tryz.sizeOf140 hc (CellsAt.of_blk (blk_on b2 hS))
  have HOV : Hid (∀ W, Calls Tryz.prog 244 #[.agg (u8L A).toArray, .agg (u8L B).toArray] W fun e w' => ∃ v, e = .returned v ∧ (OverV w' v (ph6 A B) ∧ Below W.heap.size W w')) := fun W => over6_calls A B hA hB fa fb W
  have HW : Hid (∀ W o, Below W0.heap.size W0 W → OverV W o (ph6 A B) → Calls Tryz.prog 243 #[o, .agg c.toArray] W fun e w' => ∃ v, e = .returned v ∧ (R (.returned v) w' ∧ Below W.heap.size W w')) := fun W o hW ho => (hw W o (hb.trans (hW.mono hb.size)) ho).mono (fun e w' hr => by
    obtain ⟨x, y, rfl⟩ := hR e w' hr.1
    exact ⟨_, rfl, hr⟩)
  have HR : Hid _ := hR
  have hAl : (u8L A).length = 16 := by simp [u8L, hA]
  have hBl : (u8L B).length = 16 := by simp [u8L, hB]
  clear b0 b1 b2 b0' b1' hb s1 s2 hw hR fa fb hA hB
  generalize hxA : u8L A = xA at *
  generalize hxB : u8L B = xB at *
  clear hxA hxB
  go_enter Tryz.func199, Tryz.ntmps199
  go_wp2_with fail
  refine wp_region_held (S := fun W => Below W0.heap.size W0 W) (by kernel_rfl) ?_
  show wpAnyH _ _ _ _ _ 9 (Array.replicate 9 false) _ _
  refine take_one (i := 0) (d := some 8) (v := .agg xA.toArray) rfl rfl rfl (by kernel_rfl) (by kernel_rfl) (by kernel_rfl) (fun _ _ d _ _ h => by cases d <;> exact h) (fun W hS => ex_loadv (.tmp 3) 29 rfl rfl (HA.out W hS)) ((Below.refl _ _).drew) ?_
  refine take_one (i := 1) (d := some 9) (v := .agg xB.toArray) rfl rfl rfl (by kernel_rfl) (by kernel_rfl) (by kernel_rfl) (fun _ _ d _ _ h => by cases d <;> exact h) (fun W hS => ex_loadv (.tmp 4) 29 rfl rfl (HB.out W hS)) ((Below.refl _ _).drew) ?_
  refine take_one (i := 3) (d := some 11) (v := .agg c.toArray) rfl rfl rfl (by kernel_rfl) (by kernel_rfl) (by kernel_rfl) (fun _ _ d _ _ h => by cases d <;> exact h) (fun W hS => ex_loadv (.tmp 5) 140 rfl rfl (HC.out W hS)) ((Below.refl _ _).drew) ?_
  refine all_one (i := 2) (by kernel_rfl) rfl rfl ?_
  refine wp_call (d := some 10) 244 _ rfl (by kernel_rfl) (HOV.out _) ?_
  rintro o w2 ⟨ho, hb2⟩
  have hb02 := ((Below.refl W0.heap.size W0).drew).trans (hb2.mono (Nat.le_refl _))
  refine ⟨hb02, ?_⟩
  refine all_one (i := 4) (by kernel_rfl) rfl rfl ?_
  refine wp_call (d := some 12) 243 _ rfl (by kernel_rfl) (HW.out _ _ hb02 ho) ?_
  rintro v w3 ⟨hr, hb3⟩
  obtain ⟨x, y, e⟩ := HR.out _ _ hr
  cases e
  have H : Hid (R (.returned (.tuple #[x, y])) w3) := hr
  have hb03 := hb02.trans (hb3.mono hb02.size)
  clear hr ho hb2
  refine ⟨hb03, ?_⟩
  simp only [Act.put, List.setIfInBounds_toArray, List.set_cons_zero, List.set_cons_succ]
  refine take_one (i := 5) (d := some 13) (v := x) rfl rfl rfl (by kernel_rfl) (by kernel_rfl) (by kernel_rfl) (fun _ _ d _ _ h => by cases d <;> exact h) (fun W _ => ex_extract (.tmp 12) 0 rfl rfl rfl) hb03 ?_
  refine take_one (i := 6) (d := some 14) (v := y) rfl rfl rfl (by kernel_rfl) (by kernel_rfl) (by kernel_rfl) (fun _ _ d _ _ h => by cases d <;> exact h) (fun W _ => ex_extract (.tmp 12) 1 rfl rfl rfl) hb03 ?_
  refine take_one (i := 7) (d := some 6) (v := x) rfl rfl rfl (by kernel_rfl) (by kernel_rfl) (by kernel_rfl) (fun _ _ d _ _ h => by cases d <;> exact h) (fun W _ => ex_assign (.tmp 13) rfl rfl) hb03 ?_
  refine take_one (i := 8) (d := some 7) (v := y) rfl rfl rfl (by kernel_rfl) (by kernel_rfl) (by kernel_rfl) (fun _ _ d _ _ h => by cases d <;> exact h) (fun W _ => ex_assign (.tmp 14) rfl rfl) hb03 ?_
  refine wpAnyH_done (by kernel_rfl) ?_ _
  simp only [Act.put, List.setIfInBounds_toArray, List.set_cons_zero, List.set_cons_succ]
  go_wp2
  exact H.out
def udpB (ph : Int → Int → List Int) (src dst : Int) (data : List Int) : List Int := if 8 + data.length ≤ 65535 then udpL ph src dst data else []
def udpE (data : List Int) : Int := if 8 + data.length ≤ 65535 then 0 else 2
/-- What a Write answers: bytes in a row of their own, and an error. -/
def Wrote2 (w : World) (zs : List Int) (er : Int) (e : Ending) (w' : World) : Prop := ∃ v, e = .returned (.tuple #[v, .int .i64 er]) ∧ OB w.heap.size w w' v zs
theorem Wrote2.lower {w W w' : World} {zs : List Int} {er : Int} {e : Ending} (h : Wrote2 W zs er e w') (hb : Below w.heap.size w W) : Wrote2 w zs er e w' := by
  obtain ⟨v, he, ho⟩ := h
  exact ⟨v, he, ho.lower hb hb.size⟩
theorem OB.none (w w' : World) (hb : Below w.heap.size w w') : OB w.heap.size w w' (.slice none 0 0) [] := ⟨World.ownsRow_nil _ _ _ _, hb⟩
theorem writeUDP_any (o : Value) (ph : Int → Int → List Int) (c : List Value) (src dst : Int) (data : List Int) (w : World) (ho : OverV w o ph) (hph : ∀ p n : Int, 0 ≤ p ∧ p < 256 → 0 ≤ n ∧ n ≤ 65535 → Fit (ph p n)) (hu : UdpC w c src dst data) :
    Calls Tryz.prog 243 #[o, .agg c.toArray] w (Wrote2 w (udpB ph src dst data) (udpE data)) := by
  unfold udpB udpE
  by_cases hn : 8 + data.length ≤ 65535
  · rw [if_pos hn, if_pos hn]
    exact writeUDP_ok o ph c src dst data w ho hph hu hn
  · rw [if_neg hn, if_neg hn]
    exact (writeUDP_long o ph c src dst data w ho hu (by omega)).mono (fun e w' h => ⟨_, h.1, OB.none w w' h.2⟩)
theorem Wrote2.two {w w' : World} {zs : List Int} {er : Int} {e : Ending} (h : Wrote2 w zs er e w') : ∃ x y, e = .returned (.tuple #[x, y]) := by
  obtain ⟨v, he, _⟩ := h
  exact ⟨_, _, he⟩
theorem UdpC.len {w : World} {c : List Value} {src dst : Int} {data : List Int} (h : UdpC w c src dst data) : c.length = 3 := by
  obtain ⟨⟨vd, rfl, _⟩, _⟩ := h
  rfl
theorem WriteUDP6_any (A B : List Int) (hA : A.length = 16) (hB : B.length = 16) (fa : Fit A) (fb : Fit B) (c : List Value) (src dst : Int) (data : List Int) (w : World) (hu : UdpC w c src dst data) :
    Calls Tryz.prog 199 #[.agg (u8L A).toArray, .agg (u8L B).toArray, .agg c.toArray] w (Wrote2 w (udpB (ph6 A B) src dst data) (udpE data)) :=
  WriteUDP6_walk A B hA hB fa fb c hu.len w (fun e w' h => h.two) (fun W o hb ho => (writeUDP_any o _ c src dst data W ho (fun p n hp hn => ph6_fit fa fb hp hn) (hu.on hb)).mono (fun e w' h => ⟨h.lower hb, by obtain ⟨v, _, hO⟩ := h; exact hO.bel⟩))
end Go.Proofs.YtpgnnplpcalbbaaGreat
namespace Go.Proofs.YtpgnnplpcalbbaaGreat
open Go Go.RowKit Go.Shelf
/-- From W to W' the row v has become v': no other old block is turned. -/
structure Steps (v v' : Value) (W W' : World) : Prop where
  grown : W.grownBy W' v.ownBlock
  own : v'.ownBlock = v.ownBlock ∨ ∀ k, v'.ownBlock = some k → W.heap.size ≤ k
theorem Steps.refl (v : Value) (W : World) : Steps v v W W := ⟨⟨rfl, rfl, rfl, Nat.le_refl _, fun _ _ _ => rfl⟩, .inl rfl⟩
theorem Steps.trans {v v' v'' : Value} {A B C : World} (h : Steps v v' A B) (g : Steps v' v'' B C) : Steps v v'' A C := by
  obtain ⟨⟨h1, h2, h3, h4, h5⟩, h6⟩ := h
  obtain ⟨⟨g1, g2, g3, g4, g5⟩, g6⟩ := g
  refine ⟨⟨g1.trans h1, g2.trans h2, g3.trans h3, Nat.le_trans h4 g4, fun k hk hne => ?_⟩, ?_⟩
  · refine (g5 k (by omega) (fun e => ?_)).trans (h5 k hk hne)
    rcases h6 with h6 | h6
    · rw [h6] at e; exact hne e
    · have := h6 k e.symm; omega
  · rcases g6 with g6 | g6
    · rw [g6]; exact h6
    · exact .inr (fun k hk => Nat.le_trans h4 (g6 k hk))
theorem Steps.of_below {v : Value} {A B : World} (h : Below A.heap.size A B) : Steps v v A B := ⟨⟨h.os, h.tape, h.output, h.size, fun k hk _ => h.block k hk⟩, .inl rfl⟩
theorem Steps.keep {v v' : Value} {W W' : World} {u : Value} {zs : List Int} (h : Steps v v' W W') (hu : BytesAt W.heap.size W u zs) (hne : ∀ b off n k, u = .slice (some ⟨b, off, none⟩) n k → v.ownBlock ≠ some b) : BytesAt W'.heap.size W' u zs := by
  obtain ⟨q1, q2, a, c, rfl, q6⟩ := hu
  refine ⟨q1, q2, a, c, rfl, q6.imp id ?_⟩
  rintro ⟨b, off, rfl, hl, hc⟩
  have hb := h.grown.block b hl (fun e => hne b off _ _ rfl e.symm)
  refine ⟨b, off, rfl, Nat.lt_of_lt_of_le hl h.grown.size, fun j hj => ?_⟩
  have := hc j hj
  simp only [World.cell?] at this ⊢
  rw [hb]
  exact this
theorem own_bytes_more2 {w w0 : World} {base n : Nat} {v : Value} {xs : List Value} (hown : w.ownsRow base 5 1 v n xs) (hbase : base ≤ w.heap.size) {a : Option Addr} {m c : Nat} {zs : List Int} (hb : BytesAt w0.heap.size w (.slice a m c) zs) (hn : n + m ≤ 1000000) (ty : TypeId) :
    ∃ v' w', (Builtin.append_ #[25, 25] ty #[v, .slice a m c]).run Tryz.prog w = .ok v' w' ∧ w'.ownsRow base 5 1 v' (n + m) (xs ++ bytesV zs) ∧ Steps v v' w w' := by
  obtain ⟨_, _, a', c', e, hz⟩ := hb
  cases e
  have hnone : a = none → zs.length = 0 := fun e => by
    rcases hz with hz | ⟨b, off, hz, _⟩
    · exact hz
    · rw [e] at hz; cases hz
  obtain ⟨v', w', h1, h2, h3, h4⟩ := own_append elem_u8 (c := c) hown a (bytesV zs) (bytesV_length zs) hnone (fun x hx j u hj => by
      rcases hz with hz | ⟨b, off, hz, _, hc⟩
      · have := (List.getElem?_eq_some_iff.1 hj).1; rw [bytesV_length] at this; omega
      · rw [hx] at hz
        cases hz
        have hjl := (List.getElem?_eq_some_iff.1 hj).1
        rw [bytesV_length] at hjl
        rw [Go.WideShapes.add_plain, hc j hjl]
        rw [bytesV, List.getElem?_map] at hj
        obtain ⟨z, hz, rfl⟩ := Option.map_eq_some_iff.1 hj
        rw [hz]; rfl) (bytesV_one zs) (by unfold maxLen; omega) (by omega) hbase ty
  exact ⟨v', w', h1, h2, h3, h4⟩
theorem ob_app2 {base : Nat} {w wx : World} {v u : Value} {zs ys : List Int} (h : OB base w wx v zs) (hs : base ≤ wx.heap.size) (hb : BytesAt wx.heap.size wx u ys) (hl : zs.length + ys.length ≤ 1000000) (ty : TypeId) :
    ∃ v' wy, (Builtin.append_ #[25, 25] ty #[v, u]).run Tryz.prog wx = .ok v' wy ∧ OB base w wy v' (zs ++ ys) ∧ base ≤ wy.heap.size ∧ Steps v v' wx wy := by
  obtain ⟨a, cap, rfl, _⟩ := hb.val
  obtain ⟨v', wy, hrun, hown, hst⟩ := own_bytes_more2 (w0 := wx) h.own hs hb hl ty
  have hB : Below base wx wy := (Below.refl _ wx).grown hst.grown hs (fun j hj => (h.own.lt j hj).1)
  refine ⟨v', wy, hrun, ⟨?_, h.bel.trans hB⟩, Nat.le_trans hs hB.size, hst⟩
  rw [List.length_append]
  have e : bytesV (zs ++ ys) = bytesV zs ++ bytesV ys := by simp [bytesV]
  rw [e]
  exact hown
theorem ob_lit2 {base : Nat} {w wx : World} {v : Value} {zs : List Int} (h : OB base w wx v zs) (hs : base ≤ wx.heap.size) (ys : List Int) (us : Array Value) (hu : us = (ys.map (fun z => Value.int .u8 z)).toArray) (hf : Fit ys) (hl : zs.length + ys.length ≤ 1000000) (n : Nat) (hn : n = ys.length) (ty : TypeId) :
    ∃ v' wy, (Builtin.append_ #[25, 25] ty #[v, .slice (some ⟨wx.heap.size, 0, none⟩) n n]).run Tryz.prog (wx.alloc (.cells us 5)) = .ok v' wy ∧ OB base w wy v' (zs ++ ys) ∧ base ≤ wy.heap.size ∧ Steps v v' wx wy := by
  have hb := (Below.refl wx.heap.size wx).alloc (Nat.le_refl _) (.cells us 5)
  obtain ⟨v', wy, h1, h2, h3, h4⟩ := ob_app2 (h.below hs hb) (Nat.le_trans hs hb.size) (bytes_new wx 5 ys us n n (bytes_lit ys us hu) hn (by omega) hf) hl ty
  exact ⟨v', wy, h1, h2, h3, (Steps.of_below hb).trans h4⟩
/-- A number as so many bytes. -/
def putB (x : Int) : Nat → List Int
  | 0 => []
  | n + 1 => x / (256 ^ n : Nat) % 256 :: putB x n
theorem putB_length (x : Int) : ∀ n, (putB x n).length = n
  | 0 => rfl
  | n + 1 => by simp [putB, putB_length x n]
theorem putB_two {x : Int} (h : 0 ≤ x ∧ x ≤ 65535) : putB x 2 = w2 x := by
  simp [putB, w2]
  omega
set_option maxHeartbeats 1000000 in
set_option maxRecDepth 100000 in
theorem put_calls {base : Nat} {w W : World} {v : Value} {zs : List Int} (h : OB base w W v zs) (hs : base ≤ W.heap.size) (x : Int) (hx : 0 ≤ x ∧ x ≤ 4294967295) (n : Nat) (hn : n ≤ 4) (hl : zs.length ≤ 100000) :
    Calls Tryz.prog 176 #[v, .int .u64 x, .int .i64 n] W fun e w' => ∃ v', e = .returned v' ∧ (OB base w w' v' (zs ++ putB x n) ∧ base ≤ w'.heap.size ∧ Steps v v' W w') := by
  go_enter Tryz.func176, Tryz.ntmps176
  go_wp2
  go_loopw [0, 7] (fun u i wr => ∃ (r : Nat) (cur : List Int), r ≤ 4 ∧ i = .int .i64 ((r : Int) - 1) ∧ OB base w wr u cur ∧ base ≤ wr.heap.size ∧ Steps v u W wr ∧ cur.length ≤ 100004 - r ∧ cur ++ putB x r = zs ++ putB x n) (fun _ i _ => (intOf i + 1).toNat)
  case atStart => exact ⟨n, zs, hn, rfl, h, hs, Steps.refl _ _, by omega, rfl⟩
  case round =>
    obtain ⟨r, cur, hr, rfl, hO, hsz, hst, hcl, heq⟩ := hrel
    have HST : Hid _ := hst
    have HEQ : Hid _ := heq
    clear h hst heq
    have go1 : ∀ (r : Nat) (y : Int), x / (256 ^ r : Nat) % 256 = y → ∃ v1 w1, (Builtin.append_ #[25, 25] 25 #[u0, .slice (some ⟨wr.heap.size, 0, none⟩) 1 1]).run Tryz.prog (wr.alloc (.cells #[.int .u8 y] 5)) = .ok v1 w1 ∧ OB base w w1 v1 (cur ++ [y]) ∧ base ≤ w1.heap.size ∧ Steps u0 v1 wr w1 := fun r y hy => ob_lit2 hO hsz [y] _ rfl (fun z hz => by simp at hz; subst hz; subst hy; omega) (by simp; omega) 1 rfl 25
    rcases (by omega : r = 0 ∨ r = 1 ∨ r = 2 ∨ r = 3 ∨ r = 4) with rfl | rfl | rfl | rfl | rfl
    · have hc : cur = zs ++ putB x n := by have := HEQ.out; simpa [putB] using this
      subst hc
      have HO : Hid _ := hO
      clear go1 hO HEQ
      go_wp2
      go_ret
      exact ⟨_, rfl, HO.out, hsz, HST.out⟩
    · obtain ⟨v1, w1, hr1, h1, hs1, hst1⟩ := go1 0 _ rfl
      have e0 : putB x 1 = x / (256 ^ 0 : Nat) % 256 :: putB x 0 := rfl
      have HF : Hid ((cur ++ [x / (256 ^ 0 : Nat) % 256]) ++ putB x 0 = zs ++ putB x n) := by
        have := HEQ.out
        rw [e0] at this
        show (cur ++ [x / (256 ^ 0 : Nat) % 256]) ++ putB x 0 = zs ++ putB x n
        rw [← this]
        simp
      have HL : Hid ((cur ++ [x / (256 ^ 0 : Nat) % 256]).length ≤ 100004 - 0) := by
        show (cur ++ [x / (256 ^ 0 : Nat) % 256]).length ≤ 100004 - 0
        simp
        omega
      have e2 : ((256 ^ 0 : Nat) : Int) = 1 := rfl
      rw [e2, Int.ediv_one] at hr1
      have HR : Hid _ := hr1
      have H1 : Hid _ := h1
      have HS1 : Hid _ := Steps.trans HST.out hst1
      clear hr1 h1 hst1 go1 e0 e2 hO
      go_wp2_with (at_builtin; refine wpList_append_run rfl _ _ _ _ rfl rfl rfl HR.out ?_)
      exact ⟨⟨0, _, by decide, rfl, H1.out, hs1, HS1.out, HL.out, HF.out⟩, by simp [intOf]⟩
    · obtain ⟨v1, w1, hr1, h1, hs1, hst1⟩ := go1 1 _ rfl
      have e0 : putB x 2 = x / (256 ^ 1 : Nat) % 256 :: putB x 1 := rfl
      have HF : Hid ((cur ++ [x / (256 ^ 1 : Nat) % 256]) ++ putB x 1 = zs ++ putB x n) := by
        have := HEQ.out
        rw [e0] at this
        show (cur ++ [x / (256 ^ 1 : Nat) % 256]) ++ putB x 1 = zs ++ putB x n
        rw [← this]
        simp
      have HL : Hid ((cur ++ [x / (256 ^ 1 : Nat) % 256]).length ≤ 100004 - 1) := by
        show (cur ++ [x / (256 ^ 1 : Nat) % 256]).length ≤ 100004 - 1
        simp
        omega
      have e2 : ((256 ^ 1 : Nat) : Int) = 256 := rfl
      rw [e2] at hr1
      have HR : Hid _ := hr1
      have H1 : Hid _ := h1
      have HS1 : Hid _ := Steps.trans HST.out hst1
      clear hr1 h1 hst1 go1 e0 e2 hO
      go_wp2_with (at_builtin; refine wpList_append_run rfl _ _ _ _ rfl rfl rfl HR.out ?_)
      exact ⟨⟨1, _, by decide, rfl, H1.out, hs1, HS1.out, HL.out, HF.out⟩, by simp [intOf]⟩
    · obtain ⟨v1, w1, hr1, h1, hs1, hst1⟩ := go1 2 _ rfl
      have e0 : putB x 3 = x / (256 ^ 2 : Nat) % 256 :: putB x 2 := rfl
      have HF : Hid ((cur ++ [x / (256 ^ 2 : Nat) % 256]) ++ putB x 2 = zs ++ putB x n) := by
        have := HEQ.out
        rw [e0] at this
        show (cur ++ [x / (256 ^ 2 : Nat) % 256]) ++ putB x 2 = zs ++ putB x n
        rw [← this]
        simp
      have HL : Hid ((cur ++ [x / (256 ^ 2 : Nat) % 256]).length ≤ 100004 - 2) := by
        show (cur ++ [x / (256 ^ 2 : Nat) % 256]).length ≤ 100004 - 2
        simp
        omega
      have e2 : ((256 ^ 2 : Nat) : Int) = 65536 := rfl
      rw [e2] at hr1
      have HR : Hid _ := hr1
      have H1 : Hid _ := h1
      have HS1 : Hid _ := Steps.trans HST.out hst1
      clear hr1 h1 hst1 go1 e0 e2 hO
      go_wp2_with (at_builtin; refine wpList_append_run rfl _ _ _ _ rfl rfl rfl HR.out ?_)
      exact ⟨⟨2, _, by decide, rfl, H1.out, hs1, HS1.out, HL.out, HF.out⟩, by simp [intOf]⟩
    · obtain ⟨v1, w1, hr1, h1, hs1, hst1⟩ := go1 3 _ rfl
      have e0 : putB x 4 = x / (256 ^ 3 : Nat) % 256 :: putB x 3 := rfl
      have HF : Hid ((cur ++ [x / (256 ^ 3 : Nat) % 256]) ++ putB x 3 = zs ++ putB x n) := by
        have := HEQ.out
        rw [e0] at this
        show (cur ++ [x / (256 ^ 3 : Nat) % 256]) ++ putB x 3 = zs ++ putB x n
        rw [← this]
        simp
      have HL : Hid ((cur ++ [x / (256 ^ 3 : Nat) % 256]).length ≤ 100004 - 3) := by
        show (cur ++ [x / (256 ^ 3 : Nat) % 256]).length ≤ 100004 - 3
        simp
        omega
      have e2 : ((256 ^ 3 : Nat) : Int) = 16777216 := rfl
      have e3 : x / 16777216 % 256 = x / 16777216 := by omega
      rw [e2, e3] at hr1
      clear e3
      have HR : Hid _ := hr1
      have H1 : Hid _ := h1
      have HS1 : Hid _ := Steps.trans HST.out hst1
      clear hr1 h1 hst1 go1 e0 e2 hO
      go_wp2_with (at_builtin; refine wpList_append_run rfl _ _ _ _ rfl rfl rfl HR.out ?_)
      exact ⟨⟨3, _, by decide, rfl, H1.out, hs1, HS1.out, HL.out, HF.out⟩, by simp [intOf]⟩
/-- A number of so many bytes at a place. -/
def getB (zs : List Int) (at' : Nat) : Nat → Int
  | 0 => 0
  | n + 1 => getB zs at' n * 256 + gz zs (at' + n)
theorem getB_range {zs : List Int} (h : Fit zs) (at' : Nat) : ∀ n, 0 ≤ getB zs at' n ∧ getB zs at' n < (256 ^ n : Nat)
  | 0 => by simp [getB]
  | n + 1 => by
    have h1 := getB_range h at' n
    have h2 := h.gz (at' + n)
    have e : ((256 ^ (n + 1) : Nat) : Int) = (256 ^ n : Nat) * 256 := by rw [Nat.pow_succ]; simp
    rw [e]
    simp only [getB]
    omega
theorem or_byte64 (a b : Int) (ha : 0 ≤ a ∧ a < 72057594037927936) (hb : 0 ≤ b ∧ b < 256) : bits .or .u64 (a * 256) b = a * 256 + b := by
  obtain ⟨x, rfl⟩ := Int.eq_ofNat_of_zero_le ha.1
  obtain ⟨y, rfl⟩ := Int.eq_ofNat_of_zero_le hb.1
  rw [show ((x : Int) * 256) = ((x * 256 : Nat) : Int) by omega, u64_or_nat (x * 256) y (by omega) (by omega), Nat.or_comm, show x * 256 = 2 ^ 8 * x by omega, or_hi y x 8 (by omega)]
  omega
set_option maxHeartbeats 1000000 in
set_option maxRecDepth 100000 in
theorem get_calls (v : Value) (zs : List Int) (at' n : Nat) (w : World) (h : BytesAt w.heap.size w v zs) (hn : n ≤ 4) (ha : at' + n ≤ zs.length) :
    Calls Tryz.prog 177 #[v, .int .i64 at', .int .i64 n] w fun e w' => e = .returned (.int .u64 (getB zs at' n)) ∧ w' = w := by
  obtain ⟨hf, hlen, a, cap, rfl, hz⟩ := h
  have HR : Hid _ := getB_range hf at'
  go_enter Tryz.func177, Tryz.ntmps177
  go_wp2
  go_loopw [7, 8] (fun x i wr => ∃ k : Nat, k ≤ n ∧ i = .int .i64 k ∧ x = .int .u64 (getB zs at' k) ∧ wr = w) (fun _ i _ => n - (intOf i).toNat)
  case atStart => exact ⟨0, Nat.zero_le _, rfl, rfl, rfl⟩
  case round =>
    obtain ⟨k, hk, rfl, rfl, rfl⟩ := hrel
    by_cases hlt : k < n
    · rcases hz with hz | ⟨b, off, rfl, hbn, hc⟩
      · omega
      have hck := hc (at' + k) (by omega)
      have hg := hf.gz (at' + k)
      have hr := HR.out k
      have hp : ((256 ^ k : Nat) : Int) ≤ 16777216 := by
        have : 256 ^ k ≤ 256 ^ 3 := Nat.pow_le_pow_right (by decide) (by omega)
        omega
      have HS : Hid (getB zs at' (k + 1) = getB zs at' k * 256 + gz zs (at' + k)) := rfl
      have egz : zs[at' + k]?.getD 0 = gz zs (at' + k) := rfl
      rw [egz] at hck
      clear egz hc
      generalize gz zs (at' + k) = y at *
      generalize hX : getB zs at' k = X at *
      have hX1 : 0 ≤ X ∧ X < 16777216 := by omega
      have hob := or_byte64 X y (by omega) hg
      have hm : X * 256 % 18446744073709551616 = X * 256 := by omega
      clear hr hp hX HR
      go_wp2
      exact ⟨⟨k + 1, by omega, by simp, by rw [HS.out], trivial⟩, by simp [intOf]; omega⟩
    · obtain rfl : k = n := by omega
      go_wp2
      go_ret
      exact ⟨rfl, rfl⟩
end Go.Proofs.YtpgnnplpcalbbaaGreat
