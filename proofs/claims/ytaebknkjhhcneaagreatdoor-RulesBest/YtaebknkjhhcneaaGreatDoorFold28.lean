/-
  Lines of the mode, the relay and the prefix are taken.
  A rule's line is taken.
  The reader takes lines: all that a line may be.
  read of a text whose lines are those of a domain of one rule.
-/
import Derived.Test.YtaebknkjhhcneaaGreatDoorFold27
namespace Go.Proofs.YtaebknkjhhcneaaGreatDoor
open Go Go.RowKit
set_option linter.unusedVariables false
set_option linter.unusedSimpArgs false

theorem take_end {B R : Nat} {st st' : RdS} {w W W' : World} {vr va : Value} (hB : B ≤ w.heap.size) (hw : st'.In) (h : RdI B R st W) (hBW : Below w.heap.size w W) (hb : W.heap[R]? = some (.cells (rdL st vr va).toArray 142)) (h1 : RowR B W vr st.rules) (h2 : RowI B W va st.ats) (hr : st'.rules = st.rules) (ha : st'.ats = st.ats) (ho : Only R W W') (hb' : W'.heap[R]? = some (.cells (rdL st' vr va).toArray 142)) : TkPost B R st' w (.returned (.tuple #[])) W' := by
  refine ⟨rfl, RdI.put hw h hb h1 h2 hr ha ho hb', (hBW.mono hB).trans (ho.below h.hB), fun k o hk hx => ?_⟩
  have hkW := (hBW.block k (Array.getElem?_eq_some_iff.1 hk).1).trans hk
  exact (ho.other k (iter_ne_reader hkW hx hb)).trans hkW


set_option maxRecDepth 100000 in
set_option maxHeartbeats 4000000 in
theorem take_mode1 {B R : Nat} (st : RdS) (num beh : Int) (v : Value) (w : World) (h : RdI B R st w) (hB : B ≤ w.heap.size) (c1 c2 : Int) (hv : WordsAt w v [(wMode, c1), (modeB 1, c2)]) (hl : st.lines = 0) (hmd : Mds w) (hgB : 0 < B) :
    Calls Tryz.prog 86 #[.pointer (some ⟨R, 0, none⟩), .agg #[.int .i64 num, v, .int .i64 beh]] w fun e w' => TkPost B R { st with mode := 1, lines := 1 } w e w' := by
  generalize hQ : (fun e w' => TkPost B R { st with mode := 1, lines := 1 } w e w') = Q
  have HQ : Hid _ := hQ
  clear hQ
  have hB0 := (Below.refl w.heap.size w).alloc (Nat.le_refl _) (.cells #[.int .i64 num, v, .int .i64 beh] 170)
  have hL0 : LineAt (w.alloc (.cells #[.int .i64 num, v, .int .i64 beh] 170)) w.heap.size num _ beh := ⟨v, blk_new _ _, hv.keep fun g cs hg => hB0.block g (Array.getElem?_eq_some_iff.1 hg).1⟩
  have hI0 := h.below hB0
  obtain ⟨vr, va, hb, h1, h2⟩ := hI0.box
  have hwf := h.wf
  have hRB := h.hB
  obtain ⟨g0, g34, g35, g36⟩ := rdL_get hwf vr va
  have c0 := blk_cell hb g0
  have c35 := blk_cell hb g35
  rw [hl] at c35
  generalize hW0 : w.alloc (.cells #[.int .i64 num, v, .int .i64 beh] 170) = W0 at *
  have HM : Hid _ := readMode_1 w.heap.size num beh c1 c2 W0 hL0 (hmd.below hB0) (by omega)
  go_enter Tryz.func86, Tryz.ntmps86
  go_wp2_with fail
  refine Calls.mono HM.out ?_
  rintro e w1 ⟨rfl, hL1, hG1⟩
  have hG1' := Gr.below (B := w.heap.size) hG1 (Nat.le_refl _) hB0.size
  have hBw1 := hB0.trans hG1'
  have hI1 := h.below hBw1
  have lR0 : R < w.heap.size := by
    obtain ⟨_, _, k, _⟩ := h.box
    exact (Array.getElem?_eq_some_iff.1 k).1
  have hb1 := (hG1'.block R lR0).trans hb
  have lw0 : w.heap.size ≤ W0.heap.size := hB0.size
  have r1 : RowR B w1 vr st.rules := row_move h1 fun g cs hg => hG1.block g (Array.getElem?_eq_some_iff.1 hg).1 (fun e => by cases e; obtain ⟨v', k, _⟩ := hL0; rw [k] at hg; cases hg)
  have r2 : RowI B w1 va st.ats := row_move h2 fun g cs hg => hG1.block g (Array.getElem?_eq_some_iff.1 hg).1 (fun e => by cases e; obtain ⟨v', k, _⟩ := hL0; rw [k] at hg; cases hg)
  have d0 := blk_cell hb1 g0
  have d35 := blk_cell hb1 g35
  rw [hl] at d35
  have df := fun j => blk_open hb1 j
  have HE : Hid _ := end_calls w.heap.size num beh _ (LineAt.only hL1 ((Only.refl R w1).set 0 (.int .i64 1)) hb1)
  clear HM c0 c35
  go_wp2_with fail
  refine Calls.mono HE.out ?_
  rintro e w2 ⟨rfl, rfl⟩
  go_wp2
  go_end0
  rw [← HQ.out]
  have b1 := blk_set hb1 0 (.int .i64 1)
  rw [rdL_set0] at b1
  have b2 := blk_set b1 35 (.int .i64 ((1 : Nat) : Int))
  rw [rdL_set35 (st := { st with mode := 1 }) ⟨hwf.rf, hwf.rl, hwf.pf, hwf.pl, hwf.pn, hwf.ru, hwf.rn, hwf.an⟩] at b2
  exact take_end hB ⟨hwf.rf, hwf.rl, hwf.pf, hwf.pl, hwf.pn, hwf.ru, by have := hwf.rn; show st.rules.length ≤ 1; omega, by have := hwf.an; show st.ats.length ≤ 1; omega⟩ hI1 hBw1 hb1 r1 r2 rfl rfl (((Only.refl R w1).set 0 _).set 35 _) b2


set_option maxRecDepth 100000 in
set_option maxHeartbeats 4000000 in
theorem take_mode2 {B R : Nat} (st : RdS) (num beh : Int) (v : Value) (w : World) (h : RdI B R st w) (hB : B ≤ w.heap.size) (c1 c2 : Int) (hv : WordsAt w v [(wMode, c1), (modeB 2, c2)]) (hl : st.lines = 0) (hmd : Mds w) (hgB : 0 < B) :
    Calls Tryz.prog 86 #[.pointer (some ⟨R, 0, none⟩), .agg #[.int .i64 num, v, .int .i64 beh]] w fun e w' => TkPost B R { st with mode := 2, lines := 1 } w e w' := by
  generalize hQ : (fun e w' => TkPost B R { st with mode := 2, lines := 1 } w e w') = Q
  have HQ : Hid _ := hQ
  clear hQ
  have hB0 := (Below.refl w.heap.size w).alloc (Nat.le_refl _) (.cells #[.int .i64 num, v, .int .i64 beh] 170)
  have hL0 : LineAt (w.alloc (.cells #[.int .i64 num, v, .int .i64 beh] 170)) w.heap.size num _ beh := ⟨v, blk_new _ _, hv.keep fun g cs hg => hB0.block g (Array.getElem?_eq_some_iff.1 hg).1⟩
  have hI0 := h.below hB0
  obtain ⟨vr, va, hb, h1, h2⟩ := hI0.box
  have hwf := h.wf
  have hRB := h.hB
  obtain ⟨g0, g34, g35, g36⟩ := rdL_get hwf vr va
  have c0 := blk_cell hb g0
  have c35 := blk_cell hb g35
  rw [hl] at c35
  generalize hW0 : w.alloc (.cells #[.int .i64 num, v, .int .i64 beh] 170) = W0 at *
  have HM : Hid _ := readMode_2 w.heap.size num beh c1 c2 W0 hL0 (hmd.below hB0) (by omega)
  go_enter Tryz.func86, Tryz.ntmps86
  go_wp2_with fail
  refine Calls.mono HM.out ?_
  rintro e w1 ⟨rfl, hL1, hG1⟩
  have hG1' := Gr.below (B := w.heap.size) hG1 (Nat.le_refl _) hB0.size
  have hBw1 := hB0.trans hG1'
  have hI1 := h.below hBw1
  have lR0 : R < w.heap.size := by
    obtain ⟨_, _, k, _⟩ := h.box
    exact (Array.getElem?_eq_some_iff.1 k).1
  have hb1 := (hG1'.block R lR0).trans hb
  have lw0 : w.heap.size ≤ W0.heap.size := hB0.size
  have r1 : RowR B w1 vr st.rules := row_move h1 fun g cs hg => hG1.block g (Array.getElem?_eq_some_iff.1 hg).1 (fun e => by cases e; obtain ⟨v', k, _⟩ := hL0; rw [k] at hg; cases hg)
  have r2 : RowI B w1 va st.ats := row_move h2 fun g cs hg => hG1.block g (Array.getElem?_eq_some_iff.1 hg).1 (fun e => by cases e; obtain ⟨v', k, _⟩ := hL0; rw [k] at hg; cases hg)
  have d0 := blk_cell hb1 g0
  have d35 := blk_cell hb1 g35
  rw [hl] at d35
  have df := fun j => blk_open hb1 j
  have HE : Hid _ := end_calls w.heap.size num beh _ (LineAt.only hL1 ((Only.refl R w1).set 0 (.int .i64 2)) hb1)
  clear HM c0 c35
  go_wp2_with fail
  refine Calls.mono HE.out ?_
  rintro e w2 ⟨rfl, rfl⟩
  go_wp2
  go_end0
  rw [← HQ.out]
  have b1 := blk_set hb1 0 (.int .i64 2)
  rw [rdL_set0] at b1
  have b2 := blk_set b1 35 (.int .i64 ((1 : Nat) : Int))
  rw [rdL_set35 (st := { st with mode := 2 }) ⟨hwf.rf, hwf.rl, hwf.pf, hwf.pl, hwf.pn, hwf.ru, hwf.rn, hwf.an⟩] at b2
  exact take_end hB ⟨hwf.rf, hwf.rl, hwf.pf, hwf.pl, hwf.pn, hwf.ru, by have := hwf.rn; show st.rules.length ≤ 1; omega, by have := hwf.an; show st.ats.length ≤ 1; omega⟩ hI1 hBw1 hb1 r1 r2 rfl rfl (((Only.refl R w1).set 0 _).set 35 _) b2


set_option maxRecDepth 100000 in
set_option maxHeartbeats 4000000 in
theorem take_mode3 {B R : Nat} (st : RdS) (num beh : Int) (v : Value) (w : World) (h : RdI B R st w) (hB : B ≤ w.heap.size) (c1 c2 : Int) (hv : WordsAt w v [(wMode, c1), (modeB 3, c2)]) (hl : st.lines = 0) (hmd : Mds w) (hgB : 0 < B) :
    Calls Tryz.prog 86 #[.pointer (some ⟨R, 0, none⟩), .agg #[.int .i64 num, v, .int .i64 beh]] w fun e w' => TkPost B R { st with mode := 3, lines := 1 } w e w' := by
  generalize hQ : (fun e w' => TkPost B R { st with mode := 3, lines := 1 } w e w') = Q
  have HQ : Hid _ := hQ
  clear hQ
  have hB0 := (Below.refl w.heap.size w).alloc (Nat.le_refl _) (.cells #[.int .i64 num, v, .int .i64 beh] 170)
  have hL0 : LineAt (w.alloc (.cells #[.int .i64 num, v, .int .i64 beh] 170)) w.heap.size num _ beh := ⟨v, blk_new _ _, hv.keep fun g cs hg => hB0.block g (Array.getElem?_eq_some_iff.1 hg).1⟩
  have hI0 := h.below hB0
  obtain ⟨vr, va, hb, h1, h2⟩ := hI0.box
  have hwf := h.wf
  have hRB := h.hB
  obtain ⟨g0, g34, g35, g36⟩ := rdL_get hwf vr va
  have c0 := blk_cell hb g0
  have c35 := blk_cell hb g35
  rw [hl] at c35
  generalize hW0 : w.alloc (.cells #[.int .i64 num, v, .int .i64 beh] 170) = W0 at *
  have HM : Hid _ := readMode_3 w.heap.size num beh c1 c2 W0 hL0 (hmd.below hB0) (by omega)
  go_enter Tryz.func86, Tryz.ntmps86
  go_wp2_with fail
  refine Calls.mono HM.out ?_
  rintro e w1 ⟨rfl, hL1, hG1⟩
  have hG1' := Gr.below (B := w.heap.size) hG1 (Nat.le_refl _) hB0.size
  have hBw1 := hB0.trans hG1'
  have hI1 := h.below hBw1
  have lR0 : R < w.heap.size := by
    obtain ⟨_, _, k, _⟩ := h.box
    exact (Array.getElem?_eq_some_iff.1 k).1
  have hb1 := (hG1'.block R lR0).trans hb
  have lw0 : w.heap.size ≤ W0.heap.size := hB0.size
  have r1 : RowR B w1 vr st.rules := row_move h1 fun g cs hg => hG1.block g (Array.getElem?_eq_some_iff.1 hg).1 (fun e => by cases e; obtain ⟨v', k, _⟩ := hL0; rw [k] at hg; cases hg)
  have r2 : RowI B w1 va st.ats := row_move h2 fun g cs hg => hG1.block g (Array.getElem?_eq_some_iff.1 hg).1 (fun e => by cases e; obtain ⟨v', k, _⟩ := hL0; rw [k] at hg; cases hg)
  have d0 := blk_cell hb1 g0
  have d35 := blk_cell hb1 g35
  rw [hl] at d35
  have df := fun j => blk_open hb1 j
  have HE : Hid _ := end_calls w.heap.size num beh _ (LineAt.only hL1 ((Only.refl R w1).set 0 (.int .i64 3)) hb1)
  clear HM c0 c35
  go_wp2_with fail
  refine Calls.mono HE.out ?_
  rintro e w2 ⟨rfl, rfl⟩
  go_wp2
  go_end0
  rw [← HQ.out]
  have b1 := blk_set hb1 0 (.int .i64 3)
  rw [rdL_set0] at b1
  have b2 := blk_set b1 35 (.int .i64 ((1 : Nat) : Int))
  rw [rdL_set35 (st := { st with mode := 3 }) ⟨hwf.rf, hwf.rl, hwf.pf, hwf.pl, hwf.pn, hwf.ru, hwf.rn, hwf.an⟩] at b2
  exact take_end hB ⟨hwf.rf, hwf.rl, hwf.pf, hwf.pl, hwf.pn, hwf.ru, by have := hwf.rn; show st.rules.length ≤ 1; omega, by have := hwf.an; show st.ats.length ≤ 1; omega⟩ hI1 hBw1 hb1 r1 r2 rfl rfl (((Only.refl R w1).set 0 _).set 35 _) b2


set_option maxRecDepth 100000 in
set_option maxHeartbeats 4000000 in
theorem take_relay {B R : Nat} (st : RdS) (num beh : Int) (v : Value) (w : World) (h : RdI B R st w) (hB : B ≤ w.heap.size) (c1 : Int) (x : ByteArray × Int) (hv : WordsAt w v [(wRelay, c1), x]) (hl : st.lines = 1) (hm : st.mode = 1) (l : List Int) (hx : ad6 x.1 = some l) :
    Calls Tryz.prog 86 #[.pointer (some ⟨R, 0, none⟩), .agg #[.int .i64 num, v, .int .i64 beh]] w fun e w' => TkPost B R { st with relay := l, lines := 2 } w e w' := by
  generalize hQ : (fun e w' => TkPost B R { st with relay := l, lines := 2 } w e w') = Q
  have HQ : Hid _ := hQ
  clear hQ
  have hB0 := (Below.refl w.heap.size w).alloc (Nat.le_refl _) (.cells #[.int .i64 num, v, .int .i64 beh] 170)
  have hL0 : LineAt (w.alloc (.cells #[.int .i64 num, v, .int .i64 beh] 170)) w.heap.size num _ beh := ⟨v, blk_new _ _, hv.keep fun g cs hg => hB0.block g (Array.getElem?_eq_some_iff.1 hg).1⟩
  have hI0 := h.below hB0
  obtain ⟨vr, va, hb, h1, h2⟩ := hI0.box
  have hwf := h.wf
  have hRB := h.hB
  obtain ⟨g0, g34, g35, g36⟩ := rdL_get hwf vr va
  have c0 := blk_cell hb g0
  have c35 := blk_cell hb g35
  rw [hl] at c35
  generalize hW0 : w.alloc (.cells #[.int .i64 num, v, .int .i64 beh] 170) = W0 at *
  rw [hm] at c0
  obtain ⟨fl, ll, hp⟩ := ad6_spec hx
  have HM : Hid _ := must_calls w.heap.size num beh (wRelay, c1) _ W0 hL0
  go_enter Tryz.func86, Tryz.ntmps86
  go_wp2_with fail
  refine Calls.mono HM.out ?_
  rintro e w1 ⟨rfl, hL1, hG1⟩
  have HT : Hid _ := thing_Addr6 w.heap.size num beh x _ w1 hL1 (u8s l) (by rw [u8s_length, ll]) (u8s_one l) hp
  clear HM
  go_wp2_with fail
  refine Calls.mono HT.out ?_
  rintro e w2 ⟨rfl, hL2, hG2⟩
  have hG12 := Gr.trans hG1 hG2
  have hG1' := Gr.below (B := w.heap.size) hG12 (Nat.le_refl _) hB0.size
  have hBw2 := hB0.trans hG1'
  have hI2 := h.below hBw2
  have lR0 : R < w.heap.size := by
    obtain ⟨_, _, k, _⟩ := h.box
    exact (Array.getElem?_eq_some_iff.1 k).1
  have hb2 := (hG1'.block R lR0).trans hb
  have r1 : RowR B w2 vr st.rules := row_move h1 fun g cs hg => hG12.block g (Array.getElem?_eq_some_iff.1 hg).1 (fun e => by cases e; obtain ⟨v', k, _⟩ := hL0; rw [k] at hg; cases hg)
  have r2 : RowI B w2 va st.ats := row_move h2 fun g cs hg => hG12.block g (Array.getElem?_eq_some_iff.1 hg).1 (fun e => by cases e; obtain ⟨v', k, _⟩ := hL0; rw [k] at hg; cases hg)
  have hlen := rdL_length hwf vr va
  obtain ⟨w3, hst3, hb3, ho3⟩ := box_part (o := 1) Tryz.sizeOf24 hb2 (u8s l) (by rw [u8s_length, ll]) (by omega) (u8s_one l)
  rw [rdL_relay hwf] at hb3
  have HST : Hid _ := hst3
  have wf3 : RdS.In { st with relay := l } := ⟨fl, ll, hwf.pf, hwf.pl, hwf.pn, hwf.ru, hwf.rn, hwf.an⟩
  obtain ⟨_, _, k35, _⟩ := rdL_get wf3 vr va
  have d35 := blk_cell hb3 k35
  rw [show RdS.lines { st with relay := l } = 1 from hl] at d35
  have df := fun j => blk_open hb3 j
  have HE : Hid _ := end_calls w.heap.size num beh _ (LineAt.only hL2 ho3 hb2)
  clear HT c0 c35 hst3
  go_wp2_with first
    | ((with_reducible show wpList _ _ _ _ _ _); refine armS (.tmp 57) (.tmp 54) 24 rfl rfl rfl rfl HST.out ?_)
  refine Calls.mono HE.out ?_
  rintro e w4 ⟨rfl, hw4⟩
  subst hw4
  go_wp2
  go_end0
  rw [← HQ.out]
  have b2 := blk_set hb3 35 (.int .i64 ((2 : Nat) : Int))
  rw [rdL_set35 wf3] at b2
  exact take_end hB ⟨wf3.rf, wf3.rl, wf3.pf, wf3.pl, wf3.pn, wf3.ru, by have := hwf.rn; show st.rules.length ≤ 2; omega, by have := hwf.an; show st.ats.length ≤ 2; omega⟩ hI2 hBw2 hb2 r1 r2 rfl rfl (ho3.set 35 _) b2


set_option maxRecDepth 100000 in
set_option maxHeartbeats 4000000 in
theorem take_prefix {B R : Nat} (st : RdS) (num beh : Int) (v : Value) (w : World) (h : RdI B R st w) (hB : B ≤ w.heap.size) (c1 : Int) (x : ByteArray × Int) (hv : WordsAt w v [(wPrefix, c1), x]) (hl : st.lines = 1) (hm : st.mode ≠ 1) (p : List Int × Int) (hx : px6 x.1 = some p) :
    Calls Tryz.prog 86 #[.pointer (some ⟨R, 0, none⟩), .agg #[.int .i64 num, v, .int .i64 beh]] w fun e w' => TkPost B R { st with pl := p.1, pn := p.2, lines := 2 } w e w' := by
  generalize hQ : (fun e w' => TkPost B R { st with pl := p.1, pn := p.2, lines := 2 } w e w') = Q
  have HQ : Hid _ := hQ
  clear hQ
  have hB0 := (Below.refl w.heap.size w).alloc (Nat.le_refl _) (.cells #[.int .i64 num, v, .int .i64 beh] 170)
  have hL0 : LineAt (w.alloc (.cells #[.int .i64 num, v, .int .i64 beh] 170)) w.heap.size num _ beh := ⟨v, blk_new _ _, hv.keep fun g cs hg => hB0.block g (Array.getElem?_eq_some_iff.1 hg).1⟩
  have hI0 := h.below hB0
  obtain ⟨vr, va, hb, h1, h2⟩ := hI0.box
  have hwf := h.wf
  have hRB := h.hB
  obtain ⟨g0, g34, g35, g36⟩ := rdL_get hwf vr va
  have c0 := blk_cell hb g0
  have c35 := blk_cell hb g35
  rw [hl] at c35
  generalize hW0 : w.alloc (.cells #[.int .i64 num, v, .int .i64 beh] 170) = W0 at *
  have hm1 : (st.mode == 1) = false := by simpa using hm
  obtain ⟨fl, ll, _, hn, hp⟩ := px6_spec hx
  have HM : Hid _ := must_calls w.heap.size num beh (wPrefix, c1) _ W0 hL0
  go_enter Tryz.func86, Tryz.ntmps86
  go_wp2_with fail
  refine Calls.mono HM.out ?_
  rintro e w1 ⟨rfl, hL1, hG1⟩
  have HT : Hid _ := thing_Prefix6 w.heap.size num beh x _ w1 hL1 (cp6 p.1 p.2) (cp6_length _ _ ll) (cp6_one _ _) hp
  clear HM
  go_wp2_with fail
  refine Calls.mono HT.out ?_
  rintro e w2 ⟨rfl, hL2, hG2⟩
  have hG12 := Gr.trans hG1 hG2
  have hG1' := Gr.below (B := w.heap.size) hG12 (Nat.le_refl _) hB0.size
  have hBw2 := hB0.trans hG1'
  have hI2 := h.below hBw2
  have lR0 : R < w.heap.size := by
    obtain ⟨_, _, k, _⟩ := h.box
    exact (Array.getElem?_eq_some_iff.1 k).1
  have hb2 := (hG1'.block R lR0).trans hb
  have r1 : RowR B w2 vr st.rules := row_move h1 fun g cs hg => hG12.block g (Array.getElem?_eq_some_iff.1 hg).1 (fun e => by cases e; obtain ⟨v', k, _⟩ := hL0; rw [k] at hg; cases hg)
  have r2 : RowI B w2 va st.ats := row_move h2 fun g cs hg => hG12.block g (Array.getElem?_eq_some_iff.1 hg).1 (fun e => by cases e; obtain ⟨v', k, _⟩ := hL0; rw [k] at hg; cases hg)
  have hlen := rdL_length hwf vr va
  obtain ⟨w3, hst3, hb3, ho3⟩ := box_part (o := 17) Tryz.sizeOf26 hb2 (cp6 p.1 p.2) (cp6_length _ _ ll) (by omega) (cp6_one _ _)
  rw [rdL_prefix hwf] at hb3
  have HST : Hid _ := hst3
  have wf3 : RdS.In { st with pl := p.1, pn := p.2 } := ⟨hwf.rf, hwf.rl, fl, ll, hn, hwf.ru, hwf.rn, hwf.an⟩
  obtain ⟨_, _, k35, _⟩ := rdL_get wf3 vr va
  have d35 := blk_cell hb3 k35
  rw [show RdS.lines { st with pl := p.1, pn := p.2 } = 1 from hl] at d35
  have df := fun j => blk_open hb3 j
  have HE : Hid _ := end_calls w.heap.size num beh _ (LineAt.only hL2 ho3 hb2)
  clear HT c0 c35 hst3
  go_wp2_with first
    | ((with_reducible show wpList _ _ _ _ _ _); refine armS (.tmp 69) (.tmp 66) 26 rfl rfl rfl rfl HST.out ?_)
  refine Calls.mono HE.out ?_
  rintro e w4 ⟨rfl, hw4⟩
  subst hw4
  go_wp2
  go_end0
  rw [← HQ.out]
  have b2 := blk_set hb3 35 (.int .i64 ((2 : Nat) : Int))
  rw [rdL_set35 wf3] at b2
  exact take_end hB ⟨wf3.rf, wf3.rl, wf3.pf, wf3.pl, wf3.pn, wf3.ru, by have := hwf.rn; show st.rules.length ≤ 2; omega, by have := hwf.an; show st.ats.length ≤ 2; omega⟩ hI2 hBw2 hb2 r1 r2 rfl rfl (ho3.set 35 _) b2


end Go.Proofs.YtaebknkjhhcneaaGreatDoor

namespace Go.Proofs.YtaebknkjhhcneaaGreatDoor
open Go Go.RowKit
set_option linter.unusedVariables false
set_option linter.unusedSimpArgs false

theorem infoR : ∃ i, Tryz.prog.info? 65 = some i ∧ i.zero = some (.agg zeroQL.toArray) ∧ i.size = 25 ∧ i.bytes = 64 := by
  have h : (Tryz.prog.info? 65).map (fun i => (i.zero, i.size, i.bytes)) = some (some (.agg zeroQL.toArray), 25, 64) := by kernel_rfl
  obtain ⟨i, hi, e⟩ := Option.map_eq_some_iff.1 h
  simp only [Prod.mk.injEq] at e
  exact ⟨i, hi, e.1, e.2.1, e.2.2⟩
theorem infoI : ∃ i, Tryz.prog.info? 3 = some i ∧ i.zero = some (.int .i64 0) ∧ i.size = 1 ∧ i.bytes = 8 := by
  have h : (Tryz.prog.info? 3).map (fun i => (i.zero, i.size, i.bytes)) = some (some (.int .i64 0), 1, 8) := by kernel_rfl
  obtain ⟨i, hi, e⟩ := Option.map_eq_some_iff.1 h
  simp only [Prod.mk.injEq] at e
  exact ⟨i, hi, e.1, e.2.1, e.2.2⟩

/-- A row of rules of one's own, longer by one. -/
def AppR (B : Nat) (W : World) (v : Value) (rs : List Ru) (x : Ru) (v' : Value) (w2 : World) : Prop := RowR B w2 v' (rs ++ [x]) ∧ W.grownBy w2 v.ownBlock
def AppI (B : Nat) (W : World) (v : Value) (zs : List Int) (x : Int) (v' : Value) (w2 : World) : Prop := RowI B w2 v' (zs ++ [x]) ∧ W.grownBy w2 v.ownBlock

theorem rules_append {B : Nat} {W : World} {v : Value} {rs : List Ru} (h : RowR B W v rs) (hb : B ≤ W.heap.size) (hn : rs.length ≤ 2000000) (x : Ru) (hx : x.In) (ty : TypeId) :
    ∃ v' w2, (Builtin.append_ #[27, 27] ty #[v, .slice (some ⟨W.heap.size, 0, none⟩) 1 1]).run Tryz.prog (W.alloc (.cells (rc x).toArray 65)) = .ok v' w2 ∧ AppR B W v rs x v' w2 := by
  obtain ⟨i, hi, hz, hs, hby⟩ := infoR
  obtain ⟨v', w2, hrun, h1, h2, _⟩ := run_append_own (P := Tryz.prog) (W.alloc (.cells (rc x).toArray 65)) B 27 ty 65 i _ 25 64 Tryz.underlying27 hi hz hs hby rfl (by decide) v _ _ (World.ownsRow.alloc h _) ⟨W.heap.size, 0, none⟩ 1 1 (rc x) (by rw [rc_length hx]) (fun j u hj => by
    rw [Go.WideShapes.add_plain]
    have := blk_cell (blk_new W (.cells (rc x).toArray 65)) hj
    simpa using this) (rc_one x) (by unfold maxLen; omega) (by omega) (by simp; omega)
  refine ⟨v', w2, hrun, ?_, Gr.trans (World.grownBy_alloc _ _ _) h2⟩
  show World.ownsRow _ _ _ _ _ _ _
  rw [cellsR_push, List.length_append]
  exact h1
theorem ints_append {B : Nat} {W : World} {v : Value} {zs : List Int} (h : RowI B W v zs) (hb : B ≤ W.heap.size) (hn : zs.length ≤ 2000000) (x : Int) (ty : TypeId) :
    ∃ v' w2, (Builtin.append_ #[137, 137] ty #[v, .slice (some ⟨W.heap.size, 0, none⟩) 1 1]).run Tryz.prog (W.alloc (.cells #[.int .i64 x] 3)) = .ok v' w2 ∧ AppI B W v zs x v' w2 := by
  obtain ⟨i, hi, hz, hs, hby⟩ := infoI
  obtain ⟨v', w2, hrun, h1, h2, _⟩ := run_append_own (P := Tryz.prog) (W.alloc (.cells #[.int .i64 x] 3)) B 137 ty 3 i _ 1 8 Tryz.underlying137 hi hz hs hby rfl (by decide) v _ _ (World.ownsRow.alloc h _) ⟨W.heap.size, 0, none⟩ 1 1 [.int .i64 x] rfl (fun j u hj => by
    rw [Go.WideShapes.add_plain]
    have := blk_cell (c := [.int .i64 x]) (blk_new W (.cells #[.int .i64 x] 3)) hj
    simpa using this) (by simp [Value.oneCell']) (by unfold maxLen; omega) (by omega) (by simp; omega)
  refine ⟨v', w2, hrun, ?_, Gr.trans (World.grownBy_alloc _ _ _) h2⟩
  show World.ownsRow _ _ _ _ _ _ _
  rw [List.map_append, List.length_append]
  exact h1

theorem wp_val {P : Program} {o : Oper} {a : Act} {d : Option Nat} {w w2 : World} {K : Act → World → Prop} {Q : Exit → Act → World → Prop} (hd : o.dst = d) {v : Value} (hrun : (execOp a.eval o).run P w = .ok (.value v) w2) (hK : K (a.put d v) w2) : o.wp P a w K Q := by
  subst hd
  unfold Oper.wp
  rw [hrun]
  exact hK
theorem wp_app {P : Program} {o : Oper} {a : Act} {d : Option Nat} {w : World} {K : Act → World → Prop} {Q : Exit → Act → World → Prop} {R : Value → World → Prop} (hd : o.dst = d) (s x : Operand) (t u : TypeId)
    (hop : o.op = Op.call { callee := Callee.builtin Builtin.append, args := #[s, x], argTypes := #[t, u] }) {vs vx : Value} (hs : a.eval s = vs) (hx : a.eval x = vx)
    (hex : ∃ v w2, (Builtin.append_ #[t, u] o.type #[vs, vx]).run P w = .ok v w2 ∧ R v w2) (hK : ∀ v w2, R v w2 → K (a.put d v) w2) : o.wp P a w K Q := by
  subst hd
  obtain ⟨v, w2, hrun, hr⟩ := hex
  unfold Oper.wp
  simp [execOp, hop, resolve, invoke, builtin, hs, hx, hrun, Result.andThen]
  exact hK _ _ hr
theorem ex_loadS {o : Oper} {a : Act} {W : World} (k : Nat) {p : Addr} {x : Option Addr} {n c : Nat} (hop : o.op = Op.load 27 (.tmp k)) (hk : a.eval (.tmp k) = .pointer (some p)) (hc : W.cell? p = some (.slice x n c)) :
    (execOp a.eval o).run Tryz.prog W = .ok (.value (.slice x n c)) W := by
  generalize a.eval = ev at *
  simp [execOp, hop, hk, go_sem, hc]

theorem AppR.form {B : Nat} {W : World} {v : Value} {rs : List Ru} {x : Ru} {v' : Value} {w2 : World} (h : AppR B W v rs x v' w2) : ∃ a n c, v' = .slice a n c := by
  obtain ⟨a, c, e⟩ := rowS_form h.1
  exact ⟨a, _, c, e⟩
theorem store_one {w : World} {p : Addr} {u v : Value} (hc : w.cell? p = some u) (hf : w.frozen? p = false) (hv : ∃ a n c, v = .slice a n c) : (Instr.storeAt 27 (.pointer (some p)) v).run Tryz.prog w = .ok () (w.setCell p v) := by
  obtain ⟨a, n, c, rfl⟩ := hv
  simp [go_sem, hc, hf]
theorem ex_bs {P : Program} {o : Oper} {a : Act} {W W' : World} {t : TypeId} {n k : Nat} {v u : Value} (hop : o.op = Op.buildSlice t n #[(0, .tmp k)]) (hk : a.eval (.tmp k) = v) (h : (Instr.buildSlice t n #[(0, v)]).run P W = .ok u W') : (execOp a.eval o).run P W = .ok (.value u) W' := by
  generalize a.eval = ev at *
  simp [execOp, hop, hk, h, Result.andThen]

theorem line_callR {P : Program} {f : FuncId} {vs : Array Value} {w : World} {v : Value} {L : Nat} {num beh : Int} {ws : List (ByteArray × Int)} (h : Calls P f vs w fun e w' => LinePost v L num ws beh w e w') : Calls P f vs w fun e w' => ∃ v', e = .returned v' ∧ (v' = v ∧ LineAt w' L num ws beh ∧ w.grownBy w' (some L)) :=
  h.mono fun e w' k => ⟨v, k.1, rfl, k.2.1, k.2.2⟩

theorem six_of {l : List Int} (h : l.length = 4) : ∃ a b c d, l = [a, b, c, d] := by
  match l, h with
  | [a, b, c, d], _ => exact ⟨a, b, c, d, rfl⟩

/-- A rule laid as a row of one. -/
theorem build_rule (x : Ru) (hx : x.In) (W : World) : (Instr.buildSlice 27 1 #[(0, RV x)]).run Tryz.prog W = .ok (.slice (some ⟨W.heap.size, 0, none⟩) 1 1) (W.alloc (.cells (rc x).toArray 65)) := by
  obtain ⟨l6, n6, l4, n4, ea, off, fmr⟩ := x
  have k6 : l6.length = 16 := hx.k6
  have k4 : l4.length = 4 := hx.k4
  obtain ⟨a0, a1, a2, a3, a4, a5, a6, a7, a8, a9, a10, a11, a12, a13, a14, a15, rfl⟩ := six16 k6
  obtain ⟨b0, b1, b2, b3, rfl⟩ := six_of k4
  obtain ⟨i, hi, hz, hs, hby⟩ := infoR
  refine run_buildSlice W 27 65 1 _ _ i _ Tryz.underlying27 hi hz (by rw [hs]; decide) (by rw [hs]; decide) ?_
  rw [hs]
  kernel_rfl


set_option maxRecDepth 100000 in
set_option maxHeartbeats 8000000 in
theorem take_rule {B R : Nat} (st : RdS) (num beh : Int) (v : Value) (ws : List (ByteArray × Int)) (w : World) (h : RdI B R st w) (hB : B ≤ w.heap.size) (hv : WordsAt w v ws) (hl : 2 ≤ st.lines) (hl9 : st.lines ≤ 100000) (x : Ru) (hx : x.In)
    (hrd : ∀ (L : Nat) (W : World), LineAt W L num ws beh → Calls Tryz.prog 126 #[.pointer (some ⟨L, 0, none⟩)] W fun e w' => LinePost (RV x) L num [] beh W e w') :
    Calls Tryz.prog 86 #[.pointer (some ⟨R, 0, none⟩), .agg #[.int .i64 num, v, .int .i64 beh]] w fun e w' => TkPost B R { st with rules := st.rules ++ [x], ats := st.ats ++ [num], lines := st.lines + 1 } w e w' := by
  generalize hQ : (fun e w' => TkPost B R { st with rules := st.rules ++ [x], ats := st.ats ++ [num], lines := st.lines + 1 } w e w') = Q
  have HQ : Hid _ := hQ
  clear hQ
  have hB0 := (Below.refl w.heap.size w).alloc (Nat.le_refl _) (.cells #[.int .i64 num, v, .int .i64 beh] 170)
  have hL0 : LineAt (w.alloc (.cells #[.int .i64 num, v, .int .i64 beh] 170)) w.heap.size num ws beh := ⟨v, blk_new _ _, hv.keep fun g cs hg => hB0.block g (Array.getElem?_eq_some_iff.1 hg).1⟩
  have hI0 := h.below hB0
  obtain ⟨vr, va, hb, h1, h2⟩ := hI0.box
  have hwf := h.wf
  have hRB := h.hB
  have lR0 : R < w.heap.size := by
    obtain ⟨_, _, k, _⟩ := h.box
    exact (Array.getElem?_eq_some_iff.1 k).1
  have HH : Hid _ := h
  have lw0 : w.heap.size < (w.alloc (.cells #[.int .i64 num, v, .int .i64 beh] 170)).heap.size := by simp
  generalize hW0 : w.alloc (.cells #[.int .i64 num, v, .int .i64 beh] 170) = W0 at *
  obtain ⟨ra, rcp, rfl⟩ := rowS_form h1
  obtain ⟨ia, icp, rfl⟩ := rowS_form h2
  obtain ⟨g0, g34, g35, g36⟩ := rdL_get hwf (.slice ra st.rules.length rcp) (.slice ia st.ats.length icp)
  have c0 := blk_cell hb g0
  have c34 := blk_cell hb g34
  have c35 := blk_cell hb g35
  have hrn := hwf.rn
  have han := hwf.an
  have q0 : ((st.lines : Int) == 0) = false := by simp; omega
  have q1 : ((st.lines : Int) == 1) = false := by simp; omega
  have HRD : Hid _ := hrd
  clear hrd hv h
  go_enter Tryz.func86, Tryz.ntmps86
  go_wp2_with fail
  all_goals
    refine region_mid (fun a0 a' w' => ∃ v1 X1 W2, a' = (((((((((((a0.put (some 4) (.pointer (some ⟨R, 0, none⟩))).put (some 5) (.pointer (some ⟨R, 0, none⟩))).put (some 6) (.pointer (some ⟨R, 0, none⟩))).put (some 7) (.pointer (some ⟨R, 0, none⟩))).put (some 8) (.pointer (some ⟨R, 34, none⟩))).put (some 9) (.slice ra st.rules.length rcp)).put (some 10) (RV x)).put (some 11) (.slice (some ⟨W2.heap.size, 0, none⟩) 1 1)).put (some 12) v1).put (some 13) (.pointer (some ⟨R, 0, none⟩))).put (some 14) (.pointer (some ⟨R, 0, none⟩))).put (some 15) (.pointer (some ⟨R, 34, none⟩)) ∧ AppR B W2 (.slice ra st.rules.length rcp) st.rules x v1 X1 ∧ LineAt W2 w.heap.size num [] beh ∧ W0.grownBy W2 (some w.heap.size) ∧ w' = X1.setCell ⟨R, 34, none⟩ v1) ?_ ?_
    · skip

      refine wp_region_held (S := fun _ => True) (by kernel_rfl) ?_
      show wpAnyH _ _ _ _ _ 13 (Array.replicate 13 false) _ W0.drew
      refine take_one (i := 0) (d := some 4) (v := .pointer (some ⟨R, 0, none⟩)) rfl rfl rfl (by kernel_rfl) (by kernel_rfl) (by kernel_rfl) (fun _ _ _ _ _ h => h.elim) (fun W hS => by kernel_rfl) trivial ?_
      simp only [Act.put, List.setIfInBounds_toArray, List.set_cons_zero, List.set_cons_succ]
      refine take_one (i := 1) (d := some 5) (v := .pointer (some ⟨R, 0, none⟩)) rfl rfl rfl (by kernel_rfl) (by kernel_rfl) (by kernel_rfl) (fun _ _ _ _ _ h => h.elim) (fun W hS => by kernel_rfl) trivial ?_
      simp only [Act.put, List.setIfInBounds_toArray, List.set_cons_zero, List.set_cons_succ]
      refine take_one (i := 2) (d := some 6) (v := .pointer (some ⟨R, 0, none⟩)) rfl rfl rfl (by kernel_rfl) (by kernel_rfl) (by kernel_rfl) (fun _ _ _ _ _ h => h.elim) (fun W hS => by kernel_rfl) trivial ?_
      simp only [Act.put, List.setIfInBounds_toArray, List.set_cons_zero, List.set_cons_succ]
      refine take_one (i := 3) (d := some 7) (v := .pointer (some ⟨R, 0, none⟩)) rfl rfl rfl (by kernel_rfl) (by kernel_rfl) (by kernel_rfl) (fun _ _ _ _ _ h => h.elim) (fun W hS => by kernel_rfl) trivial ?_
      simp only [Act.put, List.setIfInBounds_toArray, List.set_cons_zero, List.set_cons_succ]
      refine take_one (i := 4) (d := some 8) (v := .pointer (some ⟨R, 34, none⟩)) rfl rfl rfl (by kernel_rfl) (by kernel_rfl) (by kernel_rfl) (fun _ _ _ _ _ h => h.elim) (fun W hS => by kernel_rfl) trivial ?_
      simp only [Act.put, List.setIfInBounds_toArray, List.set_cons_zero, List.set_cons_succ]
      refine all_two (i1 := 5) (i2 := 6) (by kernel_rfl) rfl rfl rfl rfl ?_ ?_
      · skip
        refine wp_val (d := some 9) (v := .slice ra st.rules.length rcp) rfl (ex_loadS 8 rfl rfl c34) ⟨trivial, ?_⟩
        simp only [Act.put, List.setIfInBounds_toArray, List.set_cons_zero, List.set_cons_succ]
        refine all_one (i := 6) (by kernel_rfl) rfl rfl ?_
        refine wp_call (d := some 10) 126 _ rfl (by kernel_rfl) (line_callR (HRD.out w.heap.size W0.drew hL0)) ?_
        rintro _ W2 ⟨rfl, hL2, hG2⟩
        have hG2 : W0.grownBy W2 (some w.heap.size) := ⟨hG2.os, hG2.tape, hG2.output, hG2.size, hG2.block⟩
        have hb2 := (hG2.block R (by omega) (fun e => by cases e; omega)).trans hb
        have c2 := blk_cell hb2 g34
        have r2 : RowR B W2 (.slice ra st.rules.length rcp) st.rules := row_move h1 fun g cs hg => hG2.block g (Array.getElem?_eq_some_iff.1 hg).1 (fun e => by cases e; obtain ⟨v', k, _⟩ := hL0; rw [k] at hg; cases hg)
        have hs2 : B ≤ W2.heap.size := by have := hG2.size; omega
        refine ⟨trivial, ?_⟩
        simp only [Act.put, List.setIfInBounds_toArray, List.set_cons_zero, List.set_cons_succ]
        refine all_one (i := 7) (by kernel_rfl) rfl rfl ?_
        refine wp_val (d := some 11) (v := .slice (some ⟨W2.heap.size, 0, none⟩) 1 1) (w2 := W2.alloc (.cells (rc x).toArray 65)) rfl (ex_bs (t := 27) (n := 1) (k := 10) (v := RV x) rfl rfl (build_rule x hx W2)) ⟨trivial, ?_⟩
        simp only [Act.put, List.setIfInBounds_toArray, List.set_cons_zero, List.set_cons_succ]
        refine all_one (i := 8) (by kernel_rfl) rfl rfl ?_
        refine wp_app (d := some 12) rfl _ _ _ _ rfl rfl rfl (rules_append r2 hs2 (by omega) x hx _) ?_
        intro v1 X1 hX
        refine ⟨trivial, ?_⟩
        simp only [Act.put, List.setIfInBounds_toArray, List.set_cons_zero, List.set_cons_succ]
        refine take_one (i := 9) (d := some 13) (v := .pointer (some ⟨R, 0, none⟩)) rfl rfl rfl (by kernel_rfl) (by kernel_rfl) (by kernel_rfl) (fun _ _ _ _ _ h => h.elim) (fun W hS => by kernel_rfl) trivial ?_
        simp only [Act.put, List.setIfInBounds_toArray, List.set_cons_zero, List.set_cons_succ]
        refine take_one (i := 10) (d := some 14) (v := .pointer (some ⟨R, 0, none⟩)) rfl rfl rfl (by kernel_rfl) (by kernel_rfl) (by kernel_rfl) (fun _ _ _ _ _ h => h.elim) (fun W hS => by kernel_rfl) trivial ?_
        simp only [Act.put, List.setIfInBounds_toArray, List.set_cons_zero, List.set_cons_succ]
        refine take_one (i := 11) (d := some 15) (v := .pointer (some ⟨R, 34, none⟩)) rfl rfl rfl (by kernel_rfl) (by kernel_rfl) (by kernel_rfl) (fun _ _ _ _ _ h => h.elim) (fun W hS => by kernel_rfl) trivial ?_
        simp only [Act.put, List.setIfInBounds_toArray, List.set_cons_zero, List.set_cons_succ]
        have hbX := (hX.2.block R (Array.getElem?_eq_some_iff.1 hb2).1 (row_other r2 hb2 (fun c e => by cases e))).trans hb2
        have cX := blk_cell hbX g34
        have fX := blk_open hbX 34
        refine all_one (i := 12) (by kernel_rfl) rfl rfl ?_
        refine wp_storeA (.tmp 15) (.tmp 12) 27 rfl rfl rfl rfl (store_one cX fX (AppR.form hX)) ⟨trivial, ?_⟩
        refine wpAnyH_done (by kernel_rfl) ?_ _
        exact ⟨v1, X1, W2, rfl, hX, hL2, hG2, rfl⟩
      · skip
        refine wp_call (d := some 10) 126 _ rfl (by kernel_rfl) (line_callR (HRD.out w.heap.size W0.drew hL0)) ?_
        rintro _ W2 ⟨rfl, hL2, hG2⟩
        have hG2 : W0.grownBy W2 (some w.heap.size) := ⟨hG2.os, hG2.tape, hG2.output, hG2.size, hG2.block⟩
        have hb2 := (hG2.block R (by omega) (fun e => by cases e; omega)).trans hb
        have c2 := blk_cell hb2 g34
        have r2 : RowR B W2 (.slice ra st.rules.length rcp) st.rules := row_move h1 fun g cs hg => hG2.block g (Array.getElem?_eq_some_iff.1 hg).1 (fun e => by cases e; obtain ⟨v', k, _⟩ := hL0; rw [k] at hg; cases hg)
        have hs2 : B ≤ W2.heap.size := by have := hG2.size; omega
        refine ⟨trivial, ?_⟩
        simp only [Act.put, List.setIfInBounds_toArray, List.set_cons_zero, List.set_cons_succ]
        refine all_two (i1 := 5) (i2 := 7) (by kernel_rfl) rfl rfl rfl rfl ?_ ?_
        · skip
          refine wp_val (d := some 9) (v := .slice ra st.rules.length rcp) rfl (ex_loadS 8 rfl rfl c2) ⟨trivial, ?_⟩
          simp only [Act.put, List.setIfInBounds_toArray, List.set_cons_zero, List.set_cons_succ]
          refine all_one (i := 7) (by kernel_rfl) rfl rfl ?_
          refine wp_val (d := some 11) (v := .slice (some ⟨W2.heap.size, 0, none⟩) 1 1) (w2 := W2.alloc (.cells (rc x).toArray 65)) rfl (ex_bs (t := 27) (n := 1) (k := 10) (v := RV x) rfl rfl (build_rule x hx W2)) ⟨trivial, ?_⟩
          simp only [Act.put, List.setIfInBounds_toArray, List.set_cons_zero, List.set_cons_succ]
          refine all_one (i := 8) (by kernel_rfl) rfl rfl ?_
          refine wp_app (d := some 12) rfl _ _ _ _ rfl rfl rfl (rules_append r2 hs2 (by omega) x hx _) ?_
          intro v1 X1 hX
          refine ⟨trivial, ?_⟩
          simp only [Act.put, List.setIfInBounds_toArray, List.set_cons_zero, List.set_cons_succ]
          refine take_one (i := 9) (d := some 13) (v := .pointer (some ⟨R, 0, none⟩)) rfl rfl rfl (by kernel_rfl) (by kernel_rfl) (by kernel_rfl) (fun _ _ _ _ _ h => h.elim) (fun W hS => by kernel_rfl) trivial ?_
          simp only [Act.put, List.setIfInBounds_toArray, List.set_cons_zero, List.set_cons_succ]
          refine take_one (i := 10) (d := some 14) (v := .pointer (some ⟨R, 0, none⟩)) rfl rfl rfl (by kernel_rfl) (by kernel_rfl) (by kernel_rfl) (fun _ _ _ _ _ h => h.elim) (fun W hS => by kernel_rfl) trivial ?_
          simp only [Act.put, List.setIfInBounds_toArray, List.set_cons_zero, List.set_cons_succ]
          refine take_one (i := 11) (d := some 15) (v := .pointer (some ⟨R, 34, none⟩)) rfl rfl rfl (by kernel_rfl) (by kernel_rfl) (by kernel_rfl) (fun _ _ _ _ _ h => h.elim) (fun W hS => by kernel_rfl) trivial ?_
          simp only [Act.put, List.setIfInBounds_toArray, List.set_cons_zero, List.set_cons_succ]
          have hbX := (hX.2.block R (Array.getElem?_eq_some_iff.1 hb2).1 (row_other r2 hb2 (fun c e => by cases e))).trans hb2
          have cX := blk_cell hbX g34
          have fX := blk_open hbX 34
          refine all_one (i := 12) (by kernel_rfl) rfl rfl ?_
          refine wp_storeA (.tmp 15) (.tmp 12) 27 rfl rfl rfl rfl (store_one cX fX (AppR.form hX)) ⟨trivial, ?_⟩
          refine wpAnyH_done (by kernel_rfl) ?_ _
          exact ⟨v1, X1, W2, rfl, hX, hL2, hG2, rfl⟩
        · skip
          refine wp_val (d := some 11) (v := .slice (some ⟨W2.heap.size, 0, none⟩) 1 1) (w2 := W2.alloc (.cells (rc x).toArray 65)) rfl (ex_bs (t := 27) (n := 1) (k := 10) (v := RV x) rfl rfl (build_rule x hx W2)) ⟨trivial, ?_⟩
          simp only [Act.put, List.setIfInBounds_toArray, List.set_cons_zero, List.set_cons_succ]
          have c3 := blk_cell (blk_alloc hb2 (.cells (rc x).toArray 65)) g34
          refine all_one (i := 5) (by kernel_rfl) rfl rfl ?_
          refine wp_val (d := some 9) (v := .slice ra st.rules.length rcp) rfl (ex_loadS 8 rfl rfl c3) ⟨trivial, ?_⟩
          simp only [Act.put, List.setIfInBounds_toArray, List.set_cons_zero, List.set_cons_succ]
          refine all_one (i := 8) (by kernel_rfl) rfl rfl ?_
          refine wp_app (d := some 12) rfl _ _ _ _ rfl rfl rfl (rules_append r2 hs2 (by omega) x hx _) ?_
          intro v1 X1 hX
          refine ⟨trivial, ?_⟩
          simp only [Act.put, List.setIfInBounds_toArray, List.set_cons_zero, List.set_cons_succ]
          refine take_one (i := 9) (d := some 13) (v := .pointer (some ⟨R, 0, none⟩)) rfl rfl rfl (by kernel_rfl) (by kernel_rfl) (by kernel_rfl) (fun _ _ _ _ _ h => h.elim) (fun W hS => by kernel_rfl) trivial ?_
          simp only [Act.put, List.setIfInBounds_toArray, List.set_cons_zero, List.set_cons_succ]
          refine take_one (i := 10) (d := some 14) (v := .pointer (some ⟨R, 0, none⟩)) rfl rfl rfl (by kernel_rfl) (by kernel_rfl) (by kernel_rfl) (fun _ _ _ _ _ h => h.elim) (fun W hS => by kernel_rfl) trivial ?_
          simp only [Act.put, List.setIfInBounds_toArray, List.set_cons_zero, List.set_cons_succ]
          refine take_one (i := 11) (d := some 15) (v := .pointer (some ⟨R, 34, none⟩)) rfl rfl rfl (by kernel_rfl) (by kernel_rfl) (by kernel_rfl) (fun _ _ _ _ _ h => h.elim) (fun W hS => by kernel_rfl) trivial ?_
          simp only [Act.put, List.setIfInBounds_toArray, List.set_cons_zero, List.set_cons_succ]
          have hbX := (hX.2.block R (Array.getElem?_eq_some_iff.1 hb2).1 (row_other r2 hb2 (fun c e => by cases e))).trans hb2
          have cX := blk_cell hbX g34
          have fX := blk_open hbX 34
          refine all_one (i := 12) (by kernel_rfl) rfl rfl ?_
          refine wp_storeA (.tmp 15) (.tmp 12) 27 rfl rfl rfl rfl (store_one cX fX (AppR.form hX)) ⟨trivial, ?_⟩
          refine wpAnyH_done (by kernel_rfl) ?_ _
          exact ⟨v1, X1, W2, rfl, hX, hL2, hG2, rfl⟩
    rintro a' V ⟨v1, X1, W2, rfl, hX, hL2, hG2, rfl⟩
    simp only [Act.put, List.setIfInBounds_toArray, List.set_cons_zero, List.set_cons_succ]
    have hb2 := (hG2.block R (by omega) (fun e => by cases e; omega)).trans hb
    have r2 : RowR B W2 (.slice ra st.rules.length rcp) st.rules := row_move h1 fun g cs hg => hG2.block g (Array.getElem?_eq_some_iff.1 hg).1 (fun e => by cases e; obtain ⟨v', k, _⟩ := hL0; rw [k] at hg; cases hg)
    have hbX := (hX.2.block R (Array.getElem?_eq_some_iff.1 hb2).1 (row_other r2 hb2 (fun c e => by cases e))).trans hb2
    have hlL := LineAt.lt hL2
    have hBW2 : Below w.heap.size w W2 := hB0.trans (Gr.below hG2 (Nat.le_refl _) (by omega))
    have r2i : RowI B W2 (.slice ia st.ats.length icp) st.ats := row_move h2 fun g cs hg => hG2.block g (Array.getElem?_eq_some_iff.1 hg).1 (fun e => by cases e; obtain ⟨v', k, _⟩ := hL0; rw [k] at hg; cases hg)
    have rXi : RowI B X1 (.slice ia st.ats.length icp) st.ats := row_move r2i fun g cs hg => hX.2.block g (Array.getElem?_eq_some_iff.1 hg).1 (row_other r2 hg (fun c e => by cases e))
    have hLX : LineAt X1 w.heap.size num [] beh := by
      obtain ⟨v', k1, k2⟩ := hL2
      refine ⟨v', (hX.2.block _ (Array.getElem?_eq_some_iff.1 k1).1 (row_other r2 k1 (fun c e => by cases e))).trans k1, k2.keep fun g cs hg => hX.2.block g (Array.getElem?_eq_some_iff.1 hg).1 (row_other r2 hg (fun c e => by cases e))⟩
    have hbS := blk_set hbX 34 v1
    rw [rdL_set34 hwf] at hbS
    have hoS : Only R X1 (X1.setCell ⟨R, 34, none⟩ v1) := (Only.refl R X1).set 34 v1
    have rS : RowR B (X1.setCell ⟨R, 34, none⟩ v1) v1 (st.rules ++ [x]) := row_move hX.1 fun g cs hg => hoS.other g (fun e => by rw [e, hbX] at hg; cases hg)
    have rSi : RowI B (X1.setCell ⟨R, 34, none⟩ v1) (.slice ia st.ats.length icp) st.ats := row_move rXi fun g cs hg => hoS.other g (fun e => by rw [e, hbX] at hg; cases hg)
    have hLS := LineAt.only hLX hoS hbX
    have hKS : ∀ (k : Nat) (o : Obj), w.heap[k]? = some o → (∀ c, o ≠ .cells c 142) → (∀ c, o ≠ .cells c 65) → (X1.setCell ⟨R, 34, none⟩ v1).heap[k]? = some o := fun k o hk n1 n2 => by
      have k2 := (hBW2.block k (Array.getElem?_eq_some_iff.1 hk).1).trans hk
      have kX := (hX.2.block k (Array.getElem?_eq_some_iff.1 k2).1 (row_other r2 k2 n2)).trans k2
      exact (hoS.other k (fun e => by rw [e, hbX] at kX; exact n1 _ (Option.some.inj kX).symm)).trans kX
    have hBX : Below B w (X1.setCell ⟨R, 34, none⟩ v1) := by
      have hX9 : Below B W2 X1 := ⟨hX.2.os, hX.2.tape, hX.2.output, hX.2.size, fun k hk => hX.2.block k (by have := hBW2.size; omega) (fun e => by
        have := (World.ownsRow.lt r2 k e.symm).1
        omega)⟩
      exact ((hBW2.mono hB).trans hX9).setCell hRB _
    have hsS : B ≤ (X1.setCell ⟨R, 34, none⟩ v1).heap.size := Nat.le_trans hB hBX.size
    have hszS : w.heap.size ≤ (X1.setCell ⟨R, 34, none⟩ v1).heap.size := hBX.size
    generalize X1.setCell ⟨R, 34, none⟩ v1 = X2 at *
    obtain ⟨_, _, k35, k36⟩ := rdL_get hwf v1 (.slice ia st.ats.length icp)
    have d36 := blk_cell hbS k36
    have d35 := blk_cell hbS k35
    have d36a : ∀ o, (X2.alloc o).cell? ⟨R, 36, none⟩ = _ := fun o => blk_cell (blk_alloc hbS o) k36
    obtain ⟨lv, lb, lw⟩ := hLS
    have e0 : X2.cell? ⟨w.heap.size, 0, none⟩ = some (.int .i64 num) := blk_cell (c := [_, _, _]) lb rfl
    have HAP : Hid (∀ ty, _) := fun ty => ints_append (W := X2.drew) (v := .slice ia st.ats.length icp) (zs := st.ats) rSi hsS (by omega) num ty
    have HLS : Hid (LineAt X2 w.heap.size num [] beh) := ⟨lv, lb, lw⟩
    clear c0 c34 c35 hX hL2 hG2 hb2 r2 hbX r2i rXi hLX hoS hBW2 lb lw hI0 hb h1 h2
    go_wp2_with fail
    go_region_law (refine step_append_ex rfl _ _ _ _ rfl rfl rfl (HAP.out _) ?_; intro v2 X3 hX3; obtain ⟨va2, vc2, rfl⟩ := rowS_form hX3.1; have xb := (hX3.2.block R (Array.getElem?_eq_some_iff.1 hbS).1 (row_other rSi hbS (fun c e => by cases e))).trans hbS; have x36 := blk_cell xb k36; have x35 := blk_cell xb k35; have xf := (fun j => blk_open xb j))
    all_goals
      have hbT := blk_set xb 36 (.slice va2 (st.ats.length + 1) vc2)
      rw [rdL_set36 hwf] at hbT
      have hK3 : ∀ (k : Nat) (o : Obj), X2.heap[k]? = some o → (∀ c, o ≠ .cells c 3) → X3.heap[k]? = some o := fun k o hk n1 => (hX3.2.block k (Array.getElem?_eq_some_iff.1 hk).1 (row_other rSi hk n1)).trans hk
      have hL3 : LineAt X3 w.heap.size num [] beh := by
        obtain ⟨v', k1, k2⟩ := HLS.out
        exact ⟨v', hK3 _ _ k1 (fun c e => by cases e), k2.keep fun g cs hg => (hK3 _ _ hg (fun c e => by cases e)).trans hg.symm⟩
      have hoT : Only R X3 (X3.setCell ⟨R, 36, none⟩ (.slice va2 (st.ats.length + 1) vc2)) := (Only.refl R X3).set 36 _
      have HE : Hid _ := end_calls w.heap.size num beh _ (LineAt.only hL3 hoT xb)
      have w35 : IntKind.i64.wrap ((st.lines : Int) + 1) = (st.lines : Int) + 1 := wrap64 _ (by omega) (by omega)
      have HX3 : Hid _ := hX3
      have HXB : Hid _ := xb
      clear hX3 HAP hbS d36 d35 d36a e0
      go_wp2_with fail
      refine Calls.mono HE.out ?_
      rintro e X4 ⟨rfl, hX4⟩
      subst hX4
      go_wp2
      go_end0
      rw [← HQ.out]
      have hX3 := HX3.out
      have xb := HXB.out
      have b5 := blk_set hbT 35 (.int .i64 ((st.lines + 1 : Nat) : Int))
      have hoU : Only R X3 ((X3.setCell ⟨R, 36, none⟩ (.slice va2 (st.ats.length + 1) vc2)).setCell ⟨R, 35, none⟩ (.int .i64 ((st.lines : Int) + 1))) := hoT.set 35 _
      rw [rdL_set35 hwf] at b5
      have hKU : ∀ (k : Nat) (o : Obj), w.heap[k]? = some o → (∀ c, o ≠ .cells c 142) → (∀ c, o ≠ .cells c 65) → (∀ c, o ≠ .cells c 3) → ((X3.setCell ⟨R, 36, none⟩ (.slice va2 (st.ats.length + 1) vc2)).setCell ⟨R, 35, none⟩ (.int .i64 ((st.lines : Int) + 1))).heap[k]? = some o := fun k o hk n1 n2 n3 => by
        have k3 := hK3 k o (hKS k o hk n1 n2) n3
        exact (hoU.other k (fun e => by rw [e, xb] at k3; exact n1 _ (Option.some.inj k3).symm)).trans k3
      have hB3 : Below B X2 X3 := ⟨hX3.2.os, hX3.2.tape, hX3.2.output, hX3.2.size, fun k hk => hX3.2.block k (by show k < X2.heap.size; omega) (fun e => by
        have := (World.ownsRow.lt rSi k e.symm).1
        omega)⟩
      have hBU := (hBX.trans hB3).trans (hoU.below hRB)
      refine ⟨rfl, ⟨⟨hwf.rf, hwf.rl, hwf.pf, hwf.pl, hwf.pn, ?_, ?_, ?_⟩, hRB, _, _, b5, ?_, ?_⟩, hBU, fun k o hk hx9 => hKU k o hk ?_ ?_ ?_⟩
      · intro r hr
        rcases List.mem_append.1 hr with hr | hr
        · exact hwf.ru r hr
        · rw [List.mem_singleton.1 hr]
          exact hx
      · show (st.rules ++ [x]).length ≤ st.lines + 1
        simp
        omega
      · show (st.ats ++ [num]).length ≤ st.lines + 1
        simp
        omega
      · refine row_move rS fun g cs hg => ?_
        have g3 := hK3 _ _ hg (fun c e => by cases e)
        exact ((hoU.other g (fun e => by rw [e, xb] at g3; cases g3)).trans g3).trans hg.symm
      · have e9 : (st.ats ++ [num]).length = st.ats.length + 1 := by simp
        have h31 : X3.ownsRow B 3 1 (.slice va2 (st.ats ++ [num]).length vc2) (st.ats ++ [num]).length ((st.ats ++ [num]).map (fun z => Value.int .i64 z)) := hX3.1
        rw [e9] at h31
        show World.ownsRow _ B 3 1 _ (st.ats ++ [num]).length ((st.ats ++ [num]).map (fun z => Value.int .i64 z))
        rw [e9]
        exact row_move h31 fun g cs hg => hoU.other g (fun e => by rw [e, xb] at hg; cases hg)
      all_goals (intro c e; rcases hx9 with ⟨s, p, e2⟩ | ⟨c', e2⟩ <;> (rw [e2] at e; cases e))


end Go.Proofs.YtaebknkjhhcneaaGreatDoor

namespace Go.Proofs.YtaebknkjhhcneaaGreatDoor
open Go Go.RowKit
set_option linter.unusedVariables false
set_option linter.unusedSimpArgs false

theorem rule_ru (l6 : List Int) (n6 : Int) (l4 : List Int) (n4 ea off : Int) (f : Bool) : ruleL (cp6 l6 n6) (cp4 l4 n4) ea off f = rc ⟨l6, n6, l4, n4, ea, off, f⟩ := rfl

theorem mkRu_spec {p6 p4 : Option (List Int × Int)} {e o : Option Nat} {f : Bool} {x : Ru} (h : mkRu p6 p4 e o f = some x) : ∃ a b e' o', p6 = some a ∧ p4 = some b ∧ e = some e' ∧ o = some o' ∧ x = ⟨a.1, a.2, b.1, b.2, (e' : Nat), (o' : Nat), f⟩ := by
  unfold mkRu at h
  split at h
  · rename_i a b e' o'
    exact ⟨a, b, e', o', rfl, rfl, rfl, rfl, (Option.some.inj h).symm⟩
  · cases h

theorem mk_in {a b : List Int × Int} {e o : Nat} {f : Bool} (fa : FitB a.1) (la : a.1.length = 16) (na : 0 ≤ a.2 ∧ a.2 ≤ 128) (fb : FitB b.1) (lb : b.1.length = 4) (nb : 0 ≤ b.2 ∧ b.2 ≤ 32) (he : e < 100) (ho : o < 100) : Ru.In ⟨a.1, a.2, b.1, b.2, (e : Nat), (o : Nat), f⟩ :=
  ⟨fa, la, ⟨by show _ ≤ a.2; omega, by show a.2 ≤ _; omega⟩, fb, lb, ⟨by show _ ≤ b.2; omega, by show b.2 ≤ _; omega⟩, ⟨by show _ ≤ (e : Int); omega, by show (e : Int) ≤ _; omega⟩, ⟨by show _ ≤ (o : Int); omega, by show (o : Int) ≤ _; omega⟩⟩

theorem rule_reads {ws : List (ByteArray × Int)} {x : Ru} (h : ruleOf ws = some x) (num beh : Int) : x.In ∧ ∀ (L : Nat) (W : World), LineAt W L num ws beh → Calls Tryz.prog 126 #[.pointer (some ⟨L, 0, none⟩)] W fun e w' => LinePost (RV x) L num [] beh W e w' := by
  unfold ruleOf at h
  split at h
  · rename_i a0 a1 a2 a3 a4 a5 a6
    split at h
    · rename_i hc
      obtain ⟨p, q, e, o, h6, h4, hea, hof, rfl⟩ := mkRu_spec h
      obtain ⟨f6, l6, _, n6, k6⟩ := px6_spec h6
      obtain ⟨f4, l4, n4, k4⟩ := px4_spec h4
      obtain ⟨e0, e1, e2, e3⟩ := num?_spec hea
      obtain ⟨o0, o1, o2, o3⟩ := num?_spec hof
      obtain ⟨t0, c0⟩ := a0
      obtain ⟨t3, c3⟩ := a3
      obtain ⟨t5, c5⟩ := a5
      obtain ⟨rfl, rfl, rfl⟩ : t0 = wRule ∧ t3 = wEa ∧ t5 = wOff := hc
      exact ⟨mk_in f6 l6 n6 f4 l4 n4 e0 o0, fun L W hL => readRule_bmr L num beh c0 c3 c5 a1 a2 a4 a6 W hL (cp6 p.1 p.2) (cp4 q.1 q.2) (cp6_length _ _ l6) (cp4_length _ _ l4) (cp6_one _ _) (cp4_one _ _) k6 k4 e o e0 o0 e1 e2 e3 o1 o2 o3⟩
    · cases h
  · rename_i a0 a1 a2 a3 a4 a5 a6 a7
    split at h
    · rename_i hc
      obtain ⟨p, q, e, o, h6, h4, hea, hof, rfl⟩ := mkRu_spec h
      obtain ⟨f6, l6, _, n6, k6⟩ := px6_spec h6
      obtain ⟨f4, l4, n4, k4⟩ := px4_spec h4
      obtain ⟨e0, e1, e2, e3⟩ := num?_spec hea
      obtain ⟨o0, o1, o2, o3⟩ := num?_spec hof
      obtain ⟨t0, c0⟩ := a0
      obtain ⟨t3, c3⟩ := a3
      obtain ⟨t5, c5⟩ := a5
      obtain ⟨t7, c7⟩ := a7
      obtain ⟨rfl, rfl, rfl, rfl⟩ : t0 = wRule ∧ t3 = wEa ∧ t5 = wOff ∧ t7 = wFmr := hc
      exact ⟨mk_in f6 l6 n6 f4 l4 n4 e0 o0, fun L W hL => readRule_fmr L num beh c0 c3 c5 c7 a1 a2 a4 a6 W hL (cp6 p.1 p.2) (cp4 q.1 q.2) (cp6_length _ _ l6) (cp4_length _ _ l4) (cp6_one _ _) (cp4_one _ _) k6 k4 e o e0 o0 e1 e2 e3 o1 o2 o3⟩
    · cases h
  · cases h

theorem modeNo_spec {b : ByteArray} {m : Nat} (h : modeNo b = some m) : (m = 1 ∨ m = 2 ∨ m = 3) ∧ b = modeB m := by
  unfold modeNo at h
  split at h
  · rename_i e; cases h; exact ⟨.inl rfl, e⟩
  split at h
  · rename_i e; cases h; exact ⟨.inr (.inl rfl), e⟩
  split at h
  · rename_i e; cases h; exact ⟨.inr (.inr rfl), e⟩
  · cases h

theorem taker (w0 : World) (B R : Nat) (hm0 : Mds w0) (hgB : 0 < B) : Taker w0 B R (RdI B R) takeS where
  keep := fun st w w' h hk => h.keep hk
  take := fun st st' ln v w hI hv hne hf hB hbw => by
    have hmd : Mds w := hm0.keep (hbw.block _ hgB) hbw.size
    unfold takeS at hf
    split at hf
    · rename_i hl
      unfold take0 at hf
      split at hf
      · rename_i a b hw
        rw [hw] at hv
        obtain ⟨a1, a2⟩ := a
        obtain ⟨b1, b2⟩ := b
        split at hf
        · rename_i ha
          obtain ⟨m, hm, rfl⟩ := Option.map_eq_some_iff.1 hf
          obtain rfl : a1 = wMode := ha
          obtain ⟨h3, hb⟩ := modeNo_spec hm
          obtain rfl : b1 = modeB m := hb
          rcases h3 with rfl | rfl | rfl
          · exact take_mode1 st ln.num ln.beh v w hI hB a2 b2 hv hl hmd hgB
          · exact take_mode2 st ln.num ln.beh v w hI hB a2 b2 hv hl hmd hgB
          · exact take_mode3 st ln.num ln.beh v w hI hB a2 b2 hv hl hmd hgB
        · cases hf
      · cases hf
    · split at hf
      · rename_i _ hl
        unfold take1 at hf
        split at hf
        · rename_i a b hw
          rw [hw] at hv
          obtain ⟨a1, a2⟩ := a
          split at hf
          · rename_i hm
            split at hf
            · rename_i ha
              obtain ⟨l, hx, rfl⟩ := Option.map_eq_some_iff.1 hf
              obtain rfl : a1 = wRelay := ha
              exact take_relay st ln.num ln.beh v w hI hB a2 b hv hl hm l hx
            · cases hf
          · rename_i hm
            split at hf
            · rename_i ha
              obtain ⟨p, hx, rfl⟩ := Option.map_eq_some_iff.1 hf
              obtain rfl : a1 = wPrefix := ha
              exact take_prefix st ln.num ln.beh v w hI hB a2 b hv hl hm p hx
            · cases hf
        · cases hf
      · rename_i h0 h1
        split at hf
        · cases hf
        · rename_i h2
          obtain ⟨x, hx, rfl⟩ := Option.map_eq_some_iff.1 hf
          obtain ⟨hin, hrd⟩ := rule_reads hx ln.num ln.beh
          exact take_rule st ln.num ln.beh v ln.words w hI hB hv (by omega) (by omega) x hin hrd

end Go.Proofs.YtaebknkjhhcneaaGreatDoor

namespace Go.Proofs.YtaebknkjhhcneaaGreatDoor
open Go Go.RowKit
set_option linter.unusedVariables false
set_option linter.unusedSimpArgs false

def RdS.dom (st : RdS) : Dom := ⟨st.mode, st.relay, st.pl, st.pn⟩
theorem RdS.In.dom {st : RdS} (h : st.In) (hm : In64 st.mode) : st.dom.In := ⟨h.rf, h.rl, h.pf, h.pl, ⟨by have := h.pn.1; show _ ≤ st.pn; omega, by have := h.pn.2; show st.pn ≤ _; omega⟩, hm⟩
theorem rd_dc (st : RdS) (vr va : Value) : rdL st vr va = dc st.dom vr ++ [.int .i64 (st.lines : Nat), va] := by
  simp [rdL, dc, RdS.dom]

theorem cellsR_length {rs : List Ru} (h : ∀ r ∈ rs, r.In) : (cellsR rs).length = rs.length * 25 := by
  induction rs with
  | nil => rfl
  | cons r rs ih =>
    rw [cellsR, List.length_append, rc_length (h r (by simp)), ih (fun x hx => h x (by simp [hx]))]
    simp
    omega
theorem cellsR_at : ∀ (rs : List Ru), (∀ r ∈ rs, r.In) → ∀ (j : Nat) (r : Ru), rs[j]? = some r → ∀ (i : Nat) (u : Value), (rc r)[i]? = some u → (cellsR rs)[j * 25 + i]? = some u
  | [], _, j, r, h, _, _, _ => by simp at h
  | x :: rs, hin, 0, r, h, i, u, hu => by
    simp only [List.getElem?_cons_zero, Option.some.injEq] at h
    subst h
    rw [cellsR, Nat.zero_mul, Nat.zero_add, List.getElem?_append_left (List.getElem?_eq_some_iff.1 hu).1]
    exact hu
  | x :: rs, hin, j + 1, r, h, i, u, hu => by
    have hl := rc_length (hin x (by simp))
    rw [cellsR, List.getElem?_append_right (by rw [hl]; omega), hl]
    have := cellsR_at rs (fun y hy => hin y (by simp [hy])) j r (by simpa using h) i u hu
    rw [show (j + 1) * 25 + i - 25 = j * 25 + i by omega]
    exact this

theorem RowR.rules {B : Nat} {W : World} {v : Value} {rs : List Ru} (h : RowR B W v rs) (hin : ∀ r ∈ rs, r.In) : RsAt W v rs := by
  rcases h.2 with ⟨rfl, h0⟩ | ⟨g, cap, cur, rfl, hb, hg, hn, hm, hs, ht⟩
  · have : rs = [] := List.length_eq_zero_iff.1 h0
    subst this
    exact ⟨none, 0, rfl, Nat.le_refl _, by decide, fun hne => absurd rfl hne⟩
  · refine ⟨_, cap, rfl, hn, hm, fun _ => ⟨g, 0, rfl, (Array.getElem?_eq_some_iff.1 hg).1, fun j r hj i u hi => ?_⟩⟩
    have hlt := (List.getElem?_eq_some_iff.1 hj).1
    have hi25 := (List.getElem?_eq_some_iff.1 hi).1
    rw [rc_length (hin r (List.mem_of_getElem? hj))] at hi25
    have e := cellsR_at rs hin j r hj i u hi
    rw [← ht, List.getElem?_take, if_pos (by omega)] at e
    simp only [Nat.zero_add, World.cell?, hg]
    simpa using e

theorem sub_store {W : World} {R : Nat} {st : RdS} {vr va : Value} (h : st.In) (hm : In64 st.mode) (hb : W.heap[R]? = some (.cells (rdL st vr va).toArray 142)) : (Instr.loadAt 29 (.pointer (some ⟨R, 0, none⟩))).run Tryz.prog W = .ok (DV st.dom vr) W := by
  have h0 := CellsAt.blk hb
  rw [rd_dc] at h0
  exact agg_load (n := 35) (fun w => by kernel_rfl) (fun w => by kernel_rfl) (dc_length (h.dom hm) vr) (CellsAt.fst h0)

abbrev zeroDL : List Value := [.int .i64 0, .int .u8 0, .int .u8 0, .int .u8 0, .int .u8 0, .int .u8 0, .int .u8 0, .int .u8 0, .int .u8 0, .int .u8 0, .int .u8 0, .int .u8 0, .int .u8 0, .int .u8 0, .int .u8 0, .int .u8 0, .int .u8 0, .int .u8 0, .int .u8 0, .int .u8 0, .int .u8 0, .int .u8 0, .int .u8 0, .int .u8 0, .int .u8 0, .int .u8 0, .int .u8 0, .int .u8 0, .int .u8 0, .int .u8 0, .int .u8 0, .int .u8 0, .int .u8 0, .int .i64 0, .slice none 0 0]
theorem rd_new : rdL RdS.new (.slice none 0 0) (.slice none 0 0) = zeroDL ++ [Value.int .i64 0, Value.slice none 0 0] := rfl

set_option maxRecDepth 100000 in
set_option maxHeartbeats 4000000 in
theorem read_one (s : ByteArray) (hs : s.size ≤ 1048576) (st : RdS) (r : Ru) (hf : (linesOf s).foldlM takeS RdS.new = some st) (hr1 : st.rules = [r]) (hm : st.mode = 1) (hl : 2 ≤ st.lines) (hok : relayOk st.dom [r]) (hc : ckE r = 0) (w : World) (hmd : Mds w) :
    Calls Tryz.prog 43 #[.string s] w fun e w' => ∃ v, e = .returned (DV st.dom v) ∧ RsAt w' v [r] ∧ Below w.heap.size w w' ∧ st.dom.In ∧ r.In ∧ ∀ a n c, v = .slice (some a) n c → w.heap.size ≤ a.block := by
  generalize hQ : (fun (e : Ending) (w' : World) => ∃ v, e = .returned (DV st.dom v) ∧ RsAt w' v [r] ∧ Below w.heap.size w w' ∧ st.dom.In ∧ r.In ∧ ∀ a n c, v = .slice (some a) n c → w.heap.size ≤ a.block) = Q
  have HQ : Hid _ := hQ
  clear hQ
  have hB0 : Below w.heap.size w ((w.alloc (.cells zeroDL.toArray 29)).alloc (.cells (zeroDL ++ [Value.int .i64 0, Value.slice none 0 0]).toArray 142)) := ((Below.refl _ w).alloc (Nat.le_refl _) _).alloc (by simp) _
  have hz0 : ((w.alloc (.cells zeroDL.toArray 29)).alloc (.cells (zeroDL ++ [Value.int .i64 0, Value.slice none 0 0]).toArray 142)).heap[w.heap.size]? = some (.cells zeroDL.toArray 29) := blk_alloc (blk_new w _) _
  have hr0 : ((w.alloc (.cells zeroDL.toArray 29)).alloc (.cells (zeroDL ++ [Value.int .i64 0, Value.slice none 0 0]).toArray 142)).heap[w.heap.size + 1]? = some (.cells (rdL RdS.new (.slice none 0 0) (.slice none 0 0)).toArray 142) := by
    have := blk_new (w.alloc (.cells zeroDL.toArray 29)) (.cells (zeroDL ++ [Value.int .i64 0, Value.slice none 0 0]).toArray 142)
    rwa [show (w.alloc (.cells zeroDL.toArray 29)).heap.size = w.heap.size + 1 by simp] at this
  generalize hW0 : (w.alloc (.cells zeroDL.toArray 29)).alloc (.cells (zeroDL ++ [Value.int .i64 0, Value.slice none 0 0]).toArray 142) = W0 at *
  have hI0 : RdI (w.heap.size + 1) (w.heap.size + 1) RdS.new W0 := ⟨⟨fun z hz => by rw [(List.mem_replicate.1 hz).2]; decide, rfl, fun z hz => by rw [(List.mem_replicate.1 hz).2]; decide, rfl, ⟨by decide, by decide⟩, (by intro r hr; cases hr), Nat.le_refl _, Nat.le_refl _⟩, Nat.le_refl _, _, _, hr0, ⟨rfl, .inl ⟨rfl, rfl⟩⟩, ⟨rfl, .inl ⟨rfl, rfl⟩⟩⟩
  have lW0 : w.heap.size + 1 < W0.heap.size := (Array.getElem?_eq_some_iff.1 hr0).1
  have HE : Hid _ := eachLine_calls (taker W0 (w.heap.size + 1) (w.heap.size + 1) (hmd.below hB0) (by omega)) s hs RdS.new st hI0 (by omega) hf
  have hW0' : (w.alloc (.cells #[.int .i64 0, .int .u8 0, .int .u8 0, .int .u8 0, .int .u8 0, .int .u8 0, .int .u8 0, .int .u8 0, .int .u8 0, .int .u8 0, .int .u8 0, .int .u8 0, .int .u8 0, .int .u8 0, .int .u8 0, .int .u8 0, .int .u8 0, .int .u8 0, .int .u8 0, .int .u8 0, .int .u8 0, .int .u8 0, .int .u8 0, .int .u8 0, .int .u8 0, .int .u8 0, .int .u8 0, .int .u8 0, .int .u8 0, .int .u8 0, .int .u8 0, .int .u8 0, .int .u8 0, .int .i64 0, .slice none 0 0] 29)).alloc (.cells #[.int .i64 0, .int .u8 0, .int .u8 0, .int .u8 0, .int .u8 0, .int .u8 0, .int .u8 0, .int .u8 0, .int .u8 0, .int .u8 0, .int .u8 0, .int .u8 0, .int .u8 0, .int .u8 0, .int .u8 0, .int .u8 0, .int .u8 0, .int .u8 0, .int .u8 0, .int .u8 0, .int .u8 0, .int .u8 0, .int .u8 0, .int .u8 0, .int .u8 0, .int .u8 0, .int .u8 0, .int .u8 0, .int .u8 0, .int .u8 0, .int .u8 0, .int .u8 0, .int .u8 0, .int .i64 0, .slice none 0 0, .int .i64 0, .slice none 0 0] 142) = W0 := hW0
  have q0 : decide ((1048576 : Int) < s.size) = false := decide_eq_false (by omega)
  clear hI0 hr0 hf hW0
  go_enter Tryz.func43, Tryz.ntmps43
  go_wp2_with fail
  refine Calls.mono HE.out ?_
  rintro _ w1 ⟨rfl, hI1, hB1⟩
  obtain ⟨vr, va, hb1, k1, k2⟩ := hI1.box
  have hin := hI1.wf
  have hmode : In64 st.mode := by rw [hm]; exact ⟨by decide, by decide⟩
  have hdin := hin.dom hmode
  have hrin : r.In := hin.ru r (by rw [hr1]; simp)
  rw [hr1] at k1
  have hrs : RsAt w1 vr [r] := RowR.rules k1 (fun x hx => by rw [List.mem_singleton.1 hx]; exact hrin)
  have hz1 := (hB1.block w.heap.size (by omega)).trans hz0
  have hBw1 : Below w.heap.size w w1 := hB0.trans (hB1.mono (by omega))
  obtain ⟨_, _, g35, _⟩ := rdL_get hin vr va
  have c35 := blk_cell hb1 g35
  have HL1 : Hid _ := sub_store hin hmode hb1
  have HCK : Hid _ := Check_one st.dom hdin r hrin vr w1 hrs hm hok hc
  have q1 : decide ((st.lines : Int) < 2) = false := decide_eq_false (by omega)
  have HRS : Hid _ := hrs
  have HK1 : Hid _ := k1
  clear HE hok hc hW0' hI1 k1 k2
  go_wp2_with first
    | ((with_reducible show wpList _ _ _ _ _ _); refine armLv (.tmp 20) 29 rfl rfl rfl HL1.out ?_)
  refine Calls.mono HCK.out ?_
  rintro _ w2 ⟨rfl, hB2⟩
  have hb2 := (hB2.block _ (Array.getElem?_eq_some_iff.1 hb1).1).trans hb1
  have hz2 := (hB2.block _ (Array.getElem?_eq_some_iff.1 hz1).1).trans hz1
  have HL2 : Hid _ := sub_store hin hmode hb2
  have hvo : vr.oneCell' = true := by
    obtain ⟨a, c, e⟩ := rowS_form HK1.out
    rw [e]
    rfl
  obtain ⟨w3, hst3, hb3, ho3⟩ := box_store (ty := 29) (n := 35) (fun w => by kernel_rfl) hz2 rfl (dc st.dom vr) (dc_length hdin vr) (dc_one st.dom hvo)
  have HST : Hid _ := hst3
  have HRES : Hid _ := agg_loadVar (t := 29) (n := 35) (fun w => by kernel_rfl) (fun w => by kernel_rfl) (dc_length hdin vr) (CellsAt.blk hb3)
  have hB3 : Below w.heap.size w w3 := (hBw1.trans (hB2.mono hBw1.size)).trans (ho3.below (Nat.le_refl _))
  have hrs3 : RsAt w3 vr [r] := by
    have h2 := RsAt.below HRS.out hB2
    obtain ⟨ad, cap, e, j1, j2, j3⟩ := h2
    refine ⟨ad, cap, e, j1, j2, fun hne => ?_⟩
    obtain ⟨g, off, e1, hg, hcl⟩ := j3 hne
    have hgr : g ≠ w.heap.size := fun e9 => by
      rcases HK1.out.2 with ⟨e5, h5⟩ | ⟨g5, cap5, cur5, e5, h5, h6, _⟩
      · simp at h5
      · rw [e5, e1] at e
        cases e
        omega
    exact ⟨g, off, e1, Nat.lt_of_lt_of_le hg (Nat.le_of_eq ho3.size.symm), fun j x hj i u hi => (World.cell?_of_block (a := ⟨g, _, none⟩) (ho3.other g hgr)).trans (hcl j x hj i u hi)⟩
  clear hst3 HCK HL1 c35 hz2 hb2 hz1
  go_wp2_with first
    | ((with_reducible show wpList _ _ _ _ _ _); refine armLv (.tmp 28) 29 rfl rfl rfl HL2.out ?_)
    | ((with_reducible show wpList _ _ _ _ _ _); refine armS (.tmp 2) (.tmp 29) 29 rfl rfl rfl rfl HST.out ?_)
  refine bodyPost_ret (res1c Tryz.results43 (R := ⟨w.heap.size, 0, none⟩) rfl HRES.out) rfl ?_
  rw [← HQ.out]
  refine ⟨vr, rfl, hrs3, hB3, hdin, hrin, fun a n c e => ?_⟩
  rcases HK1.out.2 with ⟨e5, h5⟩ | ⟨g5, cap5, cur5, e5, h5, h6, _⟩
  · simp at h5
  · rw [e5] at e
    cases e
    show w.heap.size ≤ g5
    omega

end Go.Proofs.YtaebknkjhhcneaaGreatDoor
