/-
  All of a cache; begin, Get, Drop, All of the document's.
-/
import Derived.Test.YtgndiblonhgihaaPpE
namespace Go.Proofs.Ytgndiblonhgihaa
open Go Go.RowKit Go.Lib
set_option linter.unusedVariables false
set_option linter.unusedSimpArgs false

set_option maxHeartbeats 8000000 in
set_option maxRecDepth 100000 in
theorem all_yes {V : World} {p pb mb : Nat} {cf : Cf} {now : Int} {line : Value} {L : List (PE × Nat)} (hb : Box V p pb) (h : Keeps pb cf now mb line L V) (hs : SortE L) (hl : L.length ≤ 100000) {t : Int} (ht : okT now t) :
    Calls Try.prog 17 #[.pointer (some ⟨p, 0, none⟩), .int .i64 t] V fun e w' => ∃ v S, e = .returned (.tuple #[v, .int .i64 0]) ∧ (S.Perm ((live L t).map (·.1)) ∧ S.Pairwise ltA ∧ SrcE w' v S) ∧ Box w' p pb ∧ ∃ line', Keeps pb cf t mb line' (live L t) w' ∧ line'.ownBlock = line.ownBlock ∧ Fr pb mb line V w' := by
  have HC : Hid _ := check_yes hb h.p ht
  have HG : Hid _ := goOn_any h hs (Nat.le_trans hl (by decide)) t
  have HBX : Hid (Box V p pb ∧ p ≠ pb ∧ p ≠ mb ∧ line.ownBlock ≠ some p) := ⟨hb, h.bx hb⟩
  have HSZ : Hid (L.length ≤ 100000) := hl
  have c0 : V.cell? ⟨p, 0, none⟩ = some (.pointer (some ⟨pb, 0, none⟩)) := blk_cell (j := 0) hb rfl
  clear hb h hs hl ht
  go_enter Try.func17, Try.ntmps17
  go_wp2_with fail
  refine Calls.mono HC.out ?_
  rintro e w1 ⟨rfl, rfl⟩
  go_wp2_with fail
  refine Calls.mono HG.out ?_
  rintro e w2 ⟨rfl, line2, k2, l2, f2⟩
  have hbx2 : Box w2 p pb := HBX.out.1.on (f2.other p HBX.out.1.lt HBX.out.2.1 HBX.out.2.2.1 HBX.out.2.2.2)
  have c2 : w2.cell? ⟨p, 0, none⟩ = some (.pointer (some ⟨pb, 0, none⟩)) := blk_cell (j := 0) hbx2 rfl
  have HA : Hid _ := all_any k2 (Nat.le_trans (live_len L t) HSZ.out)
  have HX : Hid (Box w2 p pb ∧ Keeps pb cf t mb line2 (live L t) w2 ∧ line2.ownBlock = line.ownBlock ∧ Fr pb mb line w1 w2) := ⟨hbx2, k2, l2, f2⟩
  clear k2 l2 f2 hbx2 HC HG c0
  go_wp2_with fail
  refine Calls.mono HA.out ?_
  rintro e w3 ⟨v, rfl, S, p1, p2, p3, hb3⟩
  have HF : Hid ((S.Perm ((live L t).map (·.1)) ∧ S.Pairwise ltA ∧ SrcE w3 v S) ∧ Box w3 p pb ∧ ∃ line', Keeps pb cf t mb line' (live L t) w3 ∧ line'.ownBlock = line.ownBlock ∧ Fr pb mb line w1 w3) := ⟨⟨p1, p2, p3⟩, HX.out.1.on (hb3.block _ HX.out.1.lt), line2, HX.out.2.1.on hb3, HX.out.2.2.1, HX.out.2.2.2.trans (Fr.below hb3) HX.out.2.2.1⟩
  clear p1 p2 p3 hb3 HA HX c2
  go_wp2_with fail
  try go_returns
  exact ⟨v, S, rfl, HF.out⟩
theorem Cch.all {B : Nat} {W0 V : World} {p pb mb : Nat} {cf : Cf} {now : Int} {L : List (PE × Nat)} (h : Cch B W0 V p pb mb cf now L) (hl : L.length ≤ 100000) {t : Int} (ht : okT now t) :
    Calls Try.prog 17 #[.pointer (some ⟨p, 0, none⟩), .int .i64 t] V fun e w' => ∃ v S, e = .returned (.tuple #[v, .int .i64 0]) ∧ (S.Perm ((live L t).map (·.1)) ∧ S.Pairwise ltA ∧ SrcE w' v S) ∧ Cch B W0 w' p pb mb cf t (live L t) ∧ TF V w' := by
  obtain ⟨line, hk, hlb⟩ := h.k
  refine (all_yes h.bx hk h.st hl ht).mono ?_
  rintro e w' ⟨v, S, rfl, hS, hx, line', k', lb', f⟩
  exact ⟨v, S, rfl, hS, ⟨hx, ⟨line', k', by rw [lb']; exact hlb⟩, h.st.live t, h.lo, f.low h.lo.2.1 h.lo.2.2 hlb h.bl h.le, h.le⟩, f.tf hk⟩
/-- The document's time goes on. -/
theorem Doc.time {rb : Nat} {cf : Cf} {now : Int} {D : List PE} {v : Value} {W : World} (h : Doc rb cf now D v W) (t : Int) : Doc rb cf t D v (W.setCell ⟨rb, 4, none⟩ (.int .i64 t)) ∧ FrD rb W (W.setCell ⟨rb, 4, none⟩ (.int .i64 t)) := by
  have on : Only rb W (W.setCell ⟨rb, 4, none⟩ (.int .i64 t)) := (Only.refl rb W).set 4 _
  have hb := blk_set h.box 4 (.int .i64 t)
  exact ⟨⟨hb, own_same h.row (fun q hq => on.other q (by have := (own_ltE h.row hq).1; omega)), h.ok⟩, ⟨on.os, on.tape, on.output, by rw [on.size]; exact Nat.le_refl _, fun j _ hn => on.other j hn⟩⟩
set_option maxHeartbeats 4000000 in
theorem RBegin {W : World} {rb : Nat} {cf : Cf} {now : Int} {D : List PE} {v : Value} (h : Doc rb cf now D v W) (hlen : D.length ≤ 100000) {t : Int} (ht : okT now t) :
    Calls Try.prog 30 #[.pointer (some ⟨rb, 0, none⟩), .int .i64 t] W fun e w' => e = .returned (.int .i64 0) ∧ (∃ u, Doc rb cf t (liveD D t) u w') ∧ FrD rb W w' := by
  have c4 : W.cell? ⟨rb, 4, none⟩ = some (.int .i64 now) := blk_cell (j := 4) h.box rfl
  have HT : Hid _ := RTidy h hlen t
  have q1 : decide (t < now) = false := decide_eq_false (by have := ht.1; omega)
  have q2 : decide (t > 1099511627776) = false := decide_eq_false (by have := ht.2; omega)
  have q3 : decide (1099511627776 < t) = false := decide_eq_false (by have := ht.2; omega)
  clear h ht
  go_enter Try.func30, Try.ntmps30
  go_wp2_with fail
  refine Calls.mono HT.out ?_
  rintro e w1 ⟨rfl, ⟨u, hd⟩, f1⟩
  have c4' : w1.cell? ⟨rb, 4, none⟩ = some (.int .i64 now) := blk_cell (j := 4) hd.box rfl
  have hfz := blk_open hd.box 4
  obtain ⟨hd2, f2⟩ := hd.time t
  have HF : Hid ((∃ u, Doc rb cf t (liveD D t) u (w1.setCell ⟨rb, 4, none⟩ (.int .i64 t))) ∧ FrD rb W (w1.setCell ⟨rb, 4, none⟩ (.int .i64 t))) := ⟨⟨u, hd2⟩, f1.trans f2⟩
  clear hd f1 hd2 f2 HT c4
  go_wp2
  try go_returns
  exact ⟨rfl, HF.out⟩
set_option maxHeartbeats 4000000 in
theorem RBegin_late {W : World} {rb : Nat} {cf : Cf} {now : Int} {D : List PE} {v : Value} (h : Doc rb cf now D v W) {t : Int} (ht : ¬ okT now t) :
    Calls Try.prog 30 #[.pointer (some ⟨rb, 0, none⟩), .int .i64 t] W fun e w' => e = .returned (.int .i64 153) ∧ w' = W := by
  have c4 : W.cell? ⟨rb, 4, none⟩ = some (.int .i64 now) := blk_cell (j := 4) h.box rfl
  clear h
  by_cases c : t < now
  · have q1 : decide (t < now) = true := decide_eq_true c
    clear ht
    go_enter Try.func30, Try.ntmps30
    go_wp2_with fail
    try go_returns
    exact ⟨rfl, rfl⟩
  · have q1 : decide (t < now) = false := decide_eq_false c
    have d : t > 1099511627776 := by unfold okT at ht; omega
    have q2 : decide (t > 1099511627776) = true := decide_eq_true d
    have q3 : decide (1099511627776 < t) = true := decide_eq_true d
    clear ht
    go_enter Try.func30, Try.ntmps30
    go_wp2_with fail
    try go_returns
    exact ⟨rfl, rfl⟩
set_option maxHeartbeats 4000000 in
theorem RGet_late {W : World} {rb : Nat} {cf : Cf} {now : Int} {D : List PE} {v : Value} (h : Doc rb cf now D v W) {t : Int} (ht : ¬ okT now t) (d : List Int) :
    Calls Try.prog 14 #[.pointer (some ⟨rb, 0, none⟩), .int .i64 t, .agg (u8s d).toArray] W fun e w' => e = .returned (.tuple #[.int .i64 0, .int .i64 153]) ∧ Below W.heap.size W w' := by
  obtain ⟨W0, hW0⟩ : ∃ W0, W0 = W.alloc (.cells (u8s d).toArray 35) := ⟨_, rfl⟩
  have hB0 : Below W.heap.size W W0 := by rw [hW0]; exact (Below.refl W.heap.size W).alloc (Nat.le_refl _) _
  have hx0 : W0.heap[W.heap.size]? = some (.cells (u8s d).toArray 35) := by rw [hW0]; exact blk_new W _
  have HLT : Hid (rb < W.heap.size ∧ W.heap.size < W0.heap.size) := ⟨h.lt, (Array.getElem?_eq_some_iff.1 hx0).1⟩
  have HX0 : Hid (W0.heap[W.heap.size]? = some (.cells (u8s d).toArray 35)) := hx0
  have HB0 : Hid (Below W.heap.size W W0) := hB0
  have HBL : Hid _ := RBegin_late (h.on hB0) ht
  have hW := hW0.symm
  clear hW0 hB0 hx0 h ht
  go_enter Try.func14, Try.ntmps14
  go_wp2_with fail
  refine Calls.mono HBL.out ?_
  rintro e w1 ⟨rfl, rfl⟩
  go_wp2_with fail
  try go_returns
  exact ⟨rfl, HB0.out⟩
set_option maxHeartbeats 4000000 in
theorem RDrop_late {W : World} {rb : Nat} {cf : Cf} {now : Int} {D : List PE} {v : Value} (h : Doc rb cf now D v W) {t : Int} (ht : ¬ okT now t) (d : List Int) :
    Calls Try.prog 22 #[.pointer (some ⟨rb, 0, none⟩), .int .i64 t, .agg (u8s d).toArray] W fun e w' => e = .returned (.tuple #[.bool false, .int .i64 153]) ∧ Below W.heap.size W w' := by
  obtain ⟨W0, hW0⟩ : ∃ W0, W0 = W.alloc (.cells (u8s d).toArray 35) := ⟨_, rfl⟩
  have hB0 : Below W.heap.size W W0 := by rw [hW0]; exact (Below.refl W.heap.size W).alloc (Nat.le_refl _) _
  have hx0 : W0.heap[W.heap.size]? = some (.cells (u8s d).toArray 35) := by rw [hW0]; exact blk_new W _
  have HLT : Hid (rb < W.heap.size ∧ W.heap.size < W0.heap.size) := ⟨h.lt, (Array.getElem?_eq_some_iff.1 hx0).1⟩
  have HX0 : Hid (W0.heap[W.heap.size]? = some (.cells (u8s d).toArray 35)) := hx0
  have HB0 : Hid (Below W.heap.size W W0) := hB0
  have HBL : Hid _ := RBegin_late (h.on hB0) ht
  have hW := hW0.symm
  clear hW0 hB0 hx0 h ht
  go_enter Try.func22, Try.ntmps22
  go_wp2_with fail
  refine Calls.mono HBL.out ?_
  rintro e w1 ⟨rfl, rfl⟩
  go_wp2_with fail
  try go_returns
  exact ⟨rfl, HB0.out⟩
set_option maxHeartbeats 4000000 in
theorem RAll_late {W : World} {rb : Nat} {cf : Cf} {now : Int} {D : List PE} {v : Value} (h : Doc rb cf now D v W) {t : Int} (ht : ¬ okT now t) :
    Calls Try.prog 23 #[.pointer (some ⟨rb, 0, none⟩), .int .i64 t] W fun e w' => e = .returned (.tuple #[.slice none 0 0, .int .i64 153]) ∧ Below W.heap.size W w' := by
  have HBL : Hid _ := RBegin_late h ht
  have HB0 : Hid (Below W.heap.size W W) := Below.refl _ _
  clear h ht
  go_enter Try.func23, Try.ntmps23
  go_wp2_with fail
  refine Calls.mono HBL.out ?_
  rintro e w1 ⟨rfl, rfl⟩
  go_wp2_with fail
  try go_returns
  exact ⟨rfl, HB0.out⟩
set_option maxHeartbeats 4000000 in
theorem RGet {W : World} {rb : Nat} {cf : Cf} {now : Int} {D : List PE} {v : Value} (h : Doc rb cf now D v W) (hlen : D.length ≤ 100000) {t : Int} (ht : okT now t) {d : List Int} (hd : K16 d) :
    Calls Try.prog 14 #[.pointer (some ⟨rb, 0, none⟩), .int .i64 t, .agg (u8s d).toArray] W fun e w' => ∃ m, e = .returned (.tuple #[.int .i64 m, .int .i64 0]) ∧ MtuP (liveD D t) d cf.link m ∧ (∃ u, Doc rb cf t (liveD D t) u w') ∧ FrD rb W w' := by
  obtain ⟨W0, hW0⟩ : ∃ W0, W0 = W.alloc (.cells (u8s d).toArray 35) := ⟨_, rfl⟩
  have hB0 : Below W.heap.size W W0 := by rw [hW0]; exact (Below.refl W.heap.size W).alloc (Nat.le_refl _) _
  have hx0 : W0.heap[W.heap.size]? = some (.cells (u8s d).toArray 35) := by rw [hW0]; exact blk_new W _
  have HLT : Hid (rb < W.heap.size ∧ W.heap.size < W0.heap.size) := ⟨h.lt, (Array.getElem?_eq_some_iff.1 hx0).1⟩
  have HX0 : Hid (W0.heap[W.heap.size]? = some (.cells (u8s d).toArray 35)) := hx0
  have HB0 : Hid (Below W.heap.size W W0) := hB0
  have HBG : Hid _ := RBegin (h.on hB0) hlen ht
  have HK : Hid (K16 d ∧ D.length ≤ 100000) := ⟨hd, hlen⟩
  have hW := hW0.symm
  clear hW0 hB0 hx0 h ht hd hlen
  go_enter Try.func14, Try.ntmps14
  go_wp2_with fail
  refine Calls.mono HBG.out ?_
  rintro e w1 ⟨rfl, ⟨u, hd1⟩, f1⟩
  have hx1 : w1.heap[W.heap.size]? = some (.cells (u8s d).toArray 35) := (f1.other _ HLT.out.2 (by have := HLT.out; omega)).trans HX0.out
  have HL1 : Hid _ := at_A HK.out.1.len hx1
  have HM : Hid _ := RMtu hd1 (Nat.le_trans (liveD_len D t) HK.out.2) HK.out.1
  have HF1 : Hid (Doc rb cf t (liveD D t) u w1 ∧ FrD rb W w1) := ⟨hd1, (FrD.below HB0.out).trans f1⟩
  clear hd1 f1 hx1 HBG hW
  go_wp2_with first
    | ((with_reducible show wpList _ _ _ ({ dst := _, op := Op.load 35 (Operand.tmp 5), type := _, pos := _, after := _, guard := _ } :: _) _ _); refine armL (.tmp 5) 35 rfl rfl rfl HL1.out ?_)
  refine Calls.mono HM.out ?_
  rintro e w2 ⟨m, rfl, hm, hb2⟩
  have HF2 : Hid (MtuP (liveD D t) d cf.link m ∧ (∃ u, Doc rb cf t (liveD D t) u w2) ∧ FrD rb W w2) := ⟨hm, ⟨u, HF1.out.1.on hb2⟩, HF1.out.2.trans (FrD.below hb2)⟩
  clear hm hb2 HM HL1
  go_wp2_with fail
  try go_returns
  exact ⟨m, rfl, HF2.out⟩
/-- What a drop does. -/
def DropP (D : List PE) (d : List Int) (b : Bool) (D' : List PE) : Prop := (∃ (i : Nat) (x : PE), D[i]? = some x ∧ x.k = d ∧ b = true ∧ D' = woD D i) ∨ ((∀ x ∈ D, x.k ≠ d) ∧ b = false ∧ D' = D)
set_option maxHeartbeats 8000000 in
theorem RDrop {W : World} {rb : Nat} {cf : Cf} {now : Int} {D : List PE} {v : Value} (h : Doc rb cf now D v W) (hlen : D.length ≤ 100000) {t : Int} (ht : okT now t) {d : List Int} (hd : K16 d) :
    Calls Try.prog 22 #[.pointer (some ⟨rb, 0, none⟩), .int .i64 t, .agg (u8s d).toArray] W fun e w' => ∃ b D', e = .returned (.tuple #[.bool b, .int .i64 0]) ∧ DropP (liveD D t) d b D' ∧ (∃ u, Doc rb cf t D' u w') ∧ FrD rb W w' := by
  obtain ⟨W0, hW0⟩ : ∃ W0, W0 = W.alloc (.cells (u8s d).toArray 35) := ⟨_, rfl⟩
  have hB0 : Below W.heap.size W W0 := by rw [hW0]; exact (Below.refl W.heap.size W).alloc (Nat.le_refl _) _
  have hx0 : W0.heap[W.heap.size]? = some (.cells (u8s d).toArray 35) := by rw [hW0]; exact blk_new W _
  have HLT : Hid (rb < W.heap.size ∧ W.heap.size < W0.heap.size) := ⟨h.lt, (Array.getElem?_eq_some_iff.1 hx0).1⟩
  have HX0 : Hid (W0.heap[W.heap.size]? = some (.cells (u8s d).toArray 35)) := hx0
  have HB0 : Hid (Below W.heap.size W W0) := hB0
  have HBG : Hid _ := RBegin (h.on hB0) hlen ht
  have HK : Hid (K16 d ∧ D.length ≤ 100000) := ⟨hd, hlen⟩
  have hW := hW0.symm
  clear hW0 hB0 hx0 h ht hd hlen
  go_enter Try.func22, Try.ntmps22
  go_wp2_with fail
  refine Calls.mono HBG.out ?_
  rintro e w1 ⟨rfl, ⟨u, hd1⟩, f1⟩
  have hx1 : w1.heap[W.heap.size]? = some (.cells (u8s d).toArray 35) := (f1.other _ HLT.out.2 (by have := HLT.out; omega)).trans HX0.out
  have HL1 : Hid _ := at_A HK.out.1.len hx1
  have HM : Hid _ := RAt hd1 (Nat.le_trans (liveD_len D t) HK.out.2) HK.out.1
  have HF1 : Hid (Doc rb cf t (liveD D t) u w1 ∧ FrD rb W w1) := ⟨hd1, (FrD.below HB0.out).trans f1⟩
  clear hd1 f1 hx1 HBG hW
  go_wp2_with first
    | ((with_reducible show wpList _ _ _ ({ dst := _, op := Op.load 35 (Operand.tmp 5), type := _, pos := _, after := _, guard := _ } :: _) _ _); refine armL (.tmp 5) 35 rfl rfl rfl HL1.out ?_)
  refine Calls.mono HM.out ?_
  rintro e w2 ⟨r, rfl, hp, hb2⟩
  have hd2 := HF1.out.1.on hb2
  have f2 := HF1.out.2.trans (FrD.below hb2)
  rcases hp with ⟨i, x, rfl, hi, hk⟩ | ⟨rfl, hno⟩
  · have q1 : decide ((i : Int) < 0) = false := decide_eq_false (by omega)
    have HW : Hid _ := RWithout hd2 (Nat.le_trans (liveD_len D t) HK.out.2) i
    have HI : Hid ((liveD D t)[i]? = some x ∧ x.k = d) := ⟨hi, hk⟩
    have HF2 : Hid (FrD rb W w2) := f2
    clear hi hk hd2 f2 hb2 HM HL1
    go_wp2_with fail
    refine Calls.mono HW.out ?_
    rintro e w3 ⟨rfl, hd3, f3⟩
    have HF3 : Hid (DropP (liveD D t) d true (woD (liveD D t) i) ∧ (∃ u, Doc rb cf t (woD (liveD D t) i) u w3) ∧ FrD rb W w3) := ⟨.inl ⟨i, x, HI.out.1, HI.out.2, rfl, rfl⟩, hd3, HF2.out.trans f3⟩
    clear hd3 f3 HW
    go_wp2_with fail
    try go_returns
    exact ⟨true, _, rfl, HF3.out⟩
  · have HF3 : Hid (DropP (liveD D t) d false (liveD D t) ∧ (∃ u, Doc rb cf t (liveD D t) u w2) ∧ FrD rb W w2) := ⟨.inr ⟨hno, rfl, rfl⟩, ⟨u, hd2⟩, f2⟩
    clear hno hd2 f2 hb2 HM HL1
    go_wp2_with fail
    try go_returns
    exact ⟨false, _, rfl, HF3.out⟩
theorem srcE_own {W : World} {base : Nat} {v : Value} {l : List PE} (h : W.ownsRow base 72 18 v l.length (l.flatMap eE)) : SrcE W v l := by
  rcases id h.2 with ⟨e, h0⟩ | ⟨g, c, cur, rfl, _⟩
  · exact .inl ⟨e, List.length_eq_zero_iff.1 h0⟩
  · exact .inr ⟨_, c, rfl, fun j u hj => h.cells (g := g) rfl j u hj⟩
theorem own_emp (W : World) : (W.alloc (.cells #[] 72)).ownsRow W.heap.size 72 18 (.slice (some ⟨W.heap.size, 0, none⟩) 0 0) ([] : List PE).length (([] : List PE).flatMap eE) :=
  ⟨by simp, .inr ⟨W.heap.size, 0, #[], rfl, Nat.le_refl _, blk_new W _, Nat.le_refl _, by decide, by simp, by simp⟩⟩
set_option maxHeartbeats 8000000 in
theorem RAll {W : World} {rb : Nat} {cf : Cf} {now : Int} {D : List PE} {v : Value} (h : Doc rb cf now D v W) (hlen : D.length ≤ 100000) {t : Int} (ht : okT now t) :
    Calls Try.prog 23 #[.pointer (some ⟨rb, 0, none⟩), .int .i64 t] W fun e w' => ∃ v, e = .returned (.tuple #[v, .int .i64 0]) ∧ SrcE w' v (liveD D t) ∧ (∃ u, Doc rb cf t (liveD D t) u w') ∧ FrD rb W w' := by
  have HBG : Hid _ := RBegin h hlen ht
  have HK : Hid (D.length ≤ 100000) := hlen
  clear h ht hlen
  go_enter Try.func23, Try.ntmps23
  go_wp2_with fail
  refine Calls.mono HBG.out ?_
  rintro e w1 ⟨rfl, ⟨u, hd1⟩, f1⟩
  obtain ⟨W4, hW4⟩ : ∃ W4, W4 = w1.alloc (.cells #[] 72) := ⟨_, rfl⟩
  have hB4 : Below w1.heap.size w1 W4 := by rw [hW4]; exact (Below.refl w1.heap.size w1).alloc (Nat.le_refl _) _
  have hd4 := hd1.on hB4
  have ho4 := own_emp w1
  rw [← hW4] at ho4
  obtain ⟨v', W', hap, hown, hbl⟩ := appE ho4 hB4.size (by have := liveD_len D t; have := HK.out; simp; omega) (srcE_own hd4.row) 43
  have c5 : W4.cell? ⟨rb, 5, none⟩ = some u := blk_cell (j := 5) hd4.box rfl
  obtain ⟨ua, uc, huv⟩ := own_slc hd4.row
  subst huv
  have HAP : Hid _ := hap
  have hbw : Below w1.heap.size w1 W' := hB4.trans hbl
  rw [List.nil_append] at hown
  have HF : Hid (SrcE W' v' (liveD D t) ∧ (∃ u, Doc rb cf t (liveD D t) u W') ∧ FrD rb W W') := ⟨srcE_own hown, ⟨_, hd1.on hbw⟩, f1.trans (FrD.below hbw)⟩
  have e4 := hW4.symm
  clear hd1 f1 hB4 hd4 ho4 hap hown hbl hbw hW4 HBG
  go_wp2_with first
    | ((with_reducible show wpList _ _ _ ({ dst := _, op := Op.call { callee := Callee.builtin Builtin.append, args := #[(Operand.tmp 13), (Operand.tmp 17)], argTypes := #[43, 43] }, type := _, pos := _, after := _, guard := _ } :: _) _ _); refine arm_apE (.tmp 13) (.tmp 17) 43 rfl rfl rfl rfl HAP.out ?_)
  try go_returns
  exact ⟨v', rfl, HF.out⟩
end Go.Proofs.Ytgndiblonhgihaa
