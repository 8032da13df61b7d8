/-
  Edge of the document.
  Two edges that are the same; the statement MappingEdges for every argument.
  What edges own, plainly; the statement MappingApart for every argument.
  Bits and Of of the program.
-/
import Derived.Test.YtaebknkjhhcneaaGreatDoorFold21
import Derived.Test.YtaebknkjhhcneaaGreatDoorMe2
import Derived.Test.YtaebknkjhhcneaaGreatDoorFold20
import Derived.Test.YtaebknkjhhcneaaGreatDoorFold22
import Derived.OpenShut
import Derived.ChangeArms
import Derived.ChangeSame
import Derived.ProofKit
namespace Go.Proofs.YtaebknkjhhcneaaGreatDoor
open Go Go.RowKit
set_option linter.unusedVariables false
set_option linter.unusedSimpArgs false


set_option maxHeartbeats 2000000 in
set_option maxRecDepth 100000 in
theorem REdge_any (r : Ru) (hr : r.In) (v : Nat) (hv : v < 18446744073709551616) (w : World) :
    Calls Tryz.prog 25 #[RV r, .int .u64 v] w fun e w' => e = .returned (edgE r v) ∧ Below w.heap.size w w' := by
  generalize hQ : (fun (e : Ending) (w' : World) => e = .returned (edgE r v) ∧ Below w.heap.size w w') = Q
  have HQ : Hid _ := hQ
  clear hQ
  obtain ⟨hb, hb2, hBw⟩ := two_box' w (RO r) (.cells zeroEL.toArray 69)
  have HC : Hid _ := fun W => RCheck_r r hr W
  have HLR : Hid _ := (RuAt.of hr hb).ldR
  generalize hW : (w.alloc (RO r)).alloc (.cells zeroEL.toArray 69) = W at *
  by_cases h0 : ckE r = 0
  · have hok := Ru.ok_of hr h0
    rw [h0] at HC
    have hea := hok.ea
    obtain ⟨b, hbn⟩ := Int.eq_ofNat_of_zero_le hea.1
    have hb48 : b ≤ 48 := by omega
    have HBN : Hid _ := hbn
    have hsh := cast_shr v b
    by_cases hlt : v < 2 ^ r.ea.toNat
    · have hE : edgE r v = .tuple #[EV (edg r v), .int .i64 0] := by unfold edgE; rw [if_pos h0, if_pos hlt]
      rw [hE] at HQ
      have HEG : Hid _ := fun W => redge_any r hok v hlt W
      have hlt2 : v < 2 ^ b := by rw [hbn, Int.toNat_natCast] at hlt; exact hlt
      have hdv : (v : Int) / 2 ^ b = 0 := by rw [cast_shr, Nat.div_eq_of_lt hlt2]; rfl
      obtain ⟨fin, hfin⟩ : ∃ fin, fin = edC (edg r v) := ⟨_, rfl⟩
      have hflen : fin.length = 41 := by rw [hfin]; exact edg_len hok v
      have hfone : ∀ x ∈ fin, x.oneCell' = true := by rw [hfin]; exact edC_one _
      have HEG2 : Hid (∀ W, Calls Tryz.prog 59 #[RV r, .int .u64 v] W fun e w' => e = .returned (.agg fin.toArray) ∧ Below W.heap.size W w') := fun W => by rw [hfin]; exact HEG.out W
      have HFIN : Hid _ := hfin
      clear hE h0 hsh hlt hlt2 HEG hfin hok hea hbn
      go_enter Tryz.func25, Tryz.ntmps25
      go_wp2_with first
        | ((with_reducible show wpList _ _ _ _ _ _); refine armL (.tmp 2) 65 rfl rfl rfl HLR.out ?_)
      refine (HC.out _).mono ?_
      rintro e w2 ⟨rfl, hB2⟩
      have c22 := (RuAt.of hr (blk_on hb hB2)).c22
      rw [HBN.out] at c22
      have HL2 : Hid _ := (RuAt.of hr (blk_on hb hB2)).ldR
      go_wp2_with first
        | ((with_reducible show wpList _ _ _ _ _ _); refine armL (.tmp 2) 65 rfl rfl rfl HL2.out ?_)
      refine (HEG2.out _).mono ?_
      rintro e w3 ⟨rfl, hB3⟩
      have hB23 := hB2.trans (hB3.mono hB2.size)
      obtain ⟨wE, hst, bE, hon⟩ := box_store Tryz.sizeOf69 (blk_on hb2 hB23) rfl fin hflen hfone
      have HLV : Hid _ := agg_loadVar (t := 69) Tryz.isAgg69 Tryz.sizeOf69 hflen (CellsAt.of_blk bE)
      have HST : Hid _ := hst
      have HBE : Hid (Below w.heap.size w wE) := (hBw.trans (hB23.mono hBw.size)).trans (hon.below (by omega))
      clear hst bE hon
      go_wp2_with first
        | ((with_reducible show wpList _ _ _ _ _ _); refine armS (.tmp 4) (.tmp 22) 69 rfl rfl rfl rfl HST.out ?_)
      refine bodyPost_ret (res2c Tryz.results25 rfl HLV.out) rfl ?_
      rw [← HQ.out]
      exact ⟨by rw [HFIN.out]; rfl, HBE.out⟩
    · have hE : edgE r v = .tuple #[EV zeroEd, .int .i64 101] := by unfold edgE; rw [if_pos h0, if_neg hlt]
      rw [hE] at HQ
      have hlt2 : ¬ v < 2 ^ b := by rw [hbn, Int.toNat_natCast] at hlt; exact hlt
      have hdv : ((v : Int) / 2 ^ b != 0) = true := by
        rw [cast_shr]
        have : 0 < v / 2 ^ b := Nat.div_pos (by omega) (Nat.two_pow_pos b)
        simp
        omega
      clear hE h0 hsh hlt hlt2 hok hea hbn
      go_enter Tryz.func25, Tryz.ntmps25
      go_wp2_with first
        | ((with_reducible show wpList _ _ _ _ _ _); refine armL (.tmp 2) 65 rfl rfl rfl HLR.out ?_)
      refine (HC.out _).mono ?_
      rintro e w2 ⟨rfl, hB2⟩
      have c22 := (RuAt.of hr (blk_on hb hB2)).c22
      rw [HBN.out] at c22
      obtain ⟨wE, hst, bE, hon⟩ := box_store Tryz.sizeOf69 (blk_on hb2 hB2) rfl zeroEL rfl (by decide)
      have HLV : Hid _ := agg_loadVar (t := 69) Tryz.isAgg69 Tryz.sizeOf69 rfl (CellsAt.of_blk bE)
      have HST : Hid _ := hst
      have HBE : Hid (Below w.heap.size w wE) := (hBw.trans (hB2.mono hBw.size)).trans (hon.below (by omega))
      clear hst bE hon
      go_wp2_with first
        | ((with_reducible show wpList _ _ _ _ _ _); refine armS (.tmp 4) (.tmp 19) 69 rfl rfl rfl rfl HST.out ?_)
        | ((with_reducible show wpList _ _ _ _ _ _); refine armV (Op.build 69 #[]) rfl rfl (v := .agg zeroEL.toArray) (by kernel_rfl) ?_)
      refine bodyPost_ret (res2c Tryz.results25 rfl HLV.out) rfl ?_
      rw [← HQ.out]
      exact ⟨rfl, HBE.out⟩
  · have hE : edgE r v = .tuple #[EV zeroEd, .int .i64 (ckE r)] := by unfold edgE; rw [if_neg h0]
    rw [hE] at HQ
    have q0 : (ckE r != 0) = true := by simpa using h0
    clear hE h0
    generalize ckE r = ce at *
    go_enter Tryz.func25, Tryz.ntmps25
    go_wp2_with first
      | ((with_reducible show wpList _ _ _ _ _ _); refine armL (.tmp 2) 65 rfl rfl rfl HLR.out ?_)
    refine (HC.out _).mono ?_
    rintro e w2 ⟨rfl, hB2⟩
    obtain ⟨wE, hst, bE, hon⟩ := box_store Tryz.sizeOf69 (blk_on hb2 hB2) rfl zeroEL rfl (by decide)
    have HLV : Hid _ := agg_loadVar (t := 69) Tryz.isAgg69 Tryz.sizeOf69 rfl (CellsAt.of_blk bE)
    have HST : Hid _ := hst
    have HBE : Hid (Below w.heap.size w wE) := (hBw.trans (hB2.mono hBw.size)).trans (hon.below (by omega))
    clear hst bE hon
    go_wp2_with first
      | ((with_reducible show wpList _ _ _ _ _ _); refine armS (.tmp 4) (.tmp 11) 69 rfl rfl rfl rfl HST.out ?_)
      | ((with_reducible show wpList _ _ _ _ _ _); refine armV (Op.build 69 #[]) rfl rfl (v := .agg zeroEL.toArray) (by kernel_rfl) ?_)
    refine bodyPost_ret (res2c Tryz.results25 rfl HLV.out) rfl ?_
    rw [← HQ.out]
    exact ⟨rfl, HBE.out⟩

end Go.Proofs.YtaebknkjhhcneaaGreatDoor

namespace Go.Proofs.YtaebknkjhhcneaaGreatDoor
open Go Go.RowKit Go.ChangeShapes Go.WideShapes Go.ChangeAt
set_option linter.unusedVariables false
set_option linter.unusedSimpArgs false

theorem arr_cut (x y z : List Value) {n m : Nat} (hx : x.length = n) (hy : n + y.length = m) : (x ++ (y ++ z)).toArray.extract n m = y.toArray := by
  apply Array.ext'
  simp only [List.extract_toArray, List.extract_eq_take_drop]
  subst hx
  rw [List.drop_left, show m - x.length = y.length by omega, List.take_left]
set_option maxHeartbeats 1000000 in
set_option maxRecDepth 100000 in
theorem eqP4s (d : Nat) (zs : List Int) (n : Int) (h : FitB zs) (hl : zs.length = 4) (w : World) :
    (Op.equalIn (d + 3) 63 (P4L zs n) (P4L zs n)).run Tryz.prog w = .ok true w := by
  have h1 : ∀ W, (Op.equalIn (d + 2) 61 (A4L zs) (A4L zs)).run Tryz.prog W = .ok true W := fun W => by
    have := eq_arr4 d zs zs h h hl hl W
    rw [decide_eq_true rfl] at this
    exact this
  have p1 : (cp4 zs n).toArray.extract 0 4 = (b8 zs).toArray := by
    have := arr_cut [] (b8 zs) [Value.int .i64 n] (n := 0) (m := 4) rfl (by rw [b8_length, hl])
    simpa [cp4] using this
  have p3 : (cp4 zs n).toArray[4]? = some (Value.int .i64 n) := by simp [cp4, b8_length, hl]
  have h2 : ∀ W, (Op.equalIn (d + 2) 3 (.int .i64 n) (.int .i64 n)).run Tryz.prog W = .ok true W := fun W => by simp [Op.equalIn, go_sem]
  unfold P4L
  generalize (cp4 zs n).toArray = x at *
  unfold A4L at h1
  generalize (b8 zs).toArray = u at *
  have hstd : Tryz.prog.stoodInHeld 63 = false := by kernel_rfl
  show (Op.equalIn ((d + 2) + 1) _ _ _).run Tryz.prog w = _
  rw [Op.equalIn]
  generalize Op.equalIn (d + 2) = E at *
  simp [go_sem, hstd, p1, p3, h1, h2]
theorem eqP6s (d : Nat) (zs : List Int) (n : Int) (h : FitB zs) (hl : zs.length = 16) (w : World) : (Op.equalIn (d + 3) 26 (P6 zs n) (P6 zs n)).run Tryz.prog w = .ok true w := by
  have := eqP6 d zs zs n n h h hl hl w
  rw [decide_eq_true rfl, Bool.true_and, beq_self_eq_true] at this
  exact this
theorem eqA6s (d : Nat) (zs : List Int) (h : FitB zs) (hl : zs.length = 16) (w : World) : (Op.equalIn (d + 2) 24 (A6 zs) (A6 zs)).run Tryz.prog w = .ok true w := by
  have := eq_arr16 d zs zs h h hl hl w
  rw [decide_eq_true rfl] at this
  exact this
structure Ed.Fit (e : Ed) : Prop where
  f4 : FitB e.l4
  k4 : e.l4.length = 4
  f6 : FitB e.l6
  k6 : e.l6.length = 16
  fw : FitB e.ow
  kw : e.ow.length = 16
set_option maxHeartbeats 2000000 in
set_option maxRecDepth 100000 in
theorem eqEs (d : Nat) (e : Ed) (h : e.Fit) (w : World) : (Op.equalIn (d + 4) 69 (EV e) (EV e)).run Tryz.prog w = .ok true w := by
  have h1 := eqP4s d e.l4 e.n4 h.f4 h.k4
  have h2 := eqPS (d + 1) e.o e.l e.p
  have h3 := eqP6s d e.l6 e.n6 h.f6 h.k6
  have h4 := eqA6s (d + 1) e.ow h.fw h.kw
  have l4 := cp4_length e.l4 e.n4 h.k4
  have l6 := cp6_length e.l6 e.n6 h.k6
  have lw : (b8 e.ow).length = 16 := by rw [b8_length, h.kw]
  have p1 : (edC e).toArray.extract 0 5 = (cp4 e.l4 e.n4).toArray := by
    have := arr_cut [] (cp4 e.l4 e.n4) (PSL e.o e.l e.p ++ (cp6 e.l6 e.n6 ++ b8 e.ow)) (n := 0) (m := 5) rfl (by omega)
    simpa [edC] using this
  have p2 : (edC e).toArray.extract 5 8 = (PSL e.o e.l e.p).toArray := arr_cut (cp4 e.l4 e.n4) (PSL e.o e.l e.p) (cp6 e.l6 e.n6 ++ b8 e.ow) l4 rfl
  have p3 : (edC e).toArray.extract 8 25 = (cp6 e.l6 e.n6).toArray := by
    have := arr_cut (cp4 e.l4 e.n4 ++ PSL e.o e.l e.p) (cp6 e.l6 e.n6) (b8 e.ow) (n := 8) (m := 25) (by simp [l4]) (by omega)
    simpa [edC] using this
  have p4 : (edC e).toArray.extract 25 41 = (u8s e.ow).toArray := by
    have := arr_cut (cp4 e.l4 e.n4 ++ PSL e.o e.l e.p ++ cp6 e.l6 e.n6) (b8 e.ow) [] (n := 25) (m := 41) (by simp [l4, l6]) (by omega)
    have e2 : edC e = cp4 e.l4 e.n4 ++ PSL e.o e.l e.p ++ cp6 e.l6 e.n6 ++ (b8 e.ow ++ []) := by simp [edC]
    rw [e2]
    exact this
  unfold EV
  generalize (edC e).toArray = x at *
  unfold P4L at h1
  unfold P6 at h3
  unfold A6 at h4
  have h2' : ∀ W, (Op.equalIn (d + 3) 67 (.agg (PSL e.o e.l e.p).toArray) (.agg (PSL e.o e.l e.p).toArray)).run Tryz.prog W = .ok true W := h2
  have h4' : ∀ W, (Op.equalIn (d + 3) 24 (.agg (u8s e.ow).toArray) (.agg (u8s e.ow).toArray)).run Tryz.prog W = .ok true W := h4
  clear h2 h4
  generalize (cp4 e.l4 e.n4).toArray = y1 at *
  generalize (PSL e.o e.l e.p).toArray = y2 at *
  generalize (cp6 e.l6 e.n6).toArray = y3 at *
  generalize (u8s e.ow).toArray = y4 at *
  have hstd : Tryz.prog.stoodInHeld 69 = false := by kernel_rfl
  show (Op.equalIn ((d + 3) + 1) _ _ _).run Tryz.prog w = _
  rw [Op.equalIn]
  generalize Op.equalIn (d + 3) = E at *
  simp [go_sem, hstd, p1, p2, p3, p4, h1, h2', h3, h4']
theorem eqlE (e : Ed) (h : e.Fit) (w : World) : (binOp .eql 69 (EV e) (EV e)).run Tryz.prog w = .ok (.bool true) w := by
  have := eqEs 9996 e h w
  simp only [binOp, Op.equal, Op.maxDepth]
  simp [this]
theorem gdE (b : BinOp) (x y : Operand) (u v : Array Value) (w : World) : (eqGuard b 69 x y (.agg u) (.agg v)).run Tryz.prog w = .ok () w := by
  have he : Tryz.prog.eqGuardType Tryz.prog.depth 69 = false := by kernel_rfl
  cases b <;> simp [eqGuard, go_sem, he]
theorem edg_fit {r : Ru} (h : r.Ok) (v : Nat) : (edg r v).Fit := ⟨by rw [edg_l4]; exact v4L_fit h, by rw [edg_l4]; exact v4L_length h, by rw [edg_l6]; exact endL_fit h, by rw [edg_l6]; exact endL_length h, by rw [edg_ow]; exact ownL_fit h, by rw [edg_ow]; exact ownL_length h⟩
theorem zero_fit : zeroEd.Fit := ⟨fit_of (by decide), rfl, fit_of (by decide), rfl, fit_of (by decide), rfl⟩
theorem edge_form (r : Ru) (hr : r.In) (v : Nat) : ∃ (e : Ed) (g : Int), e.Fit ∧ edgE r v = .tuple #[EV e, .int .i64 g] := by
  unfold edgE
  by_cases h : ckE r = 0
  · rw [if_pos h]
    by_cases h2 : v < 2 ^ r.ea.toNat
    · rw [if_pos h2]; exact ⟨_, _, edg_fit (Ru.ok_of hr h) v, rfl⟩
    · rw [if_neg h2]; exact ⟨_, _, zero_fit, rfl⟩
  · rw [if_neg h]; exact ⟨_, _, zero_fit, rfl⟩
theorem armB {P : Program} {w : World} {ops : Array Oper} {rest : List Oper} {o : Oper} {a : Act} {Q : Exit → Act → World → Prop} (b : BinOp) (t u : TypeId) (x y : Operand) (hop : o.op = Op.binOp b t x y u) (hw : Region.wanted o (yielded ops a.tmps) = true) {vx vy v : Value} (hx : a.eval x = vx) (hy : a.eval y = vy) (hgd : (eqGuard b t x y vx vy).run P w = .ok () w) (hrun : (binOp b t vx vy).run P w = .ok v w) (hK : wpList P ops Q rest (a.put o.dst v) w) : wpList P ops Q (o :: rest) a w :=
  arm_bin hw b t u x y hop hx hy hgd hrun hK

end Go.Proofs.YtaebknkjhhcneaaGreatDoor

namespace Go.Proofs.YtaebknkjhhcneaaGreatDoor
open Go Go.RowKit Go.ChangeShapes Go.WideShapes Go.ChangeAt
set_option linter.unusedVariables false
set_option linter.unusedSimpArgs false

section
variable {r : Ru} {a b d h q o v : Nat}
theorem edg_set (hok : r.Ok) (v : Nat) : setOk (edg r v).o (edg r v).l (edg r v).p := by
  obtain ⟨a, b, d, h, q, o, hn⟩ := hok.nums
  have hp := hn.psid
  have ho := hn.off
  unfold edg pidV
  rw [hn.eq, hn.eo, Int.toNat_natCast]
  have hm := Nat.mod_lt v (Nat.two_pow_pos q)
  have e : (2 : Int) ^ q = ((2 ^ q : Nat) : Int) := by rw [Int.natCast_pow]; rfl
  by_cases c : (0 : Int) < (q : Int)
  · simp only [if_pos c]
    exact ⟨⟨by omega, by omega, by omega, by omega⟩, by rw [Int.toNat_natCast, e]; omega⟩
  · simp only [if_neg c]
    exact ⟨⟨by omega, by omega, by omega, by omega⟩, by rw [Int.toNat_natCast, e]; omega⟩
theorem edg_in (hok : r.Ok) (v : Nat) : (edg r v).In := by
  have hf := edg_fit hok v
  obtain ⟨a, b, d, h, q, o, hn⟩ := hok.nums
  have hs := edg_set hok v
  have hp := hn.psid
  have hl := hn.len
  have hr := hn.room
  have hm := Nat.mod_lt v (Nat.two_pow_pos q)
  have h16 := pow16 (l := q) (by omega)
  have e4 : (edg r v).n4 = ((d + h : Nat) : Int) := by unfold edg; rw [hn.e4, hn.eh]; simp
  have e6 : (edg r v).n6 = ((a + b : Nat) : Int) := by unfold edg; rw [hn.e6, hn.eb]; simp
  have ep : (edg r v).p = ((v % 2 ^ q : Nat) : Int) := by unfold edg pidV; rw [hn.eq, Int.toNat_natCast]
  exact ⟨hf.f4, hf.k4, ⟨by rw [e4]; omega, by rw [e4]; omega⟩, ⟨by have := hs.1.1; omega, by have := hs.1.2.1; omega⟩, ⟨by have := hs.1.2.2.1; omega, by have := hs.1.2.2.2; have := hs.1.1; omega⟩, ⟨by rw [ep]; omega, by rw [ep]; omega⟩, hf.f6, hf.k6, ⟨by rw [e6]; omega, by rw [e6]; omega⟩, hf.fw, hf.kw⟩
theorem edg_ok4 (hok : r.Ok) (v : Nat) : okP4L (edg r v).l4 (edg r v).n4 = true := by
  obtain ⟨a, b, d, h, q, o, hn⟩ := hok.nums
  exact v4_ok hok hn
theorem edg_ok6 (hok : r.Ok) (v : Nat) : okP6 (edg r v).l6 (edg r v).n6 = true := by
  obtain ⟨a, b, d, h, q, o, hn⟩ := hok.nums
  exact end_ok hok hn
theorem owns_ok (hok : r.Ok) (v : Nat) (y : List Int) (n : Nat) : ownsE (edg r v) y n = .tuple #[.bool (ownsB (edg r v) y n), .int .i64 0] := by
  unfold ownsE
  rw [if_pos (edg_ok4 hok v), if_pos (edg_set hok v)]
theorem owns_iff (hok : r.Ok) (hn : Nums r a b d h q o) (hv : v < 2 ^ b) {y : List Int} (yf : FitB y) (yl : y.length = 4) (n : Nat) :
    ownsB (edg r v) y n = true ↔ (blR r.n4 y = r.l4 ∧ accN y d h = v / 2 ^ q ∧ (0 < q → isOnes o n ∧ pidN o q n = v % 2 ^ q)) := by
  have h1 := v4_has hok hn hv yf yl
  have e1 : hasL (edg r v).l4 (edg r v).n4 y = decide (blR (r.n4 + hB r) y = v4L r v) := rfl
  have hs := edg_set hok v
  have el : (edg r v).l = (q : Int) := by unfold edg; rw [hn.eq]
  have ep : (edg r v).p = ((v % 2 ^ q : Nat) : Int) := by unfold edg pidV; rw [hn.eq, Int.toNat_natCast]
  unfold ownsB
  rw [e1, Bool.and_eq_true, decide_eq_true_eq, h1, and_assoc]
  refine and_congr_right fun _ => and_congr_right fun _ => ?_
  rw [Bool.or_eq_true, hasP, decide_eq_true hs, Bool.true_and, decide_eq_true_eq, el, ep, Int.toNat_natCast, Int.toNat_natCast, beq_iff_eq]
  by_cases c : 0 < q
  · have eo : (edg r v).o = (o : Int) := by unfold edg; rw [hn.eq, hn.eo]; exact if_pos (by omega)
    rw [eo, Int.toNat_natCast]
    exact ⟨fun k _ => k.elim (fun z => by omega) id, fun k => .inr (k c)⟩
  · exact ⟨fun _ z => absurd z c, fun _ => .inl (by omega)⟩
theorem split_eq {v u q : Nat} (h1 : v / 2 ^ q = u / 2 ^ q) (h2 : v % 2 ^ q = u % 2 ^ q) : v = u := by
  rw [← Nat.div_add_mod v (2 ^ q), ← Nat.div_add_mod u (2 ^ q), h1, h2]
theorem owns_one (hok : r.Ok) {v u : Nat} (hv : v < 2 ^ r.ea.toNat) (hu : u < 2 ^ r.ea.toNat) (hne : v ≠ u) {y : List Int} (yf : FitB y) (yl : y.length = 4) (n : Nat) : (ownsB (edg r v) y n && ownsB (edg r u) y n) = false := by
  obtain ⟨a, b, d, h, q, o, hn⟩ := hok.nums
  rw [hn.eb, Int.toNat_natCast] at hv hu
  rw [Bool.and_eq_false_iff]
  by_cases c : ownsB (edg r v) y n = true
  · by_cases c2 : ownsB (edg r u) y n = true
    · obtain ⟨_, e1, e2⟩ := (owns_iff hok hn hv yf yl n).1 c
      obtain ⟨_, f1, f2⟩ := (owns_iff hok hn hu yf yl n).1 c2
      refine absurd (split_eq (q := q) (e1.symm.trans f1) ?_) hne
      by_cases cq : 0 < q
      · exact (e2 cq).2.symm.trans (f2 cq).2
      · obtain rfl : q = 0 := by omega
        omega
    · exact .inr (by simpa using c2)
  · exact .inl (by simpa using c)
theorem end_one (hok : r.Ok) {v u : Nat} (hv : v < 2 ^ r.ea.toNat) (hu : u < 2 ^ r.ea.toNat) (hne : v ≠ u) {x : List Int} (xf : FitB x) (xl : x.length = 16) : (has6 (edg r v).l6 (edg r v).n6 x && has6 (edg r u).l6 (edg r u).n6 x) = false := by
  obtain ⟨a, b, d, h, q, o, hn⟩ := hok.nums
  rw [hn.eb, Int.toNat_natCast] at hv hu
  have e1 : has6 (edg r v).l6 (edg r v).n6 x = decide (blR (r.n6 + r.ea) x = endL r v) := rfl
  have e2 : has6 (edg r u).l6 (edg r u).n6 x = decide (blR (r.n6 + r.ea) x = endL r u) := rfl
  rw [e1, e2, Bool.and_eq_false_iff, decide_eq_false_iff_not, decide_eq_false_iff_not]
  by_cases c : blR (r.n6 + r.ea) x = endL r v
  · refine .inr fun c2 => hne ?_
    rw [← ((end_has hok hn hv xf xl).1 c).2, ← ((end_has hok hn hu xf xl).1 c2).2]
  · exact .inl c
theorem own_one (hok : r.Ok) {v u : Nat} (hv : v < 2 ^ r.ea.toNat) (hu : u < 2 ^ r.ea.toNat) (hne : v ≠ u) : ownL r v ≠ ownL r u := by
  obtain ⟨a, b, d, h, q, o, hn⟩ := hok.nums
  rw [hn.eb, Int.toNat_natCast] at hv hu
  intro e
  refine hne ?_
  rw [← (own_has hok hn hv).2, ← (own_has hok hn hu).2, e]
end

theorem open_a4 {H : Type} {enc : TypeId × Value → H} {W : World} {v : Value} {d : DataW H} {p : List MemPlace} (h : DataW.Trod enc Tryz.prog W 0 (fun _ => true) true 61 v d p) : ∃ y : List Int, v = A4L y ∧ FitB y ∧ y.length = 4 := by
  obtain ⟨fuel, hf⟩ := h
  obtain ⟨zs, hl, hcs, hfit⟩ := cells_arr Tryz.underlying61 (by kernel_rfl) (by kernel_rfl) hf
  exact ⟨zs, agg_of hcs (by rw [b8_length, hl]; omega), hfit, hl⟩
theorem open_a6 {H : Type} {enc : TypeId × Value → H} {W : World} {v : Value} {d : DataW H} {p : List MemPlace} (h : DataW.Trod enc Tryz.prog W 0 (fun _ => true) true 24 v d p) : ∃ y : List Int, v = .agg (b8 y).toArray ∧ FitB y ∧ y.length = 16 := by
  obtain ⟨fuel, hf⟩ := h
  obtain ⟨zs, hl, hcs, hfit⟩ := cells_arr Tryz.underlying24 (by kernel_rfl) (by kernel_rfl) hf
  exact ⟨zs, agg_of hcs (by rw [b8_length, hl]; omega), hfit, hl⟩
abbrev XO (x : List Int) : Obj := .cells (b8 x).toArray 24
theorem three_box (w : World) (o1 o2 o3 : Obj) : (((w.alloc o1).alloc o2).alloc o3).heap[w.heap.size]? = some o1 ∧ (((w.alloc o1).alloc o2).alloc o3).heap[w.heap.size + 1]? = some o2 ∧ (((w.alloc o1).alloc o2).alloc o3).heap[w.heap.size + 2]? = some o3 ∧ Below w.heap.size w (((w.alloc o1).alloc o2).alloc o3) := by
  obtain ⟨h1, h2, hB⟩ := two_box' w o1 o2
  have hz : ((w.alloc o1).alloc o2).heap.size = w.heap.size + 2 := by simp
  have h3 := blk_new ((w.alloc o1).alloc o2) o3
  rw [hz] at h3
  exact ⟨blk_alloc h1 _, blk_alloc h2 _, h3, hB.trans ((bA _ o3).mono hB.size)⟩
theorem neqA6 (zs ys : List Int) (h : FitB zs) (g : FitB ys) (hl : zs.length = 16) (gl : ys.length = 16) (w : World) : (binOp .neq 24 (A6 zs) (A6 ys)).run Tryz.prog w = .ok (.bool (!(decide (zs = ys)))) w := by
  have := eq_arr16 9998 zs ys h g hl gl w
  simp only [binOp, Op.equal, Op.maxDepth]
  simp [this]
theorem eqlA6 (zs ys : List Int) (h : FitB zs) (g : FitB ys) (hl : zs.length = 16) (gl : ys.length = 16) (w : World) : (binOp .eql 24 (A6 zs) (A6 ys)).run Tryz.prog w = .ok (.bool (decide (zs = ys))) w := by
  have := eq_arr16 9998 zs ys h g hl gl w
  simp only [binOp, Op.equal, Op.maxDepth]
  simp [this]
theorem gdA6 (b : BinOp) (x y : Operand) (u v : Array Value) (w : World) : (eqGuard b 24 x y (.agg u) (.agg v)).run Tryz.prog w = .ok () w := by
  have he : Tryz.prog.eqGuardType Tryz.prog.depth 24 = false := by kernel_rfl
  cases b <;> simp [eqGuard, go_sem, he]
theorem edg_of {r : Ru} {v : Nat} {g : Int} {e : Ed} (hr : r.In) (h : edgE r v = .tuple #[EV e, .int .i64 g]) (hg : g = 0) : r.Ok ∧ v < 2 ^ r.ea.toNat ∧ EV e = EV (edg r v) := by
  unfold edgE at h
  by_cases c : ckE r = 0
  · rw [if_pos c] at h
    by_cases c2 : v < 2 ^ r.ea.toNat
    · rw [if_pos c2] at h
      simp at h
      exact ⟨Ru.ok_of hr c, c2, by rw [EV, EV, h.1]⟩
    · rw [if_neg c2] at h
      simp at h
      omega
  · rw [if_neg c] at h
    simp at h
    omega

end Go.Proofs.YtaebknkjhhcneaaGreatDoor

namespace Go.Proofs.YtaebknkjhhcneaaGreatDoor
open Go Go.RowKit Go.ChangeShapes Go.WideShapes Go.ChangeAt
set_option linter.unusedVariables false
set_option linter.unusedSimpArgs false

abbrev UE (n : Int) (e : Int) : Value := .tuple #[.int .u64 n, .int .i64 e]
def bitsE (r : Ru) (x : List Int) : Value := if ckE r = 0 then (if has6 r.l6 r.n6 x = true then UE (accN x r.n6.toNat r.ea.toNat : Nat) 0 else UE 0 82) else UE 0 (ckE r)
/-- The EA bits of an address and port, and the error. -/
def ofV (r : Ru) (y : List Int) (n : Nat) : Nat × Int :=
  if ckE r = 0 then (if hasL r.l4 r.n4 y = true then (if 0 < qB r then (if isOnes r.off.toNat n then (accN y r.n4.toNat (hB r).toNat * 2 ^ (qB r).toNat + pidN r.off.toNat (qB r).toNat n, 0) else (0, 91)) else (accN y r.n4.toNat (hB r).toNat, 0)) else (0, 82)) else (0, ckE r)
theorem get_at (v : Value) (zs : List Int) (p n : Nat) (w : World) (h : Fld.BytesAt w.heap.size w v zs) (h64 : n ≤ 64) (hn : p + n ≤ 8 * zs.length) (hz : zs.length ≤ 100) :
    Calls Tryz.prog 136 #[v, .int .i64 p, .int .i64 n] w fun e w' => e = .returned (UE (accN zs p n : Nat) 0) ∧ Below w.heap.size w w' := by
  have hok : Fld.okG zs.length p n = true := by
    unfold Fld.okG Fld.thereB
    simp
    omega
  have hg := Fld.get_calls v zs p n w h (by omega) (by omega)
  have e1 : Fld.getV zs p n = (accN zs p n : Nat) := by unfold Fld.getV; rw [if_pos hok]; rfl
  have e2 : Fld.getE zs p n = 0 := by unfold Fld.getE; rw [if_pos hok]
  rw [e1, e2] at hg
  exact hg.mono fun e w' hh => ⟨hh.1, by rw [hh.2]; exact Below.refl _ _⟩
theorem Has6_ok {r : Ru} (hok : r.Ok) (x : List Int) (xf : FitB x) (xl : x.length = 16) (W : World) :
    Calls Tryz.prog 53 #[P6 r.l6 r.n6, .agg (b8 x).toArray] W fun e w' => e = .returned (.tuple #[.bool (has6 r.l6 r.n6 x), .int .i64 0]) ∧ Below W.heap.size W w' := by
  have := Has6_calls r.l6 r.n6 x W hok.inn.f6 hok.inn.k6 xf xl hok.inn.b6
  rw [hok.p6, Bool.true_and] at this
  exact this
theorem load_x {W : World} {b : Nat} {x : List Int} (hl : x.length = 16) (h : W.heap[b]? = some (XO x)) : (Instr.loadAt 24 (.pointer (some ⟨b, 0, none⟩))).run Tryz.prog W = .ok (.agg (b8 x).toArray) W := load6 hl (CellsAt.of_blk h)

set_option maxHeartbeats 4000000 in
set_option maxRecDepth 100000 in
theorem Of_r (r : Ru) (hr : r.In) (y : List Int) (yf : FitB y) (yl : y.length = 4) (n : Nat) (hnp : n < 65536) (w : World) :
    Calls Tryz.prog 99 #[RV r, A4L y, .int .u16 n] w fun e w' => e = .returned (UE ((ofV r y n).1 : Nat) (ofV r y n).2) ∧ Below w.heap.size w w' := by
  obtain ⟨hb, hb2, hBw⟩ := two_box' w (RO r) (YO y)
  have HC : Hid _ := fun W => Check_any' r hr W
  have HLR : Hid _ := (RuAt.of hr hb).ldR
  generalize hW : (w.alloc (RO r)).alloc (YO y) = W at *
  by_cases h0 : ckE r = 0
  · have hok := Ru.ok_of hr h0
    have hm := hok.mid
    obtain ⟨a, b, d, h, q, o, hn⟩ := hok.nums
    have hroom := hn.room
    have hlen := hn.len
    have hpsid := hn.psid
    have hoff := hn.off
    rw [h0] at HC
    have HH4 : Hid (∀ W, Calls Tryz.prog 50 #[P4L r.l4 r.n4, A4L y] W fun e w' => e = .returned (.tuple #[.bool (hasL r.l4 r.n4 y), .int .i64 0]) ∧ Below W.heap.size W w') := fun W => by
      have := Has4_L r.l4 r.n4 y W hr.f4 hr.k4 hr.b4 yf yl
      rw [hok.p4, Bool.true_and] at this
      exact this
    cases c4 : hasL r.l4 r.n4 y
    · have hE : ofV r y n = (0, 82) := by unfold ofV; rw [if_pos h0, c4]; rfl
      rw [hE]
      rw [c4] at HH4
      clear hE h0 c4 hn hok hm
      go_enter Tryz.func99, Tryz.ntmps99
      go_wp2_with first
        | ((with_reducible show wpList _ _ _ _ _ _); refine armL (.tmp 3) 65 rfl rfl rfl HLR.out ?_)
      refine (HC.out _).mono ?_
      rintro e w2 ⟨rfl, hB2⟩
      have HL4 : Hid _ := (RuAt.of hr (blk_on hb hB2)).ld4
      have HLY : Hid _ := load_y yl (blk_on hb2 hB2)
      go_wp2_with first
        | ((with_reducible show wpList _ _ _ _ _ _); refine armL (.tmp 22) 63 rfl rfl rfl HL4.out ?_)
        | ((with_reducible show wpList _ _ _ _ _ _); refine armL (.tmp 4) 61 rfl rfl rfl HLY.out ?_)
      refine (HH4.out _).mono ?_
      rintro e w3 ⟨rfl, hB3⟩
      have hB23 := hB2.trans (hB3.mono hB2.size)
      go_wp2
      go_returns
      exact ⟨rfl, hBw.trans (hB23.mono hBw.size)⟩
    · rw [c4] at HH4
      have HNN : Hid (r.n4 = d ∧ r.off = o) := ⟨hn.e4, hn.eo⟩
      have HHB : Hid (∀ W, Calls Tryz.prog 137 #[RV r] W fun e w' => e = .returned (.int .i64 (h : Nat)) ∧ Below W.heap.size W w') := fun W => by have := hostBits_any r hr hm W; rw [hn.eh] at this; exact this
      have HPS : Hid (∀ W, Calls Tryz.prog 108 #[RV r] W fun e w' => e = .returned (.int .i64 (q : Nat)) ∧ Below W.heap.size W w') := fun W => by have := psidBits_any r hr hm W; rw [hn.eq] at this; exact this
      have HSH : Hid (∀ W, Calls Tryz.prog 138 #[RV r] W fun e w' => e = .returned (.bool (decide (0 < q))) ∧ Below W.heap.size W w') := fun W => by
        have := shared_any r hr hm W
        rw [hn.eq] at this
        have e : decide ((0 : Int) < (q : Int)) = decide (0 < q) := by rw [decide_eq_decide]; omega
        rw [e] at this
        exact this
      have HPO : Hid _ := fun W => Of_yes o q n W hoff hpsid hnp
      have hE : ofV r y n = if 0 < q then (if isOnes o n then (accN y d h * 2 ^ q + pidN o q n, 0) else (0, 91)) else (accN y d h, 0) := by
        unfold ofV
        rw [if_pos h0, c4, if_pos rfl, hn.eq, hn.e4, hn.eh, hn.eo, Int.toNat_natCast, Int.toNat_natCast, Int.toNat_natCast, Int.toNat_natCast]
        by_cases c : 0 < q
        · rw [if_pos c, if_pos (by omega)]
        · rw [if_neg c, if_neg (by omega)]
      rw [hE]
      have hhl := accN_lt y d h
      have hsum := hn.sum
      have HHS : Hid (accN y d h = accN y d h) := rfl
      by_cases hq : 0 < q
      · have hq1 : decide (0 < q) = true := decide_eq_true hq
        rw [if_pos hq]
        rw [hq1] at HSH
        have hpl := pid_lt o q n
        have hmul : (accN y d h : Int) * 2 ^ q = ((accN y d h * 2 ^ q : Nat) : Int) := by rw [Int.natCast_mul, Int.natCast_pow]; rfl
        have hb48 : accN y d h * 2 ^ q < 2 ^ 48 := by
          have h1 : accN y d h * 2 ^ q < 2 ^ h * 2 ^ q := Nat.mul_lt_mul_of_pos_right hhl (Nat.two_pow_pos q)
          rw [← Nat.pow_add, ← hsum] at h1
          have h2 : 2 ^ b ≤ 2 ^ 48 := Nat.pow_le_pow_right (by decide) (by have := hok.ea; have := hn.eb; omega)
          omega
        have hor : bits .or .u64 ((accN y d h * 2 ^ q : Nat) : Int) ((pidN o q n : Nat) : Int) = ((accN y d h * 2 ^ q + pidN o q n : Nat) : Int) := by
          have h16 := pow16 (l := q) (by omega)
          have hx := u64_or_nat (accN y d h * 2 ^ q) (pidN o q n) (by omega) (by omega)
          have e : (accN y d h * 2 ^ q ||| pidN o q n) = accN y d h * 2 ^ q + pidN o q n := by
            have := Nat.two_pow_add_eq_or_of_lt (i := q) (b := pidN o q n) hpl (accN y d h)
            rw [Nat.mul_comm]
            exact this.symm
          rw [hx, e]
        have hpl16 : pidN o q n < 65536 := Nat.lt_of_lt_of_le hpl (pow16 (by omega))
        by_cases hi : isOnes o n
        · rw [if_pos hi]
          have hO : ofE o q n = OfE (pidN o q n) true 0 := if_pos hi
          rw [hO] at HPO
          clear hE h0 c4 hn hok hm hO hi hq1 hpl hhl hsum
          generalize hres : accN y d h * 2 ^ q + pidN o q n = res at *
          generalize hml : accN y d h * 2 ^ q = ml at *
          generalize pidN o q n = pp at *
          have HRES : Hid _ := hres
          have HMUL : Hid _ := hmul
          have HOR : Hid _ := hor
          clear hres hml hmul hor
          go_enter Tryz.func99, Tryz.ntmps99
          go_wp2_with first
            | ((with_reducible show wpList _ _ _ _ _ _); refine armL (.tmp 3) 65 rfl rfl rfl HLR.out ?_)
          refine (HC.out _).mono ?_
          rintro e w2 ⟨rfl, hB2⟩
          have HL4 : Hid _ := (RuAt.of hr (blk_on hb hB2)).ld4
          have HLY : Hid _ := load_y yl (blk_on hb2 hB2)
          go_wp2_with first
            | ((with_reducible show wpList _ _ _ _ _ _); refine armL (.tmp 22) 63 rfl rfl rfl HL4.out ?_)
            | ((with_reducible show wpList _ _ _ _ _ _); refine armL (.tmp 4) 61 rfl rfl rfl HLY.out ?_)
          refine (HH4.out _).mono ?_
          rintro e w3 ⟨rfl, hB3⟩
          have hB23 := hB2.trans (hB3.mono hB2.size)
          obtain ⟨ldR, _, _, _, d21, _, d23⟩ := RuHi.of hr (blk_on hb hB23)
          rw [HNN.out.1] at d21
          have HLD : Hid _ := ldR
          have HG : Hid (∀ z : Hi w3, Calls Tryz.prog 136 #[.slice (some ⟨w.heap.size + 1, 0, none⟩) 4 4, .int .i64 d, .int .i64 h] z.W fun e w' => e = .returned (UE (accN y d h : Nat) 0) ∧ Below z.W.heap.size z.W w') := fun z => by
            have hS := Hi.blk (blk_on hb2 hB23) z
            have hby := bytes_of (cap := 4) (CellsAt.of_blk hS) yf (Array.getElem?_eq_some_iff.1 hS).1 (by omega)
            rw [yl] at hby
            exact get_at _ y d h z.W hby (by omega) (by omega) (by omega)
          clear ldR
          generalize accN y d h = hst at HG HHS HMUL
          go_wp2_with fail
          refine wp_region_hi (by kernel_rfl) (by kernel_rfl) ?_
          repeat (first | go_big_quiet_skip | (go_big_quiet_want; refine hi_load (.tmp 3) 65 rfl rfl HLD.out ?_; simp only [Act.put, List.setIfInBounds_toArray, List.set_cons_zero, List.set_cons_succ]; go_big_quiet_on) | (go_big_quiet_want; go_big_quiet_op; first | go_big_quiet_on | go_big_quiet_call (first | (go_at_call 137; with_reducible exact Hi.calls (HHB.out _)) | (go_at_call 136; with_reducible exact Hi.calls (HG.out _)))))
          refine wpQuiet_nil ?_
          intro _ hw
          obtain ⟨y4, rfl⟩ := hw
          have hB24 := hB23.trans (y4.below.mono hB23.size)
          have HL4b : Hid _ := (RuAt.of hr (blk_on hb hB24)).ldR
          go_wp2_with first
            | ((with_reducible show wpList _ _ _ _ _ _); refine armL (.tmp 3) 65 rfl rfl rfl HL4b.out ?_)
          refine (HSH.out _).mono ?_
          rintro e w5 ⟨rfl, hB5⟩
          have hB25 := hB24.trans (hB5.mono hB24.size)
          obtain ⟨ldR5, _, _, _, _, _, e23⟩ := RuHi.of hr (blk_on hb hB25)
          rw [HNN.out.2] at e23
          have HLD5 : Hid _ := ldR5
          clear ldR5
          go_wp2_with fail
          refine wp_region_hi (by kernel_rfl) (by kernel_rfl) ?_
          repeat (first | go_big_quiet_skip | (go_big_quiet_want; refine hi_load (.tmp 3) 65 rfl rfl HLD5.out ?_; simp only [Act.put, List.setIfInBounds_toArray, List.set_cons_zero, List.set_cons_succ]; go_big_quiet_on) | (go_big_quiet_want; go_big_quiet_op; first | go_big_quiet_on | go_big_quiet_call (first | (go_at_call 108; with_reducible exact Hi.calls (HPS.out _)) | (go_at_call 139; with_reducible exact Hi.calls (HPO.out _)))))
          refine wpQuiet_nil ?_
          intro _ hw
          obtain ⟨y6, rfl⟩ := hw
          have hB26 := hB25.trans (y6.below.mono hB25.size)
          have HL6b : Hid _ := (RuAt.of hr (blk_on hb hB26)).ldR
          have hmul := HMUL.out
          have hor := HOR.out
          have k1 := pow_le16 (l := q) (by omega)
          have k2 := pow_ge1 q
          go_wp2_with first
            | ((with_reducible show wpList _ _ _ _ _ _); refine armL (.tmp 3) 65 rfl rfl rfl HL6b.out ?_)
          refine (HPS.out _).mono ?_
          rintro e w7 ⟨rfl, hB7⟩
          have hB27 := hB26.trans (hB7.mono hB26.size)
          go_wp2
          go_returns
          exact ⟨rfl, hBw.trans (hB27.mono hBw.size)⟩
        · rw [if_neg hi]
          have hO : ofE o q n = OfE 0 false 0 := if_neg hi
          rw [hO] at HPO
          clear hE h0 c4 hn hok hm hO hi hq1 hpl hhl hsum hmul hb48 hor hpl16
          go_enter Tryz.func99, Tryz.ntmps99
          go_wp2_with first
            | ((with_reducible show wpList _ _ _ _ _ _); refine armL (.tmp 3) 65 rfl rfl rfl HLR.out ?_)
          refine (HC.out _).mono ?_
          rintro e w2 ⟨rfl, hB2⟩
          have HL4 : Hid _ := (RuAt.of hr (blk_on hb hB2)).ld4
          have HLY : Hid _ := load_y yl (blk_on hb2 hB2)
          go_wp2_with first
            | ((with_reducible show wpList _ _ _ _ _ _); refine armL (.tmp 22) 63 rfl rfl rfl HL4.out ?_)
            | ((with_reducible show wpList _ _ _ _ _ _); refine armL (.tmp 4) 61 rfl rfl rfl HLY.out ?_)
          refine (HH4.out _).mono ?_
          rintro e w3 ⟨rfl, hB3⟩
          have hB23 := hB2.trans (hB3.mono hB2.size)
          obtain ⟨ldR, _, _, _, d21, _, d23⟩ := RuHi.of hr (blk_on hb hB23)
          rw [HNN.out.1] at d21
          have HLD : Hid _ := ldR
          have HG : Hid (∀ z : Hi w3, Calls Tryz.prog 136 #[.slice (some ⟨w.heap.size + 1, 0, none⟩) 4 4, .int .i64 d, .int .i64 h] z.W fun e w' => e = .returned (UE (accN y d h : Nat) 0) ∧ Below z.W.heap.size z.W w') := fun z => by
            have hS := Hi.blk (blk_on hb2 hB23) z
            have hby := bytes_of (cap := 4) (CellsAt.of_blk hS) yf (Array.getElem?_eq_some_iff.1 hS).1 (by omega)
            rw [yl] at hby
            exact get_at _ y d h z.W hby (by omega) (by omega) (by omega)
          clear ldR
          generalize accN y d h = hst at HG HHS
          go_wp2_with fail
          refine wp_region_hi (by kernel_rfl) (by kernel_rfl) ?_
          repeat (first | go_big_quiet_skip | (go_big_quiet_want; refine hi_load (.tmp 3) 65 rfl rfl HLD.out ?_; simp only [Act.put, List.setIfInBounds_toArray, List.set_cons_zero, List.set_cons_succ]; go_big_quiet_on) | (go_big_quiet_want; go_big_quiet_op; first | go_big_quiet_on | go_big_quiet_call (first | (go_at_call 137; with_reducible exact Hi.calls (HHB.out _)) | (go_at_call 136; with_reducible exact Hi.calls (HG.out _)))))
          refine wpQuiet_nil ?_
          intro _ hw
          obtain ⟨y4, rfl⟩ := hw
          have hB24 := hB23.trans (y4.below.mono hB23.size)
          have HL4b : Hid _ := (RuAt.of hr (blk_on hb hB24)).ldR
          go_wp2_with first
            | ((with_reducible show wpList _ _ _ _ _ _); refine armL (.tmp 3) 65 rfl rfl rfl HL4b.out ?_)
          refine (HSH.out _).mono ?_
          rintro e w5 ⟨rfl, hB5⟩
          have hB25 := hB24.trans (hB5.mono hB24.size)
          obtain ⟨ldR5, _, _, _, _, _, e23⟩ := RuHi.of hr (blk_on hb hB25)
          rw [HNN.out.2] at e23
          have HLD5 : Hid _ := ldR5
          clear ldR5
          go_wp2_with fail
          refine wp_region_hi (by kernel_rfl) (by kernel_rfl) ?_
          repeat (first | go_big_quiet_skip | (go_big_quiet_want; refine hi_load (.tmp 3) 65 rfl rfl HLD5.out ?_; simp only [Act.put, List.setIfInBounds_toArray, List.set_cons_zero, List.set_cons_succ]; go_big_quiet_on) | (go_big_quiet_want; go_big_quiet_op; first | go_big_quiet_on | go_big_quiet_call (first | (go_at_call 108; with_reducible exact Hi.calls (HPS.out _)) | (go_at_call 139; with_reducible exact Hi.calls (HPO.out _)))))
          refine wpQuiet_nil ?_
          intro _ hw
          obtain ⟨y6, rfl⟩ := hw
          have hB26 := hB25.trans (y6.below.mono hB25.size)
          go_wp2
          go_returns
          exact ⟨rfl, hBw.trans (hB26.mono hBw.size)⟩
      · have hq1 : decide (0 < q) = false := decide_eq_false hq
        rw [if_neg hq]
        rw [hq1] at HSH
        have HRS : Hid _ := hE
        clear hE h0 c4 hn hok hm hq1 hsum hhl
        obtain ⟨res, hres⟩ : ∃ res, accN y d h = res := ⟨_, rfl⟩
        rw [hres]
        have HRES : Hid (accN y d h = res) := hres
        clear hres HRS
        go_enter Tryz.func99, Tryz.ntmps99
        go_wp2_with first
          | ((with_reducible show wpList _ _ _ _ _ _); refine armL (.tmp 3) 65 rfl rfl rfl HLR.out ?_)
        refine (HC.out _).mono ?_
        rintro e w2 ⟨rfl, hB2⟩
        have HL4 : Hid _ := (RuAt.of hr (blk_on hb hB2)).ld4
        have HLY : Hid _ := load_y yl (blk_on hb2 hB2)
        go_wp2_with first
          | ((with_reducible show wpList _ _ _ _ _ _); refine armL (.tmp 22) 63 rfl rfl rfl HL4.out ?_)
          | ((with_reducible show wpList _ _ _ _ _ _); refine armL (.tmp 4) 61 rfl rfl rfl HLY.out ?_)
        refine (HH4.out _).mono ?_
        rintro e w3 ⟨rfl, hB3⟩
        have hB23 := hB2.trans (hB3.mono hB2.size)
        obtain ⟨ldR, _, _, _, d21, _, d23⟩ := RuHi.of hr (blk_on hb hB23)
        rw [HNN.out.1] at d21
        have HLD : Hid _ := ldR
        have HG : Hid (∀ z : Hi w3, Calls Tryz.prog 136 #[.slice (some ⟨w.heap.size + 1, 0, none⟩) 4 4, .int .i64 d, .int .i64 h] z.W fun e w' => e = .returned (UE (accN y d h : Nat) 0) ∧ Below z.W.heap.size z.W w') := fun z => by
          have hS := Hi.blk (blk_on hb2 hB23) z
          have hby := bytes_of (cap := 4) (CellsAt.of_blk hS) yf (Array.getElem?_eq_some_iff.1 hS).1 (by omega)
          rw [yl] at hby
          exact get_at _ y d h z.W hby (by omega) (by omega) (by omega)
        clear ldR
        rw [HRES.out] at HG
        go_wp2_with fail
        refine wp_region_hi (by kernel_rfl) (by kernel_rfl) ?_
        repeat (first | go_big_quiet_skip | (go_big_quiet_want; refine hi_load (.tmp 3) 65 rfl rfl HLD.out ?_; simp only [Act.put, List.setIfInBounds_toArray, List.set_cons_zero, List.set_cons_succ]; go_big_quiet_on) | (go_big_quiet_want; go_big_quiet_op; first | go_big_quiet_on | go_big_quiet_call (first | (go_at_call 137; with_reducible exact Hi.calls (HHB.out _)) | (go_at_call 136; with_reducible exact Hi.calls (HG.out _)))))
        refine wpQuiet_nil ?_
        intro _ hw
        obtain ⟨y4, rfl⟩ := hw
        have hB24 := hB23.trans (y4.below.mono hB23.size)
        have HL4b : Hid _ := (RuAt.of hr (blk_on hb hB24)).ldR
        go_wp2_with first
          | ((with_reducible show wpList _ _ _ _ _ _); refine armL (.tmp 3) 65 rfl rfl rfl HL4b.out ?_)
        refine (HSH.out _).mono ?_
        rintro e w5 ⟨rfl, hB5⟩
        have hB25 := hB24.trans (hB5.mono hB24.size)
        go_wp2
        go_returns
        exact ⟨rfl, hBw.trans (hB25.mono hBw.size)⟩
  · have hE : ofV r y n = (0, ckE r) := by unfold ofV; rw [if_neg h0]
    rw [hE]
    have q0 : (ckE r != 0) = true := by simpa using h0
    clear hE h0
    generalize ckE r = ce at *
    go_enter Tryz.func99, Tryz.ntmps99
    go_wp2_with first
      | ((with_reducible show wpList _ _ _ _ _ _); refine armL (.tmp 3) 65 rfl rfl rfl HLR.out ?_)
    refine (HC.out _).mono ?_
    rintro e w2 ⟨rfl, hB2⟩
    go_wp2
    go_returns
    exact ⟨rfl, hBw.trans (hB2.mono hBw.size)⟩

end Go.Proofs.YtaebknkjhhcneaaGreatDoor
