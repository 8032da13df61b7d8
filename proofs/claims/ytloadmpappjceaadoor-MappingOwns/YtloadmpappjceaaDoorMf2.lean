/-
  Two edges that are the same; the statement MappingEdges for every argument.
-/
import Derived.Test.YtloadmpappjceaaDoorMf1
import Derived.Test.YtloadmpappjceaaDoorMe3
import Derived.OpenShut
import Derived.ChangeArms
import Derived.ChangeSame
import Derived.ProofKit
namespace Go.Proofs.YtloadmpappjceaaDoor
open Go Go.RowKit Go.ChangeShapes Go.WideShapes Go.ChangeAt
set_option linter.unusedVariables false
set_option linter.unusedSimpArgs false

theorem arr_cut (x y z : List Value) {n m : Nat} (hx : x.length = n) (hy : n + y.length = m) : (x ++ (y ++ z)).toArray.extract n m = y.toArray := by
  apply Array.ext'
  simp only [List.extract_toArray, List.extract_eq_take_drop]
  subst hx
  rw [List.drop_left, show m - x.length = y.length by omega, List.take_left]
set_option maxHeartbeats 1000000 in
set_option maxRecDepth 100000 in
theorem eqP4s (d : Nat) (zs : List Int) (n : Int) (h : FitB zs) (hl : zs.length = 4) (w : World) :
    (Op.equalIn (d + 3) 29 (P4L zs n) (P4L zs n)).run Tryd.prog w = .ok true w := by
  have h1 : ∀ W, (Op.equalIn (d + 2) 27 (A4L zs) (A4L zs)).run Tryd.prog W = .ok true W := fun W => by
    have := eq_arr4 d zs zs h h hl hl W
    rw [decide_eq_true rfl] at this
    exact this
  have p1 : (cp4 zs n).toArray.extract 0 4 = (b8 zs).toArray := by
    have := arr_cut [] (b8 zs) [Value.int .i64 n] (n := 0) (m := 4) rfl (by rw [b8_length, hl])
    simpa [cp4] using this
  have p3 : (cp4 zs n).toArray[4]? = some (Value.int .i64 n) := by simp [cp4, b8_length, hl]
  have h2 : ∀ W, (Op.equalIn (d + 2) 3 (.int .i64 n) (.int .i64 n)).run Tryd.prog W = .ok true W := fun W => by simp [Op.equalIn, go_sem]
  unfold P4L
  generalize (cp4 zs n).toArray = x at *
  unfold A4L at h1
  generalize (b8 zs).toArray = u at *
  have hstd : Tryd.prog.stoodInHeld 29 = false := by kernel_rfl
  show (Op.equalIn ((d + 2) + 1) _ _ _).run Tryd.prog w = _
  rw [Op.equalIn]
  generalize Op.equalIn (d + 2) = E at *
  simp [go_sem, hstd, p1, p3, h1, h2]
theorem eqP6s (d : Nat) (zs : List Int) (n : Int) (h : FitB zs) (hl : zs.length = 16) (w : World) : (Op.equalIn (d + 3) 25 (P6 zs n) (P6 zs n)).run Tryd.prog w = .ok true w := by
  have := eqP6 d zs zs n n h h hl hl w
  rw [decide_eq_true rfl, Bool.true_and, beq_self_eq_true] at this
  exact this
theorem eqA6s (d : Nat) (zs : List Int) (h : FitB zs) (hl : zs.length = 16) (w : World) : (Op.equalIn (d + 2) 23 (A6 zs) (A6 zs)).run Tryd.prog w = .ok true w := by
  have := eq_arr16 d zs zs h h hl hl w
  rw [decide_eq_true rfl] at this
  exact this
structure Ed.Fit (e : Ed) : Prop where
  f4 : FitB e.l4
  k4 : e.l4.length = 4
  f6 : FitB e.l6
  k6 : e.l6.length = 16
  fw : FitB e.ow
  kw : e.ow.length = 16
set_option maxHeartbeats 2000000 in
set_option maxRecDepth 100000 in
theorem eqEs (d : Nat) (e : Ed) (h : e.Fit) (w : World) : (Op.equalIn (d + 4) 45 (EV e) (EV e)).run Tryd.prog w = .ok true w := by
  have h1 := eqP4s d e.l4 e.n4 h.f4 h.k4
  have h2 := eqPS (d + 1) e.o e.l e.p
  have h3 := eqP6s d e.l6 e.n6 h.f6 h.k6
  have h4 := eqA6s (d + 1) e.ow h.fw h.kw
  have l4 := cp4_length e.l4 e.n4 h.k4
  have l6 := cp6_length e.l6 e.n6 h.k6
  have lw : (b8 e.ow).length = 16 := by rw [b8_length, h.kw]
  have p1 : (edC e).toArray.extract 0 5 = (cp4 e.l4 e.n4).toArray := by
    have := arr_cut [] (cp4 e.l4 e.n4) (PSL e.o e.l e.p ++ (cp6 e.l6 e.n6 ++ b8 e.ow)) (n := 0) (m := 5) rfl (by omega)
    simpa [edC] using this
  have p2 : (edC e).toArray.extract 5 8 = (PSL e.o e.l e.p).toArray := arr_cut (cp4 e.l4 e.n4) (PSL e.o e.l e.p) (cp6 e.l6 e.n6 ++ b8 e.ow) l4 rfl
  have p3 : (edC e).toArray.extract 8 25 = (cp6 e.l6 e.n6).toArray := by
    have := arr_cut (cp4 e.l4 e.n4 ++ PSL e.o e.l e.p) (cp6 e.l6 e.n6) (b8 e.ow) (n := 8) (m := 25) (by simp [l4]) (by omega)
    simpa [edC] using this
  have p4 : (edC e).toArray.extract 25 41 = (u8s e.ow).toArray := by
    have := arr_cut (cp4 e.l4 e.n4 ++ PSL e.o e.l e.p ++ cp6 e.l6 e.n6) (b8 e.ow) [] (n := 25) (m := 41) (by simp [l4, l6]) (by omega)
    have e2 : edC e = cp4 e.l4 e.n4 ++ PSL e.o e.l e.p ++ cp6 e.l6 e.n6 ++ (b8 e.ow ++ []) := by simp [edC]
    rw [e2]
    exact this
  unfold EV
  generalize (edC e).toArray = x at *
  unfold P4L at h1
  unfold P6 at h3
  unfold A6 at h4
  have h2' : ∀ W, (Op.equalIn (d + 3) 34 (.agg (PSL e.o e.l e.p).toArray) (.agg (PSL e.o e.l e.p).toArray)).run Tryd.prog W = .ok true W := h2
  have h4' : ∀ W, (Op.equalIn (d + 3) 23 (.agg (u8s e.ow).toArray) (.agg (u8s e.ow).toArray)).run Tryd.prog W = .ok true W := h4
  clear h2 h4
  generalize (cp4 e.l4 e.n4).toArray = y1 at *
  generalize (PSL e.o e.l e.p).toArray = y2 at *
  generalize (cp6 e.l6 e.n6).toArray = y3 at *
  generalize (u8s e.ow).toArray = y4 at *
  have hstd : Tryd.prog.stoodInHeld 45 = false := by kernel_rfl
  show (Op.equalIn ((d + 3) + 1) _ _ _).run Tryd.prog w = _
  rw [Op.equalIn]
  generalize Op.equalIn (d + 3) = E at *
  simp [go_sem, hstd, p1, p2, p3, p4, h1, h2', h3, h4']
theorem eqlE (e : Ed) (h : e.Fit) (w : World) : (binOp .eql 45 (EV e) (EV e)).run Tryd.prog w = .ok (.bool true) w := by
  have := eqEs 9996 e h w
  simp only [binOp, Op.equal, Op.maxDepth]
  simp [this]
theorem gdE (b : BinOp) (x y : Operand) (u v : Array Value) (w : World) : (eqGuard b 45 x y (.agg u) (.agg v)).run Tryd.prog w = .ok () w := by
  have he : Tryd.prog.eqGuardType Tryd.prog.depth 45 = false := by kernel_rfl
  cases b <;> simp [eqGuard, go_sem, he]
theorem edg_fit {r : Ru} (h : r.Ok) (v : Nat) : (edg r v).Fit := ⟨by rw [edg_l4]; exact v4L_fit h, by rw [edg_l4]; exact v4L_length h, by rw [edg_l6]; exact endL_fit h, by rw [edg_l6]; exact endL_length h, by rw [edg_ow]; exact ownL_fit h, by rw [edg_ow]; exact ownL_length h⟩
theorem zero_fit : zeroEd.Fit := ⟨fit_of (by decide), rfl, fit_of (by decide), rfl, fit_of (by decide), rfl⟩
theorem edge_form (r : Ru) (hr : r.In) (v : Nat) : ∃ (e : Ed) (g : Int), e.Fit ∧ edgE r v = .tuple #[EV e, .int .i64 g] := by
  unfold edgE
  by_cases h : ckE r = 0
  · rw [if_pos h]
    by_cases h2 : v < 2 ^ r.ea.toNat
    · rw [if_pos h2]; exact ⟨_, _, edg_fit (Ru.ok_of hr h) v, rfl⟩
    · rw [if_neg h2]; exact ⟨_, _, zero_fit, rfl⟩
  · rw [if_neg h]; exact ⟨_, _, zero_fit, rfl⟩
theorem armB {P : Program} {w : World} {ops : Array Oper} {rest : List Oper} {o : Oper} {a : Act} {Q : Exit → Act → World → Prop} (b : BinOp) (t u : TypeId) (x y : Operand) (hop : o.op = Op.binOp b t x y u) (hw : Region.wanted o (yielded ops a.tmps) = true) {vx vy v : Value} (hx : a.eval x = vx) (hy : a.eval y = vy) (hgd : (eqGuard b t x y vx vy).run P w = .ok () w) (hrun : (binOp b t vx vy).run P w = .ok v w) (hK : wpList P ops Q rest (a.put o.dst v) w) : wpList P ops Q (o :: rest) a w :=
  arm_bin hw b t u x y hop hx hy hgd hrun hK

set_option maxHeartbeats 4000000 in
set_option maxRecDepth 100000 in
theorem mappingEdges_walk (r : Ru) (hr : r.In) (v : Nat) (hv : v < 18446744073709551616) (w : World) (ht : Tz w) :
    Calls Tryd.prog 4 #[RV r, .int .u64 v] w fun e w' => e = .returned (.bool true) ∧ Below w.heap.size w w' := by
  have hB0 := bA w (RO r)
  have hb := blk_new w (RO r)
  obtain ⟨e, g, hef, hee⟩ := edge_form r hr v
  have HE1 : Hid (∀ W, Calls Tryd.prog 17 #[RV r, .int .u64 v] W fun e' w' => e' = .returned (.tuple #[EV e, .int .i64 g]) ∧ Below W.heap.size W w') := fun W => by have := Edge_any r hr v hv W; rw [hee] at this; exact this
  have HE2 : Hid (∀ W, Calls Tryd.prog 18 #[RV r, .int .u64 v] W fun e' w' => e' = .returned (.tuple #[EV e, .int .i64 g]) ∧ Below W.heap.size W w') := fun W => by have := REdge_any r hr v hv W; rw [hee] at this; exact this
  have q5 : (g == g) = true := beq_self_eq_true g
  have HLR : Hid _ := (RuAt.of hr hb).ldR
  have hlen := edC_length hef.k4 hef.k6 hef.kw
  have hone := edC_one e
  have HEQ : Hid _ := eqlE e hef
  generalize hW : w.alloc (RO r) = W at *
  unfold EV at HE1 HE2 HEQ
  generalize edC e = x at *
  clear hee hef
  go_enter Tryd.func4, Tryd.ntmps4
  go_wp2_with first
    | ((with_reducible show wpList _ _ _ _ _ _); refine armL (.tmp 2) 31 rfl rfl rfl HLR.out ?_)
  refine (HE1.out _).mono ?_
  rintro e' w2 ⟨rfl, hB2⟩
  obtain ⟨w3, hst3, b3, hB3⟩ := box_new Tryd.sizeOf45 w2 zeroEL rfl x hlen hone
  have HS3 : Hid _ := hst3
  have hb23 := hB2.trans (hB3.mono hB2.size)
  have HL3 : Hid _ := (RuAt.of hr (blk_on hb hb23)).ldR
  clear hst3
  go_wp2_with first
    | ((with_reducible show wpList _ _ _ _ _ _); refine armL (.tmp 2) 31 rfl rfl rfl HL3.out ?_)
    | ((with_reducible show wpList _ _ _ _ _ _); refine armS (.tmp 5) (.tmp 13) 45 rfl rfl rfl rfl HS3.out ?_)
  refine (HE2.out _).mono ?_
  rintro e' w4 ⟨rfl, hB4⟩
  obtain ⟨w5, hst5, b5, hB5⟩ := box_new Tryd.sizeOf45 w4 zeroEL rfl x hlen hone
  have HS5 : Hid _ := hst5
  have hb35 := hB4.trans (hB5.mono hB4.size)
  have hb25 := hb23.trans (hb35.mono hb23.size)
  have HX3 : Hid _ := agg_load (t := 45) Tryd.isAgg45 Tryd.sizeOf45 hlen (CellsAt.of_blk (blk_on b3 hb35))
  have HX5 : Hid _ := agg_load (t := 45) Tryd.isAgg45 Tryd.sizeOf45 hlen (CellsAt.of_blk b5)
  have hBw := hB0.trans (hb25.mono hB0.size)
  have HTZ : Hid (Tz w5) := ht.on hBw
  have HEQ5 : Hid _ := HEQ.out w5
  clear hst5 hB0 hb hB2 hB3 hb23 hB4 hB5 hb35 hb25 b3 b5 hlen hone
  go_wp2_with first
    | ((with_reducible show wpList _ _ _ _ _ _); refine armS (.tmp 7) (.tmp 19) 45 rfl rfl rfl rfl HS5.out ?_)
    | ((with_reducible show wpList _ _ _ _ _ _); refine armL (.tmp 5) 45 rfl rfl rfl HX3.out ?_)
    | ((with_reducible show wpList _ _ _ _ _ _); refine armL (.tmp 7) 45 rfl rfl rfl HX5.out ?_)
    | ((with_reducible show wpList _ _ _ _ _ _); refine armB .eql 45 45 (.tmp 21) (.tmp 22) rfl rfl rfl rfl (gdE _ _ _ _ _ _) HEQ5.out ?_)
  refine (awake_calls _ HTZ.out).mono ?_
  rintro e' w6 ⟨rfl, hB6⟩
  go_wp2
  go_ret
  exact ⟨rfl, hBw.trans (hB6.mono hBw.size)⟩

set_option maxRecDepth 100000 in
theorem mappingEdges_open {H : Type} {enc : TypeId × Value → H} {W : World} {base : Nat} (tb : Tz W) (v0 v1 : Value) {d0 d1 : DataW H} {p0 p1 : List MemPlace}
    (o0 : Value.okWide Tryd.prog W .any base 31 v0) (h0 : DataW.Trod enc Tryd.prog W 0 (fun _ => true) true 31 v0 d0 p0)
    (o1 : Value.okWide Tryd.prog W .any base 38 v1) (h1 : DataW.Trod enc Tryd.prog W 0 (fun _ => true) true 38 v1 d1 p1) :
    Calls Tryd.prog 4 #[v0, v1] W fun e w' => e = .returned (.bool true) ∧ Below W.heap.size W w' := by
  obtain ⟨r, rfl, hr⟩ := open_rule h0
  obtain ⟨k, rfl, _, _, wk⟩ := open_int Tryd.underlying38 o1 h1
  have hk := bounds_u64 wk
  obtain ⟨n, rfl⟩ := Int.eq_ofNat_of_zero_le hk.1
  exact mappingEdges_walk r hr n (by omega) W tb

end Go.Proofs.YtloadmpappjceaaDoor
