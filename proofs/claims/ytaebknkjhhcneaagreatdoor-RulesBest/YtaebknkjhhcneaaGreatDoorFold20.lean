/-
  head, four and six of the program.
  Edges in memory; what serves for edgeOf.
  Check of the document.
  Ports and Count of the document.
-/
import Derived.Test.YtaebknkjhhcneaaGreatDoorFold19
namespace Go.Proofs.YtaebknkjhhcneaaGreatDoor
open Go Go.RowKit
set_option linter.unusedVariables false
set_option linter.unusedSimpArgs false

abbrev RunV (n : Int) (v : Int) : Value := .agg #[.int .i64 n, .int .u64 v]
abbrev RunL (n : Int) (v : Int) : List Value := [.int .i64 n, .int .u64 v]

theorem run_store {w : World} {R : Nat} {c : List Value} (h : w.heap[R]? = some (.cells c.toArray 199)) (hc : c.length = 2) (n v : Int) :
    ∃ w', (Instr.storeAt 199 (.pointer (some ⟨R, 0, none⟩)) (RunV n v)).run Tryz.prog w = .ok () w' ∧ (loadVar 199 ⟨R, 0, none⟩).run Tryz.prog w' = .ok (RunV n v) w' ∧ w'.heap[R]? = some (.cells (RunL n v).toArray 199) ∧ Only R w w' := by
  obtain ⟨wE, hst, bE, honE⟩ := box_store Tryz.sizeOf199 h hc (RunL n v) rfl (by simp [RunL, Value.oneCell'])
  exact ⟨wE, hst, agg_loadVar (t := 199) Tryz.isAgg199 Tryz.sizeOf199 rfl (CellsAt.of_blk bE), bE, honE⟩

set_option maxHeartbeats 1000000 in
set_option maxRecDepth 100000 in
theorem head_any (v : Value) (zs : List Int) (n : Nat) (w : World) (h : Fld.BytesAt w.heap.size w v zs) (h64 : n ≤ 64) (hn : n ≤ 8 * zs.length) :
    Calls Tryz.prog 140 #[v, .int .i64 n] w fun e w' => e = .returned (RunV n (accN zs 0 n : Nat)) ∧ Below w.heap.size w w' := by
  have hb := blk_new w (.cells (RunL 0 0).toArray 199)
  have hB0 := bA w (.cells (RunL 0 0).toArray 199)
  have hok : Fld.okG zs.length 0 n = true := by
    unfold Fld.okG Fld.thereB
    simp
    omega
  have hg := Fld.get_calls v zs 0 n (w.alloc (.cells (RunL 0 0).toArray 199)) (h.later hB0) (by omega) (by omega)
  have e1 : Fld.getV zs 0 n = (accN zs 0 n : Nat) := by unfold Fld.getV; rw [if_pos hok]; rfl
  have e2 : Fld.getE zs 0 n = 0 := by unfold Fld.getE; rw [if_pos hok]
  rw [e1, e2] at hg
  have hlt := accN_lt zs 0 n
  have HG : Hid _ := hg
  clear hg e1 e2 hok
  generalize accN zs 0 n = x at *
  obtain ⟨_, _, a, cap, rfl, _⟩ := id h
  generalize hW : w.alloc (.cells (RunL 0 0).toArray 199) = W at *
  obtain ⟨wE, hst, hlv, bE, hon⟩ := run_store hb rfl n x
  have HST : Hid _ := hst
  have HLV : Hid _ := hlv
  have HBE : Hid (Below w.heap.size w wE) := hB0.trans (hon.below (Nat.le_refl _))
  clear hst hlv bE hon h hb hB0
  go_enter Tryz.func140, Tryz.ntmps140
  go_wp2_with fail
  refine Calls.mono HG.out ?_
  rintro e w2 ⟨rfl, rfl⟩
  go_wp2_with first
    | ((with_reducible show wpList _ _ _ _ _ _); refine armS (.tmp 4) (.tmp 15) 199 rfl rfl rfl rfl HST.out ?_)
  refine bodyPost_ret (res_cell1 Tryz.results140 rfl HLV.out) rfl ?_
  exact ⟨rfl, HBE.out⟩

/-- A copy of bytes into an array of zeros. -/
theorem copy_pad {w : World} {A N : Nat} {v : Value} {zs : List Int} {ty' : TypeId} (h : w.heap[A]? = some (.cells (b8 (List.replicate N 0)).toArray ty')) (hs : Fld.BytesAt w.heap.size w v zs) (hl : zs.length ≤ N) (ty : TypeId) :
    ∃ r w2, (Builtin.copy_ #[127, 127] ty #[.slice (some ⟨A, 0, none⟩) N N, v]).run Tryz.prog w = .ok r w2 ∧ w2.heap[A]? = some (.cells (b8 (padL zs N)).toArray ty') ∧ Only A w w2 := by
  have hinf : (Tryz.prog.info? 5).map (·.size) = some 1 := by kernel_rfl
  obtain ⟨hf, _, a, cap, rfl, hz⟩ := hs
  rcases hz with h0 | ⟨b, off, rfl, hlt, hc⟩
  · obtain rfl : zs = [] := List.length_eq_zero_iff.1 h0
    refine ⟨_, w, run_copy_none w _ _ ty 5 _ a N N 0 cap Tryz.underlying127 hinf (by simp), ?_, Only.refl _ _⟩
    rw [h]
    simp [padL]
  · have hbl := blk_sets (b := A) (t := ty') (b8 zs) 0 _ w h
    rw [setsL_eq _ _ _ (by simp [b8_length]; omega)] at hbl
    refine ⟨_, _, run_copy_cells w _ _ ty 5 A 0 N N ⟨b, off, none⟩ zs.length cap (b8 zs) Tryz.underlying127 hinf (by rw [b8_length]; exact (Nat.min_eq_left hl).symm) ?_ (fun j hj => ?_) (fun j _ => blk_open h _) (b8_one _), ?_, Only.sets _ _ _ (Only.refl _ _)⟩
    · intro j x hj
      rw [Go.WideShapes.add_plain]
      have hj2 : j < zs.length := by
        have := (List.getElem?_eq_some_iff.1 hj).1
        rwa [b8_length] at this
      rw [hc j hj2]
      rw [b8, List.getElem?_map] at hj
      rw [List.getElem?_eq_getElem hj2] at hj ⊢
      simpa using hj
    · rw [b8_length] at hj
      rw [Nat.zero_add, blk_cell h (j := j) (v := (b8 (List.replicate N 0))[j]'(by simp [b8_length]; omega)) (by simp)]
      rfl
    · have e : (b8 (List.replicate N 0)).take 0 ++ b8 zs ++ (b8 (List.replicate N 0)).drop (0 + (b8 zs).length) = b8 (padL zs N) := by
        simp [padL, b8]
      rw [hbl, e]

theorem cat_ok {rs : List (Int × Nat)} {bs : List Int} {er : Int} (h : Fld.CatIs rs bs er) (ho : Fld.allOk rs rs.length) (ht : Fld.total rs rs.length ≤ 65536) : er = 0 ∧ bs = Fld.catRow rs (Fld.total rs rs.length) rs.length := by
  have := Fld.CatIs.uniq h (.inr (.inr ⟨ho, ht, rfl, rfl⟩))
  exact ⟨this.2, this.1⟩

theorem two_box' (w : World) (o1 o2 : Obj) : ((w.alloc o1).alloc o2).heap[w.heap.size]? = some o1 ∧ ((w.alloc o1).alloc o2).heap[w.heap.size + 1]? = some o2 ∧ Below w.heap.size w ((w.alloc o1).alloc o2) := by
  have hz : (w.alloc o1).heap.size = w.heap.size + 1 := by simp
  have h2 := blk_new (w.alloc o1) o2
  rw [hz] at h2
  exact ⟨blk_alloc (blk_new w o1) _, h2, (bA w o1).alloc (by simp) _⟩
theorem armC {P : Program} {w w2 : World} {ops : Array Oper} {rest : List Oper} {o : Oper} {a : Act} {Q : Exit → Act → World → Prop} (s x : Operand) (t u : TypeId) (hop : o.op = Op.call { callee := Callee.builtin Builtin.copy, args := #[s, x], argTypes := #[t, u] }) (hg : o.guard = none) {vs vx v : Value} (hs : a.eval s = vs) (hx : a.eval x = vx)
    (hrun : (Builtin.copy_ #[t, u] o.type #[vs, vx]).run P w = .ok v w2) (hK : wpList P ops Q rest (a.put o.dst v) w2) : wpList P ops Q (o :: rest) a w := by
  refine BigFrame.wpList_want (by simp [Region.wanted, hg]) fun K hK' => ?_
  unfold Oper.wp
  simp [execOp, hop, resolve, invoke, builtin, hs, hx, hrun, Result.andThen]
  exact hK' _ _ hK


set_option maxHeartbeats 1000000 in
set_option maxRecDepth 100000 in
theorem four_any (v : Value) (rs : List (Int × Nat)) (w : World) (h : Fld.RunsAt w.heap.size w v rs) (hl : rs.length ≤ 1200) (ho : Fld.allOk rs rs.length) (ht : Fld.total rs rs.length ≤ 32) :
    Calls Tryz.prog 142 #[v] w fun e w' => e = .returned (.agg (b8 (padL (Fld.catRow rs (Fld.total rs rs.length) rs.length) 4)).toArray) ∧ Below w.heap.size w w' := by
  obtain ⟨hb, hb2, hBw⟩ := two_box' w (.cells zero4L.toArray 61) (.cells zero4L.toArray 61)
  have hc := Fld.cat_calls v rs _ (h.later hBw) hl
  obtain ⟨_, a, cap, rfl, _⟩ := id h
  generalize hW : (w.alloc (.cells zero4L.toArray 61)).alloc (.cells zero4L.toArray 61) = W at *
  have HC : Hid (Calls Tryz.prog 172 #[.slice a rs.length cap] W fun e w' => Fld.CatPost rs W e w') := hc
  clear hc h
  go_enter Tryz.func142, Tryz.ntmps142
  go_wp2_with fail
  refine Calls.mono HC.out ?_
  rintro _ w2 ⟨r, bs, er, rfl, hbs, hB2, hcat⟩
  obtain ⟨rfl, rfl⟩ := cat_ok hcat ho (by omega)
  clear hcat HC
  have hlen : (Fld.catRow rs (Fld.total rs rs.length) rs.length).length ≤ 4 := by simp; omega
  have hfit : FitB (Fld.catRow rs (Fld.total rs rs.length) rs.length) := Fld.catRow_fit _ _ _
  generalize hbsE : Fld.catRow rs (Fld.total rs rs.length) rs.length = bs at *
  have HBS : Hid _ := hbsE
  clear hbsE
  obtain ⟨_, _, a2, cap2, rfl, _⟩ := id hbs
  obtain ⟨rr, w3, hcp, hb3, hon3⟩ := copy_pad (N := 4) (blk_on hb2 hB2) hbs hlen 3
  have hbR := (hon3.other w.heap.size (by omega)).trans (blk_on hb hB2)
  have hpl : (b8 (padL bs 4)).length = 4 := by rw [b8_length, padL_length _ _ hlen]
  have HL3 : Hid _ := agg_load (t := 61) Tryz.isAgg61 Tryz.sizeOf61 hpl (CellsAt.of_blk hb3)
  obtain ⟨wE, hst, bE, honE⟩ := box_store Tryz.sizeOf61 hbR rfl (b8 (padL bs 4)) hpl (b8_one _)
  have HLV : Hid _ := agg_loadVar (t := 61) Tryz.isAgg61 Tryz.sizeOf61 hpl (CellsAt.of_blk bE)
  have HST : Hid _ := hst
  have HBE : Hid (Below w.heap.size w wE) := ((hBw.trans (hB2.mono hBw.size)).trans (hon3.below (by omega))).trans (honE.below (Nat.le_refl _))
  have HCP : Hid _ := hcp
  clear hst bE honE hbR hb3 hcp hbs hB2 hon3
  go_wp2_with first
    | ((with_reducible show wpList _ _ _ _ _ _); refine armL (.tmp 3) 61 rfl rfl rfl HL3.out ?_)
    | ((with_reducible show wpList _ _ _ _ _ _); refine armS (.tmp 2) (.tmp 14) 61 rfl rfl rfl rfl HST.out ?_)
    | ((with_reducible show wpList _ _ _ _ _ _); refine armC (.tmp 11) (.tmp 12) 127 127 rfl rfl rfl rfl HCP.out ?_)
  refine bodyPost_ret (res_cell1 Tryz.results142 rfl HLV.out) rfl ?_
  exact ⟨by rw [HBS.out], HBE.out⟩


set_option maxHeartbeats 1000000 in
set_option maxRecDepth 100000 in
theorem six_any (v : Value) (rs : List (Int × Nat)) (w : World) (h : Fld.RunsAt w.heap.size w v rs) (hl : rs.length ≤ 1200) (ho : Fld.allOk rs rs.length) (ht : Fld.total rs rs.length ≤ 128) :
    Calls Tryz.prog 141 #[v] w fun e w' => e = .returned (.agg (b8 (padL (Fld.catRow rs (Fld.total rs rs.length) rs.length) 16)).toArray) ∧ Below w.heap.size w w' := by
  obtain ⟨hb, hb2, hBw⟩ := two_box' w (.cells zero16V.toArray 24) (.cells zero16V.toArray 24)
  have hc := Fld.cat_calls v rs _ (h.later hBw) hl
  obtain ⟨_, a, cap, rfl, _⟩ := id h
  generalize hW : (w.alloc (.cells zero16V.toArray 24)).alloc (.cells zero16V.toArray 24) = W at *
  have HC : Hid (Calls Tryz.prog 172 #[.slice a rs.length cap] W fun e w' => Fld.CatPost rs W e w') := hc
  clear hc h
  go_enter Tryz.func141, Tryz.ntmps141
  go_wp2_with fail
  refine Calls.mono HC.out ?_
  rintro _ w2 ⟨r, bs, er, rfl, hbs, hB2, hcat⟩
  obtain ⟨rfl, rfl⟩ := cat_ok hcat ho (by omega)
  clear hcat HC
  have hlen : (Fld.catRow rs (Fld.total rs rs.length) rs.length).length ≤ 16 := by simp; omega
  have hfit : FitB (Fld.catRow rs (Fld.total rs rs.length) rs.length) := Fld.catRow_fit _ _ _
  generalize hbsE : Fld.catRow rs (Fld.total rs rs.length) rs.length = bs at *
  have HBS : Hid _ := hbsE
  clear hbsE
  obtain ⟨_, _, a2, cap2, rfl, _⟩ := id hbs
  obtain ⟨rr, w3, hcp, hb3, hon3⟩ := copy_pad (N := 16) (blk_on hb2 hB2) hbs hlen 3
  have hbR := (hon3.other w.heap.size (by omega)).trans (blk_on hb hB2)
  have hpl : (b8 (padL bs 16)).length = 16 := by rw [b8_length, padL_length _ _ hlen]
  have HL3 : Hid _ := agg_load (t := 24) Tryz.isAgg24 Tryz.sizeOf24 hpl (CellsAt.of_blk hb3)
  obtain ⟨wE, hst, bE, honE⟩ := box_store Tryz.sizeOf24 hbR rfl (b8 (padL bs 16)) hpl (b8_one _)
  have HLV : Hid _ := agg_loadVar (t := 24) Tryz.isAgg24 Tryz.sizeOf24 hpl (CellsAt.of_blk bE)
  have HST : Hid _ := hst
  have HBE : Hid (Below w.heap.size w wE) := ((hBw.trans (hB2.mono hBw.size)).trans (hon3.below (by omega))).trans (honE.below (Nat.le_refl _))
  have HCP : Hid _ := hcp
  clear hst bE honE hbR hb3 hcp hbs hB2 hon3
  go_wp2_with first
    | ((with_reducible show wpList _ _ _ _ _ _); refine armL (.tmp 3) 24 rfl rfl rfl HL3.out ?_)
    | ((with_reducible show wpList _ _ _ _ _ _); refine armS (.tmp 2) (.tmp 14) 24 rfl rfl rfl rfl HST.out ?_)
    | ((with_reducible show wpList _ _ _ _ _ _); refine armC (.tmp 11) (.tmp 12) 127 127 rfl rfl rfl rfl HCP.out ?_)
  refine bodyPost_ret (res_cell1 Tryz.results141 rfl HLV.out) rfl ?_
  exact ⟨by rw [HBS.out], HBE.out⟩

end Go.Proofs.YtaebknkjhhcneaaGreatDoor

namespace Go.Proofs.YtaebknkjhhcneaaGreatDoor
open Go Go.RowKit
set_option linter.unusedVariables false
set_option linter.unusedSimpArgs false

/-- An edge. -/
structure Ed where
  l4 : List Int
  n4 : Int
  o : Int
  l : Int
  p : Int
  l6 : List Int
  n6 : Int
  ow : List Int
def edC (e : Ed) : List Value := cp4 e.l4 e.n4 ++ (PSL e.o e.l e.p ++ (cp6 e.l6 e.n6 ++ b8 e.ow))
abbrev EV (e : Ed) : Value := .agg (edC e).toArray
abbrev EO (e : Ed) : Obj := .cells (edC e).toArray 69
structure Ed.In (e : Ed) : Prop where
  f4 : FitB e.l4
  k4 : e.l4.length = 4
  b4 : In64 e.n4
  bo : In64 e.o
  bl : In64 e.l
  bp : 0 ≤ e.p ∧ e.p < 65536
  f6 : FitB e.l6
  k6 : e.l6.length = 16
  b6 : In64 e.n6
  fw : FitB e.ow
  kw : e.ow.length = 16
def zeroEd : Ed := ⟨[0, 0, 0, 0], 0, 0, 0, 0, [0, 0, 0, 0, 0, 0, 0, 0, 0, 0, 0, 0, 0, 0, 0, 0], 0, [0, 0, 0, 0, 0, 0, 0, 0, 0, 0, 0, 0, 0, 0, 0, 0]⟩
abbrev zeroEL : List Value := [.int .u8 0, .int .u8 0, .int .u8 0, .int .u8 0, .int .i64 0, .int .i64 0, .int .i64 0, .int .u16 0, .int .u8 0, .int .u8 0, .int .u8 0, .int .u8 0, .int .u8 0, .int .u8 0, .int .u8 0, .int .u8 0, .int .u8 0, .int .u8 0, .int .u8 0, .int .u8 0, .int .u8 0, .int .u8 0, .int .u8 0, .int .u8 0, .int .i64 0, .int .u8 0, .int .u8 0, .int .u8 0, .int .u8 0, .int .u8 0, .int .u8 0, .int .u8 0, .int .u8 0, .int .u8 0, .int .u8 0, .int .u8 0, .int .u8 0, .int .u8 0, .int .u8 0, .int .u8 0, .int .u8 0]
theorem zeroEd_c : edC zeroEd = zeroEL := rfl
theorem edC_length {e : Ed} (h4 : e.l4.length = 4) (h6 : e.l6.length = 16) (hw : e.ow.length = 16) : (edC e).length = 41 := by
  simp [edC, cp4_length _ _ h4, cp6_length _ _ h6, b8_length, hw]
theorem edC_one (e : Ed) : ∀ v ∈ edC e, v.oneCell' = true := by
  intro v hv
  rcases List.mem_append.1 hv with hv | hv
  · exact cp4_one _ _ v hv
  · rcases List.mem_append.1 hv with hv | hv
    · simp [PSL] at hv; rcases hv with rfl | rfl | rfl <;> rfl
    · rcases List.mem_append.1 hv with hv | hv
      · exact cp6_one _ _ v hv
      · exact b8_one _ v hv

/-- What lies in an edge's box. -/
structure EdAt (W : World) (b : Nat) (e : Ed) : Prop where
  ldE : (Instr.loadAt 69 (.pointer (some ⟨b, 0, none⟩))).run Tryz.prog W = .ok (EV e) W
  ldV : (loadVar 69 ⟨b, 0, none⟩).run Tryz.prog W = .ok (EV e) W
  ld4 : (Instr.loadAt 63 (.pointer (some ⟨b, 0, none⟩))).run Tryz.prog W = .ok (P4L e.l4 e.n4) W
  ldS : (Instr.loadAt 67 (.pointer (some ⟨b, 5, none⟩))).run Tryz.prog W = .ok (PS e.o e.l e.p) W
  ld6 : (Instr.loadAt 26 (.pointer (some ⟨b, 8, none⟩))).run Tryz.prog W = .ok (P6 e.l6 e.n6) W
  la6 : (Instr.loadAt 24 (.pointer (some ⟨b, 8, none⟩))).run Tryz.prog W = .ok (A6 e.l6) W
  ldw : (Instr.loadAt 24 (.pointer (some ⟨b, 25, none⟩))).run Tryz.prog W = .ok (A6 e.ow) W
  s4 : CellsAt W b 0 (b8 e.l4)
  c6 : W.cell? ⟨b, 6, none⟩ = some (.int .i64 e.l)
  c7 : W.cell? ⟨b, 7, none⟩ = some (.int .u16 e.p)
  c24 : W.cell? ⟨b, 24, none⟩ = some (.int .i64 e.n6)

theorem EdAt.of {W : World} {b : Nat} {e : Ed} (k4 : e.l4.length = 4) (k6 : e.l6.length = 16) (kw : e.ow.length = 16) (h : W.heap[b]? = some (EO e)) : EdAt W b e := by
  have h0 : CellsAt W b 0 (edC e) := CellsAt.of_blk h
  have l4 := cp4_length e.l4 e.n4 k4
  have l6 := cp6_length e.l6 e.n6 k6
  have u4 : (b8 e.l4).length = 4 := by rw [b8_length, k4]
  have u6 : (u8s e.l6).length = 16 := by rw [u8s_length, k6]
  have uw : (b8 e.ow).length = 16 := by rw [b8_length, kw]
  have h4 : CellsAt W b 0 (cp4 e.l4 e.n4) := CellsAt.fst h0
  have hS : CellsAt W b 5 (PSL e.o e.l e.p) := by
    have := CellsAt.part (xs := cp4 e.l4 e.n4) (ys := PSL e.o e.l e.p) h0
    rwa [l4] at this
  have h6 : CellsAt W b 8 (cp6 e.l6 e.n6) := by
    have q : edC e = (cp4 e.l4 e.n4 ++ PSL e.o e.l e.p) ++ (cp6 e.l6 e.n6 ++ b8 e.ow) := by simp [edC]
    rw [q] at h0
    have := CellsAt.part h0
    simpa [l4, PSL] using this
  have hw : CellsAt W b 25 (b8 e.ow) := by
    have q : edC e = (cp4 e.l4 e.n4 ++ PSL e.o e.l e.p ++ cp6 e.l6 e.n6) ++ (b8 e.ow ++ []) := by simp [edC]
    rw [q] at h0
    have := CellsAt.part h0
    simpa [l4, l6, PSL] using this
  refine ⟨agg_load Tryz.isAgg69 Tryz.sizeOf69 (edC_length k4 k6 kw) h0, agg_loadVar Tryz.isAgg69 Tryz.sizeOf69 (edC_length k4 k6 kw) h0, agg_load Tryz.isAgg63 Tryz.sizeOf63 l4 h4, agg_load Tryz.isAgg67 Tryz.sizeOf67 rfl hS, loadP6 k6 h6, load6 k6 (CellsAt.fst h6), load6 kw hw, CellsAt.fst h4, hS 1 _ rfl, hS 2 _ rfl, ?_⟩
  have := h6 16 _ (cp6_get _ _ k6)
  simpa using this

/-- Blocks and what lies in them. -/
def HasAll (L : List (Nat × Obj)) (W : World) : Prop := ∀ p ∈ L, W.heap[p.1]? = some p.2
theorem HasAll.nil (W : World) : HasAll [] W := fun p hp => by cases hp
theorem HasAll.on {L : List (Nat × Obj)} {W W' : World} (h : HasAll L W) (hb : Below W.heap.size W W') : HasAll L W' := fun p hp => blk_on (h p hp) hb
theorem HasAll.only {L : List (Nat × Obj)} {W W' : World} {c : Nat} (h : HasAll L W) (hon : Only c W W') (hne : ∀ p ∈ L, p.1 ≠ c) : HasAll L W' := fun p hp => (hon.other p.1 (hne p hp)).trans (h p hp)
theorem HasAll.cons {L : List (Nat × Obj)} {W : World} {c : Nat} {o : Obj} (h : HasAll L W) (hb : W.heap[c]? = some o) : HasAll ((c, o) :: L) W := by
  intro p hp
  rcases List.mem_cons.1 hp with rfl | hp
  · exact hb
  · exact h p hp
theorem HasAll.lt {L : List (Nat × Obj)} {W : World} (h : HasAll L W) {p : Nat × Obj} (hp : p ∈ L) : p.1 < W.heap.size := (Array.getElem?_eq_some_iff.1 (h p hp)).1

theorem wp_effX {P : Program} {o : Oper} {a : Act} {d : Option Nat} {w w2 : World} {v : Value} {K : Act → World → Prop} {Q : Exit → Act → World → Prop} (hd : o.dst = d) (hrun : (execOp a.eval o).run P w = .ok (.value v) w2) (hK : K (a.put d v) w2) : o.wp P a w K Q := by
  subst hd
  unfold Oper.wp
  rw [hrun]
  exact hK
/-- A new box. -/
theorem wp_newX {P : Program} {o : Oper} {a : Act} {d : Option Nat} {w : World} {v : Nat → Value} {z : Obj} {K : Act → World → Prop} {Q : Exit → Act → World → Prop} (hd : o.dst = d) (hrun : (execOp a.eval o).run P w = .ok (.value (v w.heap.size)) (w.alloc z))
    (hK : ∀ c W', c = w.heap.size → W'.heap[c]? = some z → Below w.heap.size w W' → K (a.put d (v c)) W') : o.wp P a w K Q :=
  wp_effX hd hrun (hK _ _ rfl (blk_new w z) (bA w z))

theorem bytes_of {W : World} {b off cap : Nat} {l : List Int} (h : CellsAt W b off (b8 l)) (hf : FitB l) (hb : b < W.heap.size) (hl : l.length ≤ 16) : Fld.BytesAt W.heap.size W (.slice (some ⟨b, off, none⟩) l.length cap) l := by
  refine ⟨hf, by omega, _, _, rfl, .inr ⟨b, off, rfl, hb, fun j hj => ?_⟩⟩
  refine h j _ ?_
  rw [b8, List.getElem?_map, List.getElem?_eq_getElem hj]
  rfl
theorem ok_run (n v : Nat) (h : n ≤ 64) (hv : v < 2 ^ n) : Fld.runE n v = 0 := by
  unfold Fld.runE
  rw [if_neg (by omega), Int.toNat_natCast]
  have : Fld.wideB v n = false := by unfold Fld.wideB; simpa using hv
  rw [this]
  rfl
theorem u64_of (n v : Nat) (h : n ≤ 64) (hv : v < 2 ^ n) : v < 18446744073709551616 := by
  have : 2 ^ n ≤ 2 ^ 64 := Nat.pow_le_pow_right (by decide) h
  omega
abbrev run2L (a u b v : Nat) : List Value := [.int .i64 a, .int .u64 u, .int .i64 b, .int .u64 v]
theorem runs2 {W : World} {c a u b v : Nat} {t : TypeId} (h : W.heap[c]? = some (.cells (run2L a u b v).toArray t)) (ha : a ≤ 64) (hu : u < 2 ^ a) (hb : b ≤ 64) (hv : v < 2 ^ b) :
    Fld.RunsAt W.heap.size W (.slice (some ⟨c, 0, none⟩) 2 2) [((a : Int), u), ((b : Int), v)] ∧ Fld.allOk [((a : Int), u), ((b : Int), v)] 2 ∧ Fld.total [((a : Int), u), ((b : Int), v)] 2 = a + b := by
  have hlt := (Array.getElem?_eq_some_iff.1 h).1
  have u1 := u64_of a u ha hu
  have u2 := u64_of b v hb hv
  refine ⟨⟨fun j => ?_, _, _, rfl, .inr ⟨c, 0, rfl, hlt, fun j hj => ?_⟩⟩, fun j hj => ?_, ?_⟩
  · match j with
    | 0 => simp [Fld.rN, Fld.rV]; omega
    | 1 => simp [Fld.rN, Fld.rV]; omega
    | j + 2 => simp [Fld.rN, Fld.rV]
  · match j, hj with
    | 0, _ => exact ⟨blk_cell h rfl, blk_cell h rfl⟩
    | 1, _ => exact ⟨blk_cell h rfl, blk_cell h rfl⟩
  · match j, hj with
    | 0, _ => exact ok_run a u ha hu
    | 1, _ => exact ok_run b v hb hv
  · simp [Fld.total, Fld.rN]
abbrev run6L (a u b v c x y : Nat) : List Value := [.int .i64 a, .int .u64 u, .int .i64 b, .int .u64 v, .int .i64 c, .int .u64 0, .int .i64 16, .int .u64 0, .int .i64 32, .int .u64 x, .int .i64 16, .int .u64 y]
theorem runs6 {W : World} {k a u b v c x y : Nat} {t : TypeId} (h : W.heap[k]? = some (.cells (run6L a u b v c x y).toArray t)) (ha : a ≤ 64) (hu : u < 2 ^ a) (hb : b ≤ 64) (hv : v < 2 ^ b) (hc : a + b + c = 64) (hx : x < 2 ^ 32) (hy : y < 2 ^ 16) :
    Fld.RunsAt W.heap.size W (.slice (some ⟨k, 0, none⟩) 6 6) [((a : Int), u), ((b : Int), v), ((c : Int), 0), (16, 0), (32, x), (16, y)] ∧ Fld.allOk [((a : Int), u), ((b : Int), v), ((c : Int), 0), (16, 0), (32, x), (16, y)] 6 ∧ Fld.total [((a : Int), u), ((b : Int), v), ((c : Int), 0), (16, 0), (32, x), (16, y)] 6 = 128 := by
  have hlt := (Array.getElem?_eq_some_iff.1 h).1
  have u1 := u64_of a u ha hu
  have u2 := u64_of b v hb hv
  refine ⟨⟨fun j => ?_, _, _, rfl, .inr ⟨k, 0, rfl, hlt, fun j hj => ?_⟩⟩, fun j hj => ?_, ?_⟩
  · match j with
    | 0 => simp [Fld.rN, Fld.rV]; omega
    | 1 => simp [Fld.rN, Fld.rV]; omega
    | 2 => simp [Fld.rN, Fld.rV]; omega
    | 3 => simp [Fld.rN, Fld.rV]
    | 4 => simp [Fld.rN, Fld.rV]; omega
    | 5 => simp [Fld.rN, Fld.rV]; omega
    | j + 6 => simp [Fld.rN, Fld.rV]
  · match j, hj with
    | 0, _ => exact ⟨blk_cell h rfl, blk_cell h rfl⟩
    | 1, _ => exact ⟨blk_cell h rfl, blk_cell h rfl⟩
    | 2, _ => exact ⟨blk_cell h rfl, blk_cell h rfl⟩
    | 3, _ => exact ⟨blk_cell h rfl, blk_cell h rfl⟩
    | 4, _ => exact ⟨blk_cell h rfl, blk_cell h rfl⟩
    | 5, _ => exact ⟨blk_cell h rfl, blk_cell h rfl⟩
  · match j, hj with
    | 0, _ => exact ok_run a u ha hu
    | 1, _ => exact ok_run b v hb hv
    | 2, _ => exact ok_run c 0 (by omega) (Nat.two_pow_pos _)
    | 3, _ => exact ok_run 16 0 (by omega) (by decide)
    | 4, _ => exact ok_run 32 x (by omega) hx
    | 5, _ => exact ok_run 16 y (by omega) hy
  · simp [Fld.total, Fld.rN]
    omega
theorem load_run {W : World} {c : Nat} {n v : Int} (h : W.heap[c]? = some (.cells (RunL n v).toArray 199)) : (Instr.loadAt 199 (.pointer (some ⟨c, 0, none⟩))).run Tryz.prog W = .ok (RunV n v) W :=
  agg_load (t := 199) Tryz.isAgg199 Tryz.sizeOf199 rfl (CellsAt.of_blk h)
theorem and_mask (v q : Nat) (hv : v < 18446744073709551616) (hq : q ≤ 63) : bits .and .u64 (v : Int) ((2 : Int) ^ q - 1) = ((v % 2 ^ q : Nat) : Int) := by
  have h2 : 2 ^ q ≤ 2 ^ 63 := Nat.pow_le_pow_right (by decide) hq
  have h1 := Nat.two_pow_pos q
  have e : (2 : Int) ^ q - 1 = ((2 ^ q - 1 : Nat) : Int) := by
    have : (2 : Int) ^ q = ((2 ^ q : Nat) : Int) := by rw [Int.natCast_pow]; rfl
    rw [this]; omega
  rw [e, u64_and_nat v (2 ^ q - 1) hv (by omega), Nat.and_two_pow_sub_one_eq_mod]

theorem six2 {W : World} {c a u b v : Nat} {t : TypeId} {l : List Int} (h : W.heap[c]? = some (.cells (run2L a u b v).toArray t)) (ha : a ≤ 64) (hu : u < 2 ^ a) (hb : b ≤ 64) (hv : v < 2 ^ b) (hl : a + b ≤ 128) (he : padL (Fld.catRow [((a : Int), u), ((b : Int), v)] (a + b) 2) 16 = l) :
    Calls Tryz.prog 141 #[.slice (some ⟨c, 0, none⟩) 2 2] W fun e w' => e = .returned (A6 l) ∧ Below W.heap.size W w' := by
  obtain ⟨h1, h2, h3⟩ := runs2 h ha hu hb hv
  have hs := six_any _ _ W h1 (by simp) h2 (by show Fld.total _ 2 ≤ 128; omega)
  have e : padL (Fld.catRow [((a : Int), u), ((b : Int), v)] (Fld.total [((a : Int), u), ((b : Int), v)] 2) 2) 16 = l := by rw [h3]; exact he
  refine hs.mono fun e' w' hw => ⟨?_, hw.2⟩
  rw [hw.1, ← e]
  rfl
theorem four2 {W : World} {c a u b v : Nat} {t : TypeId} {l : List Int} (h : W.heap[c]? = some (.cells (run2L a u b v).toArray t)) (ha : a ≤ 64) (hu : u < 2 ^ a) (hb : b ≤ 64) (hv : v < 2 ^ b) (hl : a + b ≤ 32) (he : padL (Fld.catRow [((a : Int), u), ((b : Int), v)] (a + b) 2) 4 = l) :
    Calls Tryz.prog 142 #[.slice (some ⟨c, 0, none⟩) 2 2] W fun e w' => e = .returned (A4L l) ∧ Below W.heap.size W w' := by
  obtain ⟨h1, h2, h3⟩ := runs2 h ha hu hb hv
  have hs := four_any _ _ W h1 (by simp) h2 (by show Fld.total _ 2 ≤ 32; omega)
  have e : padL (Fld.catRow [((a : Int), u), ((b : Int), v)] (Fld.total [((a : Int), u), ((b : Int), v)] 2) 2) 4 = l := by rw [h3]; exact he
  refine hs.mono fun e' w' hw => ⟨?_, hw.2⟩
  rw [hw.1, ← e]
  rfl
theorem six6 {W : World} {k a u b v c x y : Nat} {t : TypeId} {l : List Int} (h : W.heap[k]? = some (.cells (run6L a u b v c x y).toArray t)) (ha : a ≤ 64) (hu : u < 2 ^ a) (hb : b ≤ 64) (hv : v < 2 ^ b) (hc : a + b + c = 64) (hx : x < 2 ^ 32) (hy : y < 2 ^ 16) (he : padL (Fld.catRow [((a : Int), u), ((b : Int), v), ((c : Int), 0), (16, 0), (32, x), (16, y)] 128 6) 16 = l) :
    Calls Tryz.prog 141 #[.slice (some ⟨k, 0, none⟩) 6 6] W fun e w' => e = .returned (A6 l) ∧ Below W.heap.size W w' := by
  obtain ⟨h1, h2, h3⟩ := runs6 h ha hu hb hv hc hx hy
  have hs := six_any _ _ W h1 (by simp) h2 (by show Fld.total _ 6 ≤ 128; omega)
  have e : padL (Fld.catRow [((a : Int), u), ((b : Int), v), ((c : Int), 0), (16, 0), (32, x), (16, y)] (Fld.total [((a : Int), u), ((b : Int), v), ((c : Int), 0), (16, 0), (32, x), (16, y)] 6) 6) 16 = l := by rw [h3]; exact he
  refine hs.mono fun e' w' hw => ⟨?_, hw.2⟩
  rw [hw.1, ← e]
  rfl
/-- Parts of an edge's box that are stored. -/
theorem splice3 {x y z V : List Value} {n m : Nat} (hx : x.length = n) (hy : y.length = m) : (x ++ (y ++ z)).take n ++ (V ++ (x ++ (y ++ z)).drop (n + m)) = x ++ (V ++ z) := by
  have e1 : (x ++ (y ++ z)).take n = x := by rw [← hx]; exact List.take_left
  have e2 : (x ++ (y ++ z)).drop (n + m) = z := by
    rw [← List.append_assoc, show n + m = (x ++ y).length by simp [hx, hy]]
    exact List.drop_left
  rw [e1, e2]
theorem ed_end {e : Ed} (k4 : e.l4.length = 4) (l : List Int) (n : Int) (k6 : e.l6.length = 16) : (edC e).take 8 ++ (cp6 l n ++ (edC e).drop (8 + 17)) = edC { e with l6 := l, n6 := n } := by
  have q : edC e = (cp4 e.l4 e.n4 ++ PSL e.o e.l e.p) ++ (cp6 e.l6 e.n6 ++ b8 e.ow) := by simp [edC]
  rw [q, splice3 (by simp [cp4_length e.l4 e.n4 k4]) (cp6_length e.l6 e.n6 k6)]
  simp [edC]
theorem ed_v4 {e : Ed} (k4 : e.l4.length = 4) (l : List Int) (n : Int) : (edC e).take 0 ++ (cp4 l n ++ (edC e).drop (0 + 5)) = edC { e with l4 := l, n4 := n } := by
  have q : edC e = [] ++ (cp4 e.l4 e.n4 ++ (PSL e.o e.l e.p ++ (cp6 e.l6 e.n6 ++ b8 e.ow))) := by simp [edC]
  rw [q, splice3 (x := []) (n := 0) rfl (cp4_length e.l4 e.n4 k4)]
  simp [edC]
theorem ed_set {e : Ed} (k4 : e.l4.length = 4) (o l p : Int) : (edC e).take 5 ++ (PSL o l p ++ (edC e).drop (5 + 3)) = edC { e with o := o, l := l, p := p } := by
  have q : edC e = cp4 e.l4 e.n4 ++ (PSL e.o e.l e.p ++ (cp6 e.l6 e.n6 ++ b8 e.ow)) := rfl
  rw [q, splice3 (y := PSL e.o e.l e.p) (m := 3) (cp4_length e.l4 e.n4 k4) rfl]
  simp [edC]
theorem ed_own {e : Ed} (k4 : e.l4.length = 4) (k6 : e.l6.length = 16) (kw : e.ow.length = 16) (l : List Int) : (edC e).take 25 ++ (b8 l ++ (edC e).drop (25 + 16)) = edC { e with ow := l } := by
  have q : edC e = (cp4 e.l4 e.n4 ++ PSL e.o e.l e.p ++ cp6 e.l6 e.n6) ++ (b8 e.ow ++ []) := by simp [edC]
  rw [q, splice3 (by simp [cp4_length e.l4 e.n4 k4, cp6_length e.l6 e.n6 k6]) (by rw [b8_length, kw])]
  simp [edC]
theorem ed_pid {e : Ed} (k4 : e.l4.length = 4) (p : Int) : (edC e).set 7 (.int .u16 p) = edC { e with p := p } := by
  have l4 := cp4_length e.l4 e.n4 k4
  unfold edC
  rw [List.set_append_right _ _ (by omega), l4]
  simp [PSL]

/-- The edge of EA bits. -/
def edg (r : Ru) (v : Nat) : Ed := ⟨v4L r v, r.n4 + hB r, if 0 < qB r then r.off else 0, qB r, (pidV r v : Nat), endL r v, r.n6 + r.ea, ownL r v⟩

end Go.Proofs.YtaebknkjhhcneaaGreatDoor

namespace Go.Proofs.YtaebknkjhhcneaaGreatDoor
open Go Go.RowKit
set_option linter.unusedVariables false
set_option linter.unusedSimpArgs false


set_option maxHeartbeats 2000000 in
set_option maxRecDepth 100000 in
theorem RCheck_r (r : Ru) (hr : r.In) (w : World) :
    Calls Tryz.prog 33 #[RV r] w fun e w' => e = .returned (.int .i64 (ckE r)) ∧ Below w.heap.size w w' := by
  have hB0 := bA w (RO r)
  have hb := blk_new w (RO r)
  have HC6 : Hid _ := fun W => RCheck6_calls r.l6 r.n6 W hr.f6 hr.k6 hr.b6
  have HC4 : Hid _ := fun W => RCheck4_L r.l4 r.n4 W hr.f4 hr.k4 hr.b4
  have hD6 := (RuAt.of hr hb).ld6
  have HD6 : Hid _ := hD6
  clear hD6
  cases c6 : okP6 r.l6 r.n6
  · have e : ckE r = 22 := by unfold ckE; rw [c6]; rfl
    rw [e]
    rw [c6] at HC6
    clear HC4 e c6
    generalize hW : w.alloc (RO r) = W at *
    clear hb
    generalize r.l6 = l6 at *
    generalize r.n6 = n6 at *
    generalize rc r = cs at *
    go_enter Tryz.func33, Tryz.ntmps33
    go_wp2_with first
      | ((with_reducible show wpList _ _ _ _ _ _); refine armL (.tmp 3) 26 rfl rfl rfl HD6.out ?_)
    refine (HC6.out _).mono ?_
    rintro e w2 ⟨rfl, hB2⟩
    go_wp2
    go_ret
    exact ⟨rfl, hB0.trans (hB2.mono hB0.size)⟩
  · rw [c6] at HC6
    have hn6 := ok6_le c6
    cases c4 : okP4L r.l4 r.n4
    · have e : ckE r = 22 := by unfold ckE; rw [c6, c4]; rfl
      rw [e]
      rw [c4] at HC4
      clear e c6 c4
      generalize hW : w.alloc (RO r) = W at *
      go_enter Tryz.func33, Tryz.ntmps33
      go_wp2_with first
        | ((with_reducible show wpList _ _ _ _ _ _); refine armL (.tmp 3) 26 rfl rfl rfl HD6.out ?_)
      refine (HC6.out _).mono ?_
      rintro e w2 ⟨rfl, hB2⟩
      have HD4 : Hid _ := (RuAt.of hr (blk_on hb hB2)).ld4
      clear hb
      go_wp2_with first
        | ((with_reducible show wpList _ _ _ _ _ _); refine armLg (.tmp 8) 63 rfl rfl rfl HD4.out ?_)
      refine (HC4.out _).mono ?_
      rintro e w3 ⟨rfl, hB3⟩
      go_wp2
      go_ret
      exact ⟨rfl, (hB0.trans (hB2.mono hB0.size)).trans (hB3.mono (Nat.le_trans hB0.size hB2.size))⟩
    · rw [c4] at HC4
      have hn4 := ok4_le c4
      have hE : ckE r = if rgOk r then 0 else 100 := by unfold ckE; rw [c6, c4]; rfl
      have hbe := hr.be
      have hbo := hr.bo
      unfold In64 at hbe hbo
      by_cases hx : 0 ≤ r.ea ∧ r.ea ≤ 48 ∧ r.n6 + r.ea ≤ 64 ∧ 0 ≤ r.off ∧ r.off ≤ 15
      · have HSF : Hid _ := fun W => suffix_any r hr hn4 W
        obtain ⟨x1, x2, x3, x4, x5⟩ := hx
        have hqe : qB r = max (r.ea - (32 - r.n4)) 0 := by unfold qB hB; omega
        by_cases g1 : 32 - r.n4 < r.ea
        · have hE2 : ckE r = if 16 - r.off < r.ea - (32 - r.n4) then 100 else 0 := by
            rw [hE]
            by_cases d : 16 - r.off < r.ea - (32 - r.n4)
            · rw [if_pos d, if_neg (fun k => by have := k.2.2.2.2.2; omega)]
            · rw [if_neg d, if_pos ⟨x1, x2, x3, x4, x5, by omega⟩]
          rw [hE2]
          clear hE hE2 c6 c4 hqe
          by_cases g2 : 16 - r.off < r.ea - (32 - r.n4)
          all_goals
            first
              | rw [if_pos g2]
              | rw [if_neg g2]
            generalize hW : w.alloc (RO r) = W at *
            go_enter Tryz.func33, Tryz.ntmps33
            go_wp2_with first
              | ((with_reducible show wpList _ _ _ _ _ _); refine armL (.tmp 3) 26 rfl rfl rfl HD6.out ?_)
            refine (HC6.out _).mono ?_
            rintro e w2 ⟨rfl, hB2⟩
            have HD4 : Hid _ := (RuAt.of hr (blk_on hb hB2)).ld4
            go_wp2_with first
              | ((with_reducible show wpList _ _ _ _ _ _); refine armLg (.tmp 8) 63 rfl rfl rfl HD4.out ?_)
            refine (HC4.out _).mono ?_
            rintro e w3 ⟨rfl, hB3⟩
            have hB23 := hB2.trans (hB3.mono hB2.size)
            obtain ⟨_, _, _, _, _, c16, c21, c22, c23, _, _⟩ := RuAt.of hr (blk_on hb hB23)
            obtain ⟨ldR, _, _, d16, d21, d22, d23⟩ := RuHi.of hr (blk_on hb hB23)
            have HLR : Hid _ := ldR
            have HF : Hid _ := hB0.trans (hB23.mono hB0.size)
            clear ldR hb hB0 hB2 hB3 hB23 HC6 HC4 HD6 HD4 hr
            generalize r.ea = ea at *
            generalize r.n6 = n6 at *
            generalize r.n4 = n4 at *
            generalize r.off = off at *
            have y1 : ¬ ea < 0 := by omega
            have y2 : ¬ 48 < ea := by omega
            have y3 : ¬ 64 - ea < n6 := by omega
            have y4 : ¬ off < 0 := by omega
            have y5 : ¬ 15 < off := by omega
            have g1b : decide (32 - n4 < ea) = true := decide_eq_true (by omega)
            go_wp2_with fail
            refine wp_region_hi (by kernel_rfl) (by kernel_rfl) ?_
            repeat (first | go_big_quiet_skip | (go_big_quiet_want; refine hi_load (.tmp 1) 65 rfl rfl HLR.out ?_; simp only [Act.put, List.setIfInBounds_toArray, List.set_cons_zero, List.set_cons_succ]; go_big_quiet_on) | (go_big_quiet_want; go_big_quiet_op; first | go_big_quiet_on | go_big_quiet_call (first | (go_at_call 57; with_reducible exact Hi.calls (HSF.out _)))))
            refine wpQuiet_nil ?_
            intro _ hw
            obtain ⟨y, rfl⟩ := hw
            go_wp2
            all_goals first
              | (exfalso; omega)
              | (go_ret; exact ⟨rfl, HF.out.trans (y.below.mono HF.out.size)⟩)
        · have hE2 : ckE r = 0 := by
            rw [hE, if_pos ⟨x1, x2, x3, x4, x5, by omega⟩]
          rw [hE2]
          clear hE hE2 c6 c4 hqe
          generalize hW : w.alloc (RO r) = W at *
          go_enter Tryz.func33, Tryz.ntmps33
          go_wp2_with first
            | ((with_reducible show wpList _ _ _ _ _ _); refine armL (.tmp 3) 26 rfl rfl rfl HD6.out ?_)
          refine (HC6.out _).mono ?_
          rintro e w2 ⟨rfl, hB2⟩
          have HD4 : Hid _ := (RuAt.of hr (blk_on hb hB2)).ld4
          go_wp2_with first
            | ((with_reducible show wpList _ _ _ _ _ _); refine armLg (.tmp 8) 63 rfl rfl rfl HD4.out ?_)
          refine (HC4.out _).mono ?_
          rintro e w3 ⟨rfl, hB3⟩
          have hB23 := hB2.trans (hB3.mono hB2.size)
          obtain ⟨_, _, _, _, _, c16, c21, c22, c23, _, _⟩ := RuAt.of hr (blk_on hb hB23)
          obtain ⟨ldR, _, _, d16, d21, d22, d23⟩ := RuHi.of hr (blk_on hb hB23)
          have HLR : Hid _ := ldR
          have HF : Hid _ := hB0.trans (hB23.mono hB0.size)
          clear ldR hb hB0 hB2 hB3 hB23 HC6 HC4 HD6 HD4 hr
          generalize r.ea = ea at *
          generalize r.n6 = n6 at *
          generalize r.n4 = n4 at *
          generalize r.off = off at *
          have y1 : ¬ ea < 0 := by omega
          have y2 : ¬ 48 < ea := by omega
          have y3 : ¬ 64 - ea < n6 := by omega
          have y4 : ¬ off < 0 := by omega
          have y5 : ¬ 15 < off := by omega
          have g1b : decide (32 - n4 < ea) = false := decide_eq_false (by omega)
          go_wp2_with fail
          refine wp_region_hi (by kernel_rfl) (by kernel_rfl) ?_
          repeat (first | go_big_quiet_skip | (go_big_quiet_want; refine hi_load (.tmp 1) 65 rfl rfl HLR.out ?_; simp only [Act.put, List.setIfInBounds_toArray, List.set_cons_zero, List.set_cons_succ]; go_big_quiet_on) | (go_big_quiet_want; go_big_quiet_op; first | go_big_quiet_on | go_big_quiet_call (first | (go_at_call 57; with_reducible exact Hi.calls (HSF.out _)))))
          refine wpQuiet_nil ?_
          intro _ hw
          obtain ⟨y, rfl⟩ := hw
          go_wp2
          all_goals first
            | (exfalso; omega)
            | (go_ret; exact ⟨rfl, HF.out.trans (y.below.mono HF.out.size)⟩)
      · have e : ckE r = 100 := by rw [hE, if_neg (fun d => hx ⟨d.1, d.2.1, d.2.2.1, d.2.2.2.1, d.2.2.2.2.1⟩)]
        rw [e]
        clear e hE c6 c4
        generalize hW : w.alloc (RO r) = W at *
        go_enter Tryz.func33, Tryz.ntmps33
        go_wp2_with first
          | ((with_reducible show wpList _ _ _ _ _ _); refine armL (.tmp 3) 26 rfl rfl rfl HD6.out ?_)
        refine (HC6.out _).mono ?_
        rintro e w2 ⟨rfl, hB2⟩
        have HD4 : Hid _ := (RuAt.of hr (blk_on hb hB2)).ld4
        go_wp2_with first
          | ((with_reducible show wpList _ _ _ _ _ _); refine armLg (.tmp 8) 63 rfl rfl rfl HD4.out ?_)
        refine (HC4.out _).mono ?_
        rintro e w3 ⟨rfl, hB3⟩
        have hB23 := hB2.trans (hB3.mono hB2.size)
        obtain ⟨_, _, _, _, _, c16, c21, c22, c23, _, _⟩ := RuAt.of hr (blk_on hb hB23)
        have HF : Hid _ := hB0.trans (hB23.mono hB0.size)
        clear HC6 HC4 HD6 HD4 hb hr hB0 hB2 hB3 hB23
        generalize r.ea = ea at *
        generalize r.n6 = n6 at *
        generalize r.off = off at *
        by_cases x1 : ea < 0
        · go_wp2
          go_ret
          exact ⟨rfl, HF.out⟩
        · by_cases x2 : 48 < ea
          · go_wp2
            go_ret
            exact ⟨rfl, HF.out⟩
          · by_cases x3 : 64 - ea < n6
            · go_wp2
              all_goals first
                | (exfalso; omega)
                | (go_ret; exact ⟨rfl, HF.out⟩)
            · by_cases x4 : off < 0
              · go_wp2
                all_goals first
                  | (exfalso; omega)
                  | (go_ret; exact ⟨rfl, HF.out⟩)
              · have x5 : 15 < off := by omega
                go_wp2
                all_goals first
                  | (exfalso; omega)
                  | (go_ret; exact ⟨rfl, HF.out⟩)

end Go.Proofs.YtaebknkjhhcneaaGreatDoor

namespace Go.Proofs.YtaebknkjhhcneaaGreatDoor
open Go Go.RowKit
set_option linter.unusedVariables false
set_option linter.unusedSimpArgs false


end Go.Proofs.YtaebknkjhhcneaaGreatDoor
