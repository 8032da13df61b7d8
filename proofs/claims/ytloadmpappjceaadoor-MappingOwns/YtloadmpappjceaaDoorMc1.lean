/-
  head, four and six of the program.
-/
import Derived.Test.YtloadmpappjceaaDoorFoldF
namespace Go.Proofs.YtloadmpappjceaaDoor
open Go Go.RowKit
set_option linter.unusedVariables false
set_option linter.unusedSimpArgs false

abbrev RunV (n : Int) (v : Int) : Value := .agg #[.int .i64 n, .int .u64 v]
abbrev RunL (n : Int) (v : Int) : List Value := [.int .i64 n, .int .u64 v]

theorem run_store {w : World} {R : Nat} {c : List Value} (h : w.heap[R]? = some (.cells c.toArray 98)) (hc : c.length = 2) (n v : Int) :
    ∃ w', (Instr.storeAt 98 (.pointer (some ⟨R, 0, none⟩)) (RunV n v)).run Tryd.prog w = .ok () w' ∧ (loadVar 98 ⟨R, 0, none⟩).run Tryd.prog w' = .ok (RunV n v) w' ∧ w'.heap[R]? = some (.cells (RunL n v).toArray 98) ∧ Only R w w' := by
  obtain ⟨wE, hst, bE, honE⟩ := box_store Tryd.sizeOf98 h hc (RunL n v) rfl (by simp [RunL, Value.oneCell'])
  exact ⟨wE, hst, agg_loadVar (t := 98) Tryd.isAgg98 Tryd.sizeOf98 rfl (CellsAt.of_blk bE), bE, honE⟩

set_option maxHeartbeats 1000000 in
set_option maxRecDepth 100000 in
theorem head_any (v : Value) (zs : List Int) (n : Nat) (w : World) (h : Fld.BytesAt w.heap.size w v zs) (h64 : n ≤ 64) (hn : n ≤ 8 * zs.length) :
    Calls Tryd.prog 63 #[v, .int .i64 n] w fun e w' => e = .returned (RunV n (accN zs 0 n : Nat)) ∧ Below w.heap.size w w' := by
  have hb := blk_new w (.cells (RunL 0 0).toArray 98)
  have hB0 := bA w (.cells (RunL 0 0).toArray 98)
  have hok : Fld.okG zs.length 0 n = true := by
    unfold Fld.okG Fld.thereB
    simp
    omega
  have hg := Fld.get_calls v zs 0 n (w.alloc (.cells (RunL 0 0).toArray 98)) (h.later hB0) (by omega) (by omega)
  have e1 : Fld.getV zs 0 n = (accN zs 0 n : Nat) := by unfold Fld.getV; rw [if_pos hok]; rfl
  have e2 : Fld.getE zs 0 n = 0 := by unfold Fld.getE; rw [if_pos hok]
  rw [e1, e2] at hg
  have hlt := accN_lt zs 0 n
  have HG : Hid _ := hg
  clear hg e1 e2 hok
  generalize accN zs 0 n = x at *
  obtain ⟨_, _, a, cap, rfl, _⟩ := id h
  generalize hW : w.alloc (.cells (RunL 0 0).toArray 98) = W at *
  obtain ⟨wE, hst, hlv, bE, hon⟩ := run_store hb rfl n x
  have HST : Hid _ := hst
  have HLV : Hid _ := hlv
  have HBE : Hid (Below w.heap.size w wE) := hB0.trans (hon.below (Nat.le_refl _))
  clear hst hlv bE hon h hb hB0
  go_enter Tryd.func63, Tryd.ntmps63
  go_wp2_with fail
  refine Calls.mono HG.out ?_
  rintro e w2 ⟨rfl, rfl⟩
  go_wp2_with first
    | ((with_reducible show wpList _ _ _ _ _ _); refine armS (.tmp 4) (.tmp 15) 98 rfl rfl rfl rfl HST.out ?_)
  refine bodyPost_ret (res_cell1 Tryd.results63 rfl HLV.out) rfl ?_
  exact ⟨rfl, HBE.out⟩

/-- A copy of bytes into an array of zeros. -/
theorem copy_pad {w : World} {A N : Nat} {v : Value} {zs : List Int} {ty' : TypeId} (h : w.heap[A]? = some (.cells (b8 (List.replicate N 0)).toArray ty')) (hs : Fld.BytesAt w.heap.size w v zs) (hl : zs.length ≤ N) (ty : TypeId) :
    ∃ r w2, (Builtin.copy_ #[75, 75] ty #[.slice (some ⟨A, 0, none⟩) N N, v]).run Tryd.prog w = .ok r w2 ∧ w2.heap[A]? = some (.cells (b8 (padL zs N)).toArray ty') ∧ Only A w w2 := by
  have hinf : (Tryd.prog.info? 5).map (·.size) = some 1 := by kernel_rfl
  obtain ⟨hf, _, a, cap, rfl, hz⟩ := hs
  rcases hz with h0 | ⟨b, off, rfl, hlt, hc⟩
  · obtain rfl : zs = [] := List.length_eq_zero_iff.1 h0
    refine ⟨_, w, run_copy_none w _ _ ty 5 _ a N N 0 cap Tryd.underlying75 hinf (by simp), ?_, Only.refl _ _⟩
    rw [h]
    simp [padL]
  · have hbl := blk_sets (b := A) (t := ty') (b8 zs) 0 _ w h
    rw [setsL_eq _ _ _ (by simp [b8_length]; omega)] at hbl
    refine ⟨_, _, run_copy_cells w _ _ ty 5 A 0 N N ⟨b, off, none⟩ zs.length cap (b8 zs) Tryd.underlying75 hinf (by rw [b8_length]; exact (Nat.min_eq_left hl).symm) ?_ (fun j hj => ?_) (fun j _ => blk_open h _) (b8_one _), ?_, Only.sets _ _ _ (Only.refl _ _)⟩
    · intro j x hj
      rw [Go.WideShapes.add_plain]
      have hj2 : j < zs.length := by
        have := (List.getElem?_eq_some_iff.1 hj).1
        rwa [b8_length] at this
      rw [hc j hj2]
      rw [b8, List.getElem?_map] at hj
      rw [List.getElem?_eq_getElem hj2] at hj ⊢
      simpa using hj
    · rw [b8_length] at hj
      rw [Nat.zero_add, blk_cell h (j := j) (v := (b8 (List.replicate N 0))[j]'(by simp [b8_length]; omega)) (by simp)]
      rfl
    · have e : (b8 (List.replicate N 0)).take 0 ++ b8 zs ++ (b8 (List.replicate N 0)).drop (0 + (b8 zs).length) = b8 (padL zs N) := by
        simp [padL, b8]
      rw [hbl, e]

theorem cat_ok {rs : List (Int × Nat)} {bs : List Int} {er : Int} (h : Fld.CatIs rs bs er) (ho : Fld.allOk rs rs.length) (ht : Fld.total rs rs.length ≤ 65536) : er = 0 ∧ bs = Fld.catRow rs (Fld.total rs rs.length) rs.length := by
  have := Fld.CatIs.uniq h (.inr (.inr ⟨ho, ht, rfl, rfl⟩))
  exact ⟨this.2, this.1⟩

theorem two_box' (w : World) (o1 o2 : Obj) : ((w.alloc o1).alloc o2).heap[w.heap.size]? = some o1 ∧ ((w.alloc o1).alloc o2).heap[w.heap.size + 1]? = some o2 ∧ Below w.heap.size w ((w.alloc o1).alloc o2) := by
  have hz : (w.alloc o1).heap.size = w.heap.size + 1 := by simp
  have h2 := blk_new (w.alloc o1) o2
  rw [hz] at h2
  exact ⟨blk_alloc (blk_new w o1) _, h2, (bA w o1).alloc (by simp) _⟩
theorem armC {P : Program} {w w2 : World} {ops : Array Oper} {rest : List Oper} {o : Oper} {a : Act} {Q : Exit → Act → World → Prop} (s x : Operand) (t u : TypeId) (hop : o.op = Op.call { callee := Callee.builtin Builtin.copy, args := #[s, x], argTypes := #[t, u] }) (hg : o.guard = none) {vs vx v : Value} (hs : a.eval s = vs) (hx : a.eval x = vx)
    (hrun : (Builtin.copy_ #[t, u] o.type #[vs, vx]).run P w = .ok v w2) (hK : wpList P ops Q rest (a.put o.dst v) w2) : wpList P ops Q (o :: rest) a w := by
  refine BigFrame.wpList_want (by simp [Region.wanted, hg]) fun K hK' => ?_
  unfold Oper.wp
  simp [execOp, hop, resolve, invoke, builtin, hs, hx, hrun, Result.andThen]
  exact hK' _ _ hK


set_option maxHeartbeats 1000000 in
set_option maxRecDepth 100000 in
theorem four_any (v : Value) (rs : List (Int × Nat)) (w : World) (h : Fld.RunsAt w.heap.size w v rs) (hl : rs.length ≤ 1200) (ho : Fld.allOk rs rs.length) (ht : Fld.total rs rs.length ≤ 32) :
    Calls Tryd.prog 65 #[v] w fun e w' => e = .returned (.agg (b8 (padL (Fld.catRow rs (Fld.total rs rs.length) rs.length) 4)).toArray) ∧ Below w.heap.size w w' := by
  obtain ⟨hb, hb2, hBw⟩ := two_box' w (.cells zero4L.toArray 27) (.cells zero4L.toArray 27)
  have hc := Fld.cat_calls v rs _ (h.later hBw) hl
  obtain ⟨_, a, cap, rfl, _⟩ := id h
  generalize hW : (w.alloc (.cells zero4L.toArray 27)).alloc (.cells zero4L.toArray 27) = W at *
  have HC : Hid (Calls Tryd.prog 83 #[.slice a rs.length cap] W fun e w' => Fld.CatPost rs W e w') := hc
  clear hc h
  go_enter Tryd.func65, Tryd.ntmps65
  go_wp2_with fail
  refine Calls.mono HC.out ?_
  rintro _ w2 ⟨r, bs, er, rfl, hbs, hB2, hcat⟩
  obtain ⟨rfl, rfl⟩ := cat_ok hcat ho (by omega)
  clear hcat HC
  have hlen : (Fld.catRow rs (Fld.total rs rs.length) rs.length).length ≤ 4 := by simp; omega
  have hfit : FitB (Fld.catRow rs (Fld.total rs rs.length) rs.length) := Fld.catRow_fit _ _ _
  generalize hbsE : Fld.catRow rs (Fld.total rs rs.length) rs.length = bs at *
  have HBS : Hid _ := hbsE
  clear hbsE
  obtain ⟨_, _, a2, cap2, rfl, _⟩ := id hbs
  obtain ⟨rr, w3, hcp, hb3, hon3⟩ := copy_pad (N := 4) (blk_on hb2 hB2) hbs hlen 3
  have hbR := (hon3.other w.heap.size (by omega)).trans (blk_on hb hB2)
  have hpl : (b8 (padL bs 4)).length = 4 := by rw [b8_length, padL_length _ _ hlen]
  have HL3 : Hid _ := agg_load (t := 27) Tryd.isAgg27 Tryd.sizeOf27 hpl (CellsAt.of_blk hb3)
  obtain ⟨wE, hst, bE, honE⟩ := box_store Tryd.sizeOf27 hbR rfl (b8 (padL bs 4)) hpl (b8_one _)
  have HLV : Hid _ := agg_loadVar (t := 27) Tryd.isAgg27 Tryd.sizeOf27 hpl (CellsAt.of_blk bE)
  have HST : Hid _ := hst
  have HBE : Hid (Below w.heap.size w wE) := ((hBw.trans (hB2.mono hBw.size)).trans (hon3.below (by omega))).trans (honE.below (Nat.le_refl _))
  have HCP : Hid _ := hcp
  clear hst bE honE hbR hb3 hcp hbs hB2 hon3
  go_wp2_with first
    | ((with_reducible show wpList _ _ _ _ _ _); refine armL (.tmp 3) 27 rfl rfl rfl HL3.out ?_)
    | ((with_reducible show wpList _ _ _ _ _ _); refine armS (.tmp 2) (.tmp 14) 27 rfl rfl rfl rfl HST.out ?_)
    | ((with_reducible show wpList _ _ _ _ _ _); refine armC (.tmp 11) (.tmp 12) 75 75 rfl rfl rfl rfl HCP.out ?_)
  refine bodyPost_ret (res_cell1 Tryd.results65 rfl HLV.out) rfl ?_
  exact ⟨by rw [HBS.out], HBE.out⟩


set_option maxHeartbeats 1000000 in
set_option maxRecDepth 100000 in
theorem six_any (v : Value) (rs : List (Int × Nat)) (w : World) (h : Fld.RunsAt w.heap.size w v rs) (hl : rs.length ≤ 1200) (ho : Fld.allOk rs rs.length) (ht : Fld.total rs rs.length ≤ 128) :
    Calls Tryd.prog 64 #[v] w fun e w' => e = .returned (.agg (b8 (padL (Fld.catRow rs (Fld.total rs rs.length) rs.length) 16)).toArray) ∧ Below w.heap.size w w' := by
  obtain ⟨hb, hb2, hBw⟩ := two_box' w (.cells zero16V.toArray 23) (.cells zero16V.toArray 23)
  have hc := Fld.cat_calls v rs _ (h.later hBw) hl
  obtain ⟨_, a, cap, rfl, _⟩ := id h
  generalize hW : (w.alloc (.cells zero16V.toArray 23)).alloc (.cells zero16V.toArray 23) = W at *
  have HC : Hid (Calls Tryd.prog 83 #[.slice a rs.length cap] W fun e w' => Fld.CatPost rs W e w') := hc
  clear hc h
  go_enter Tryd.func64, Tryd.ntmps64
  go_wp2_with fail
  refine Calls.mono HC.out ?_
  rintro _ w2 ⟨r, bs, er, rfl, hbs, hB2, hcat⟩
  obtain ⟨rfl, rfl⟩ := cat_ok hcat ho (by omega)
  clear hcat HC
  have hlen : (Fld.catRow rs (Fld.total rs rs.length) rs.length).length ≤ 16 := by simp; omega
  have hfit : FitB (Fld.catRow rs (Fld.total rs rs.length) rs.length) := Fld.catRow_fit _ _ _
  generalize hbsE : Fld.catRow rs (Fld.total rs rs.length) rs.length = bs at *
  have HBS : Hid _ := hbsE
  clear hbsE
  obtain ⟨_, _, a2, cap2, rfl, _⟩ := id hbs
  obtain ⟨rr, w3, hcp, hb3, hon3⟩ := copy_pad (N := 16) (blk_on hb2 hB2) hbs hlen 3
  have hbR := (hon3.other w.heap.size (by omega)).trans (blk_on hb hB2)
  have hpl : (b8 (padL bs 16)).length = 16 := by rw [b8_length, padL_length _ _ hlen]
  have HL3 : Hid _ := agg_load (t := 23) Tryd.isAgg23 Tryd.sizeOf23 hpl (CellsAt.of_blk hb3)
  obtain ⟨wE, hst, bE, honE⟩ := box_store Tryd.sizeOf23 hbR rfl (b8 (padL bs 16)) hpl (b8_one _)
  have HLV : Hid _ := agg_loadVar (t := 23) Tryd.isAgg23 Tryd.sizeOf23 hpl (CellsAt.of_blk bE)
  have HST : Hid _ := hst
  have HBE : Hid (Below w.heap.size w wE) := ((hBw.trans (hB2.mono hBw.size)).trans (hon3.below (by omega))).trans (honE.below (Nat.le_refl _))
  have HCP : Hid _ := hcp
  clear hst bE honE hbR hb3 hcp hbs hB2 hon3
  go_wp2_with first
    | ((with_reducible show wpList _ _ _ _ _ _); refine armL (.tmp 3) 23 rfl rfl rfl HL3.out ?_)
    | ((with_reducible show wpList _ _ _ _ _ _); refine armS (.tmp 2) (.tmp 14) 23 rfl rfl rfl rfl HST.out ?_)
    | ((with_reducible show wpList _ _ _ _ _ _); refine armC (.tmp 11) (.tmp 12) 75 75 rfl rfl rfl rfl HCP.out ?_)
  refine bodyPost_ret (res_cell1 Tryd.results64 rfl HLV.out) rfl ?_
  exact ⟨by rw [HBS.out], HBE.out⟩

end Go.Proofs.YtloadmpappjceaaDoor
