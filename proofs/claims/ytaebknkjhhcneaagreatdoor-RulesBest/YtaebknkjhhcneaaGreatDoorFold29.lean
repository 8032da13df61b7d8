/-
  At most seventy rules are looked at: few.
  Parse of a text whose lines are those of a domain of one rule.
  What is known is parsed, and whose it is: alive.
  alive answers true.
-/
import Derived.Test.YtaebknkjhhcneaaGreatDoorFold28
import Derived.Recover
import Derived.WalkLawsBesides
import Derived.Test.YtaebknkjhhcneaaGreatDoorMh2
namespace Go.Proofs.YtaebknkjhhcneaaGreatDoor
open Go Go.RowKit
set_option linter.unusedVariables false
set_option linter.unusedSimpArgs false

theorem dc_set34 {d : Dom} (h : d.In) (v u : Value) : (dc d v).set 34 u = dc d u := by
  simp [dc, List.set_append, u8s_length, h.rl, cp6_length _ _ h.pl]

set_option maxRecDepth 100000 in
set_option maxHeartbeats 4000000 in
theorem few_any (d : Dom) (hd : d.In) (rs : List Ru) (v : Value) (w : World) (hv : RsAt w v rs) :
    Calls Tryz.prog 8 #[DV d v] w fun e w' => ∃ v', e = .returned (DV d v') ∧ RsAt w' v' (rs.take 70) ∧ Below w.heap.size w w' ∧ ∀ a n c, v' = .slice (some a) n c → ∃ n' c', v = .slice (some a) n' c' := by
  generalize hQ : (fun (e : Ending) (w' : World) => ∃ v', e = .returned (DV d v') ∧ RsAt w' v' (rs.take 70) ∧ Below w.heap.size w w' ∧ ∀ a n c, v' = .slice (some a) n c → ∃ n' c', v = .slice (some a) n' c') = Q
  have HQ : Hid _ := hQ
  clear hQ
  have hB0 : Below w.heap.size w ((w.alloc (DO d v)).alloc (.cells zeroDL.toArray 29)) := ((Below.refl _ w).alloc (Nat.le_refl _) _).alloc (by simp) _
  have hd0 : ((w.alloc (DO d v)).alloc (.cells zeroDL.toArray 29)).heap[w.heap.size]? = some (DO d v) := blk_alloc (blk_new w _) _
  have hz0 : ((w.alloc (DO d v)).alloc (.cells zeroDL.toArray 29)).heap[w.heap.size + 1]? = some (.cells zeroDL.toArray 29) := by
    have := blk_new (w.alloc (DO d v)) (.cells zeroDL.toArray 29)
    rwa [show (w.alloc (DO d v)).heap.size = w.heap.size + 1 by simp] at this
  have HV0 : Hid _ := hv.below hB0
  generalize hW0 : (w.alloc (DO d v)).alloc (.cells zeroDL.toArray 29) = W0 at *
  have hW0' : (w.alloc (.cells (dc d v).toArray 29)).alloc (.cells #[.int .i64 0, .int .u8 0, .int .u8 0, .int .u8 0, .int .u8 0, .int .u8 0, .int .u8 0, .int .u8 0, .int .u8 0, .int .u8 0, .int .u8 0, .int .u8 0, .int .u8 0, .int .u8 0, .int .u8 0, .int .u8 0, .int .u8 0, .int .u8 0, .int .u8 0, .int .u8 0, .int .u8 0, .int .u8 0, .int .u8 0, .int .u8 0, .int .u8 0, .int .u8 0, .int .u8 0, .int .u8 0, .int .u8 0, .int .u8 0, .int .u8 0, .int .u8 0, .int .u8 0, .int .i64 0, .slice none 0 0] 29) = W0 := hW0
  have HVw : Hid _ := hv
  obtain ⟨ad, cap, rfl, h1, h2, h3⟩ := hv
  have c34 := blk_cell hd0 (dc_34 hd _)
  have f34 := blk_open hd0 34
  have H3 : Hid _ := h3
  clear hW0 h3
  by_cases hlt : 70 < rs.length
  · have q1 : decide ((70 : Int) < rs.length) = true := decide_eq_true (by omega)
    obtain ⟨g, off, rfl, hg, hc⟩ := H3.out (fun e => by rw [e] at hlt; simp at hlt)
    have hd1 := blk_set hd0 34 (.slice (some ⟨g, off, none⟩) 70 cap)
    rw [dc_set34 hd] at hd1
    have ho1 : Only w.heap.size W0 (W0.setCell ⟨w.heap.size, 34, none⟩ (.slice (some ⟨g, off, none⟩) 70 cap)) := (Only.refl _ W0).set 34 _
    have hz1 := (ho1.other (w.heap.size + 1) (by omega)).trans hz0
    have HL1 : Hid _ := loadD hd hd1
    obtain ⟨w3, hst3, hb3, ho3⟩ := box_store (ty := 29) (n := 35) (fun w => by kernel_rfl) hz1 rfl (dc d (.slice (some ⟨g, off, none⟩) 70 cap)) (dc_length hd _) (dc_one d rfl)
    have HST : Hid _ := hst3
    have HRES : Hid _ := agg_loadVar (t := 29) (n := 35) (fun w => by kernel_rfl) (fun w => by kernel_rfl) (dc_length hd _) (CellsAt.blk hb3)
    have hB3 : Below w.heap.size w w3 := (hB0.trans (ho1.below (Nat.le_refl _))).trans (ho3.below (by omega))
    have hrs : RsAt w3 (.slice (some ⟨g, off, none⟩) 70 cap) (rs.take 70) := by
      refine ⟨_, cap, by rw [List.length_take, Nat.min_eq_left (by omega)], by rw [List.length_take]; omega, h2, fun _ => ⟨g, off, rfl, Nat.lt_of_lt_of_le hg hB3.size, fun j r hj i u hi => ?_⟩⟩
      have hj' : rs[j]? = some r := by
        rw [List.getElem?_take] at hj
        split at hj
        · exact hj
        · cases hj
      exact (hB3.cell (p := ⟨g, _, none⟩) hg).trans (hc j r hj' i u hi)
    clear hst3 H3 HV0 HVw hc hd1 ho1 hz1
    go_enter Tryz.func8, Tryz.ntmps8
    go_wp2_with first
      | ((with_reducible show wpList _ _ _ _ _ _); refine armLv (.tmp 1) 29 rfl rfl rfl HL1.out ?_)
      | ((with_reducible show wpList _ _ _ _ _ _); refine armS (.tmp 2) (.tmp 11) 29 rfl rfl rfl rfl HST.out ?_)
    refine bodyPost_ret (res1c Tryz.results8 (R := ⟨w.heap.size + 1, 0, none⟩) rfl HRES.out) rfl ?_
    rw [← HQ.out]
    exact ⟨_, rfl, hrs, hB3, fun a n c e => by cases e; exact ⟨_, _, rfl⟩⟩
  · have q1 : decide ((70 : Int) < rs.length) = false := decide_eq_false (by omega)
    have HL1 : Hid _ := loadD hd hd0
    obtain ⟨w3, hst3, hb3, ho3⟩ := box_store (ty := 29) (n := 35) (fun w => by kernel_rfl) hz0 rfl (dc d (.slice ad rs.length cap)) (dc_length hd _) (dc_one d rfl)
    have HST : Hid _ := hst3
    have HRES : Hid _ := agg_loadVar (t := 29) (n := 35) (fun w => by kernel_rfl) (fun w => by kernel_rfl) (dc_length hd _) (CellsAt.blk hb3)
    have hB3 : Below w.heap.size w w3 := hB0.trans (ho3.below (by omega))
    have hrs : RsAt w3 (.slice ad rs.length cap) (rs.take 70) := by
      rw [List.take_of_length_le (by omega)]
      exact RsAt.below HVw.out hB3
    clear hst3 H3 HV0 HVw
    go_enter Tryz.func8, Tryz.ntmps8
    go_wp2_with first
      | ((with_reducible show wpList _ _ _ _ _ _); refine armLv (.tmp 1) 29 rfl rfl rfl HL1.out ?_)
      | ((with_reducible show wpList _ _ _ _ _ _); refine armS (.tmp 2) (.tmp 11) 29 rfl rfl rfl rfl HST.out ?_)
    refine bodyPost_ret (res1c Tryz.results8 (R := ⟨w.heap.size + 1, 0, none⟩) rfl HRES.out) rfl ?_
    rw [← HQ.out]
    exact ⟨_, rfl, hrs, hB3, fun a n c e => by cases e; exact ⟨_, _, rfl⟩⟩

end Go.Proofs.YtaebknkjhhcneaaGreatDoor

namespace Go.Proofs.YtaebknkjhhcneaaGreatDoor
open Go Go.RowKit
set_option linter.unusedVariables false
set_option linter.unusedSimpArgs false

/-- A region that begins with a recover, and holds no other. -/
theorem wpS_region_recL {P : Program} {Q : Exit → Act → List Frame → World → Prop} {a : Act} {cs cs' : List Frame} {w : World} {id : Nat} {o : Oper} {l : List Oper} {v : Value}
    (hw : Region.wanted o (yielded (o :: l).toArray a.tmps) = true) (hop : (execOp a.eval o).run P w = .ok .recover w) (hrec : (recoverD cs).getD (.nilIface, cs) = (v, cs'))
    (h : wpList P (o :: l).toArray (fun e a' w' => Q e a' cs' w') l (a.put o.dst v) w) : (Code.region id (o :: l).toArray false).wpS P Q a cs w := by
  intro b k hb hr
  have ho : ((o :: l).toArray)[0]? = some o := by simp
  have hg := stepG_op (P := P) (b := b) (a := a) (k := k) (cs := cs) (w := w) (rest := List.range' 1 l.length) ho hw
  have hfin : ∀ v, (b.at a (.inRegion (o :: l).toArray (0 :: List.range' 1 l.length) :: k)).finish v = b.at (a.put o.dst v) (.inRegion (o :: l).toArray (List.range' 1 l.length) :: k) := by
    intro v; rw [Frame.finish_at, ho]; rfl
  have hk : (b.at a (.inRegion (o :: l).toArray (0 :: List.range' 1 l.length) :: k)).kind = .deferred := hb
  have htr := tryRecover_deferred hk cs
  rw [← wpOps_eq_wpList l 1 (fun j => by rw [Nat.add_comm]; simp)] at h
  obtain ⟨e, a', w', hq, harr⟩ := wp_ops _ _ _ h b k cs'
  refine ⟨e, a', cs', w', hq, .of_steps (.head (step_region) (.one (step_lone_go ?_))) harr⟩
  have hrg : List.range (o :: l).toArray.size = 0 :: List.range' 1 l.length := by
    rw [List.range_eq_range']
    simp [List.range'_succ]
  rw [hrg, hg, ← hfin]
  simp only [Frame.at] at htr ⊢
  cases hc : recoverD cs with
  | none =>
    rw [hc] at hrec htr
    simp only [Option.getD_none, Prod.mk.injEq] at hrec
    obtain ⟨rfl, rfl⟩ := hrec
    simp [stepG.apply, hop, htr]
  | some p =>
    rw [hc] at hrec htr
    simp only [Option.getD_some] at hrec
    subst hrec
    simp [stepG.apply, hop, htr]

theorem ta_noL (w : World) : (Instr.typeAssert .nilIface 20 88 true).run Tryz.prog w = .ok (.tuple #[.agg #[.int .i64 0, .int .i64 0, .int .i64 0], .bool false]) w := by
  simp [Instr.typeAssert, Tryz.underlying88, go_sem]

set_option maxHeartbeats 2000000 in
set_option maxRecDepth 100000 in
theorem catch_idleL (p q r s : Addr) (w : World) :
    CallsD Tryz.prog 42 #[.pointer (some p), .pointer (some q), .pointer (some r), .pointer (some s)] .returning w fun e u' w' => e = .returned (.tuple #[]) ∧ u' = .returning ∧ Below w.heap.size w w' := by
  have hB := ((Below.refl w.heap.size w).alloc (Nat.le_refl _) (.cells #[.int .i64 0, .int .i64 0, .int .i64 0] 88))
  have ht := ta_noL w
  refine callsD_of_wpS Tryz.func42 rfl fun c₀ cs hu => ?_
  apply wpS_seq
  refine wpS_region_recL (v := .nilIface) (cs' := c₀ :: cs) rfl rfl (by simp [recoverD, hu]) ?_
  simp only [Tryz.ntmps42, List.size_toArray, List.length_cons, List.length_nil, Nat.reduceAdd, Nat.reduceSub, Array.replicate_succ, Array.replicate_zero, List.push_toArray, List.append_toArray, List.nil_append, List.cons_append, Act.put, List.setIfInBounds_toArray, List.set_cons_zero, List.set_cons_succ]
  go_wp2
  refine wpS_of_wp ?_
  go_wp2
  cases c₀
  simp_all [bodyPostS, results, Tryz.results42]

theorem res4c {P : Program} {fn : Func} {a b c d : Tmp} {t u s v : TypeId} (h : fn.results = #[.cell a t, .cell b u, .cell c s, .cell d v]) {tmps : Array Value} {A B C D : Addr} (ha : tmps.getD a undef = .pointer (some A)) (hb : tmps.getD b undef = .pointer (some B)) (hc : tmps.getD c undef = .pointer (some C)) (hd : tmps.getD d undef = .pointer (some D)) {va vb vc vd : Value} {w : World} (la : (loadVar t A).run P w = .ok va w) (lb : (loadVar u B).run P w = .ok vb w) (lc : (loadVar s C).run P w = .ok vc w) (ld : (loadVar v D).run P w = .ok vd w) :
    (results fn tmps).run P w = .ok (.tuple #[va, vb, vc, vd]) w := by
  rw [Array.getD_eq_getD_getElem?] at ha hb hc hd
  simp [results, h, ha, hb, hc, hd, asAddr, la, lb, lc, ld]
theorem loadI {W : World} {b : Nat} {x : Int} (h : W.heap[b]? = some (.cells #[.int .i64 x] 3)) : (loadVar 3 ⟨b, 0, none⟩).run Tryz.prog W = .ok (.int .i64 x) W := by
  have c := blk_cell (c := [_]) h (j := 0) rfl
  simp [go_sem, c]
theorem loadErr {W : World} {b : Nat} {x : Int} (h : W.heap[b]? = some (.cells #[.int .i64 x] 31)) : (loadVar 31 ⟨b, 0, none⟩).run Tryz.prog W = .ok (.int .i64 x) W := by
  have c := blk_cell (c := [_]) h (j := 0) rfl
  simp [go_sem, c]

set_option maxRecDepth 100000 in
set_option maxHeartbeats 4000000 in
theorem Parse_one (s : ByteArray) (hs : s.size ≤ 1048576) (st : RdS) (r : Ru) (hf : (linesOf s).foldlM takeS RdS.new = some st) (hr1 : st.rules = [r]) (hm : st.mode = 1) (hl : 2 ≤ st.lines) (hok : relayOk st.dom [r]) (hc : ckE r = 0) (w : World) (hmd : Mds w) :
    Calls Tryz.prog 16 #[.string s] w fun e w' => ∃ v, e = .returned (.tuple #[DV st.dom v, .int .i64 0, .int .i64 0, .int .i64 0]) ∧ RsAt w' v [r] ∧ Below w.heap.size w w' ∧ st.dom.In ∧ r.In := by
  have hmf : ∀ (fn : Fn) (first cap : Array Value) (w : World), (Instr.makeFunc fn first cap).run Tryz.prog w = .ok (.func fn first cap) w := fun _ _ _ _ => rfl
  have hB0 : Below w.heap.size w ((((w.alloc (.cells zeroDL.toArray 29)).alloc (.cells #[.int .i64 0] 3)).alloc (.cells #[.int .i64 0] 3)).alloc (.cells #[.int .i64 0] 31)) := ((((Below.refl _ w).alloc (Nat.le_refl _) _).alloc (by simp) _).alloc (by simp; omega) _).alloc (by simp; omega) _
  have b0 : ((((w.alloc (.cells zeroDL.toArray 29)).alloc (.cells #[.int .i64 0] 3)).alloc (.cells #[.int .i64 0] 3)).alloc (.cells #[.int .i64 0] 31)).heap[w.heap.size]? = some (.cells zeroDL.toArray 29) := blk_alloc (blk_alloc (blk_alloc (blk_new w _) _) _) _
  have b1 : ((((w.alloc (.cells zeroDL.toArray 29)).alloc (.cells #[.int .i64 0] 3)).alloc (.cells #[.int .i64 0] 3)).alloc (.cells #[.int .i64 0] 31)).heap[w.heap.size + 1]? = some (.cells #[.int .i64 0] 3) := by
    have := blk_alloc (blk_alloc (blk_new (w.alloc (.cells zeroDL.toArray 29)) (.cells #[.int .i64 0] 3)) (.cells #[.int .i64 0] 3)) (.cells #[.int .i64 0] 31)
    rwa [show (w.alloc (.cells zeroDL.toArray 29)).heap.size = w.heap.size + 1 by simp] at this
  have b2 : ((((w.alloc (.cells zeroDL.toArray 29)).alloc (.cells #[.int .i64 0] 3)).alloc (.cells #[.int .i64 0] 3)).alloc (.cells #[.int .i64 0] 31)).heap[w.heap.size + 2]? = some (.cells #[.int .i64 0] 3) := by
    have := blk_alloc (blk_new ((w.alloc (.cells zeroDL.toArray 29)).alloc (.cells #[.int .i64 0] 3)) (.cells #[.int .i64 0] 3)) (.cells #[.int .i64 0] 31)
    rwa [show ((w.alloc (.cells zeroDL.toArray 29)).alloc (.cells #[.int .i64 0] 3)).heap.size = w.heap.size + 2 by simp] at this
  have b3 : ((((w.alloc (.cells zeroDL.toArray 29)).alloc (.cells #[.int .i64 0] 3)).alloc (.cells #[.int .i64 0] 3)).alloc (.cells #[.int .i64 0] 31)).heap[w.heap.size + 3]? = some (.cells #[.int .i64 0] 31) := by
    have := blk_new (((w.alloc (.cells zeroDL.toArray 29)).alloc (.cells #[.int .i64 0] 3)).alloc (.cells #[.int .i64 0] 3)) (.cells #[.int .i64 0] 31)
    rwa [show (((w.alloc (.cells zeroDL.toArray 29)).alloc (.cells #[.int .i64 0] 3)).alloc (.cells #[.int .i64 0] 3)).heap.size = w.heap.size + 3 by simp] at this
  have HR : Hid _ := read_one s hs st r hf hr1 hm hl hok hc _ (hmd.below hB0)
  generalize hW0 : (((w.alloc (.cells zeroDL.toArray 29)).alloc (.cells #[.int .i64 0] 3)).alloc (.cells #[.int .i64 0] 3)).alloc (.cells #[.int .i64 0] 31) = W0 at *
  have HW0 : Hid _ := hW0
  clear hW0 hok hc hf
  go_enter_defers Tryz.func16, Tryz.ntmps16
  go_wp2_with fail
  have HR' := HR.out
  rw [← HW0.out] at HR'
  refine Calls.mono HR' ?_
  rw [HW0.out]
  rintro _ w1 ⟨v, rfl, hrs, hB1, hdin, hrin, hup⟩
  have hsz : W0.heap.size = w.heap.size + 4 := by rw [← HW0.out]; simp
  have d0 := (hB1.block _ (Array.getElem?_eq_some_iff.1 b0).1).trans b0
  have d1 := (hB1.block _ (Array.getElem?_eq_some_iff.1 b1).1).trans b1
  have d2 := (hB1.block _ (Array.getElem?_eq_some_iff.1 b2).1).trans b2
  have d3 := (hB1.block _ (Array.getElem?_eq_some_iff.1 b3).1).trans b3
  have hvo : v.oneCell' = true := by
    obtain ⟨a, c, e, _⟩ := hrs
    rw [e]
    rfl
  obtain ⟨w2, hst2, e0, ho2⟩ := box_store (ty := 29) (n := 35) (fun w => by kernel_rfl) d0 rfl (dc st.dom v) (dc_length hdin v) (dc_one st.dom hvo)
  have e1 := (ho2.other (w.heap.size + 1) (by omega)).trans d1
  have e2 := (ho2.other (w.heap.size + 2) (by omega)).trans d2
  have e3 := (ho2.other (w.heap.size + 3) (by omega)).trans d3
  have c1 := blk_cell (c := [_]) e1 (j := 0) rfl
  have c2 := blk_cell (c := [_]) e2 (j := 0) rfl
  have c3 := blk_cell (c := [_]) e3 (j := 0) rfl
  have f1 := blk_open (c := [_]) e1 0
  have f2 := blk_open (c := [_]) e2 0
  have f3 := blk_open (c := [_]) e3 0
  have HST : Hid _ := hst2
  have hBw1 := hB0.trans (hB1.mono hB0.size)
  clear hst2 HR HR'
  go_wp2_with first
    | ((with_reducible show wpList _ _ _ _ _ _); refine armS (.tmp 2) (.tmp 8) 29 rfl rfl rfl rfl HST.out ?_)
  have ho3 : ∀ (W : World) (b : Nat), Only b W (W.setCell ⟨b, 0, none⟩ (.int .i64 0)) := fun W b => (Only.refl b W).set 0 _
  have p1 := blk_set (c := [_]) e1 0 (.int .i64 0)
  have p1' := ((ho3 _ (w.heap.size + 1 + 1 + 1)).other (w.heap.size + 1) (by omega)).trans (((ho3 _ (w.heap.size + 1 + 1)).other (w.heap.size + 1) (by omega)).trans p1)
  have p0' := ((ho3 _ (w.heap.size + 1 + 1 + 1)).other w.heap.size (by omega)).trans (((ho3 _ (w.heap.size + 1 + 1)).other w.heap.size (by omega)).trans (((ho3 w2 (w.heap.size + 1)).other w.heap.size (by omega)).trans e0))
  have p2 := blk_set (c := [_]) (((ho3 w2 (w.heap.size + 1)).other (w.heap.size + 2) (by omega)).trans e2) 0 (.int .i64 0)
  have p2' := ((ho3 _ (w.heap.size + 1 + 1 + 1)).other (w.heap.size + 2) (by omega)).trans p2
  have p3' := blk_set (c := [_]) (((ho3 _ (w.heap.size + 1 + 1)).other (w.heap.size + 3) (by omega)).trans (((ho3 w2 (w.heap.size + 1)).other (w.heap.size + 3) (by omega)).trans e3)) 0 (.int .i64 0)
  have hrsX : RsAt (((w2.setCell ⟨w.heap.size + 1, 0, none⟩ (.int .i64 0)).setCell ⟨w.heap.size + 1 + 1, 0, none⟩ (.int .i64 0)).setCell ⟨w.heap.size + 1 + 1 + 1, 0, none⟩ (.int .i64 0)) v [r] := by
    obtain ⟨ad, cap, e, j1, j2, j3⟩ := hrs
    refine ⟨ad, cap, e, j1, j2, fun hne => ?_⟩
    obtain ⟨g, off, e9, hg, hcl⟩ := j3 hne
    have hgu : w.heap.size + 4 ≤ g := by
      have := hup ⟨g, off, none⟩ _ _ (by rw [e, e9])
      rw [hsz] at this
      exact this
    have hgb := ((ho3 ((w2.setCell ⟨w.heap.size + 1, 0, none⟩ (.int .i64 0)).setCell ⟨w.heap.size + 1 + 1, 0, none⟩ (.int .i64 0)) (w.heap.size + 1 + 1 + 1)).other g (by omega)).trans (((ho3 (w2.setCell ⟨w.heap.size + 1, 0, none⟩ (.int .i64 0)) (w.heap.size + 1 + 1)).other g (by omega)).trans (((ho3 w2 (w.heap.size + 1)).other g (by omega)).trans (ho2.other g (by omega))))
    refine ⟨g, off, e9, ?_, fun j x hj i u hi => (World.cell?_of_block (a := ⟨g, _, none⟩) hgb).trans (hcl j x hj i u hi)⟩
    rw [(ho3 _ _).size, (ho3 _ _).size, (ho3 _ _).size, ho2.size]
    exact hg
  have hBX : Below w.heap.size w (((w2.setCell ⟨w.heap.size + 1, 0, none⟩ (.int .i64 0)).setCell ⟨w.heap.size + 1 + 1, 0, none⟩ (.int .i64 0)).setCell ⟨w.heap.size + 1 + 1 + 1, 0, none⟩ (.int .i64 0)) := (((hBw1.trans (ho2.below (Nat.le_refl _))).setCell (by simp) _).setCell (by simp; omega) _).setCell (by simp; omega) _
  generalize ((w2.setCell ⟨w.heap.size + 1, 0, none⟩ (.int .i64 0)).setCell ⟨w.heap.size + 1 + 1, 0, none⟩ (.int .i64 0)).setCell ⟨w.heap.size + 1 + 1 + 1, 0, none⟩ (.int .i64 0) = X at p0' p1' p2' p3' hrsX hBX ⊢
  refine leaves_cons (f := 42) (args := #[.pointer (some ⟨w.heap.size, 0, none⟩), .pointer (some ⟨w.heap.size + 1, 0, none⟩), .pointer (some ⟨w.heap.size + 1 + 1, 0, none⟩), .pointer (some ⟨w.heap.size + 1 + 1 + 1, 0, none⟩)]) (by simp) (by simp [go_sem]) ?_
  refine (catch_idleL _ _ _ _ _).mono ?_
  rintro e9 u9 w9 ⟨rfl, rfl, hb9⟩
  have q0 := (hb9.block _ (Array.getElem?_eq_some_iff.1 p0').1).trans p0'
  have q1 := (hb9.block _ (Array.getElem?_eq_some_iff.1 p1').1).trans p1'
  have q2 := (hb9.block _ (Array.getElem?_eq_some_iff.1 p2').1).trans p2'
  have q3 := (hb9.block _ (Array.getElem?_eq_some_iff.1 p3').1).trans p3'
  exact ⟨_, res4c rfl rfl rfl rfl rfl (agg_loadVar (t := 29) (n := 35) (fun w => by kernel_rfl) (fun w => by kernel_rfl) (dc_length hdin v) (CellsAt.blk q0)) (loadI q1) (loadI q2) (loadErr q3), v, rfl, hrsX.below hb9, hBX.trans (hb9.mono hBX.size), hdin, hrin⟩

end Go.Proofs.YtaebknkjhhcneaaGreatDoor

namespace Go.Proofs.YtaebknkjhhcneaaGreatDoor
open Go Go.RowKit
set_option linter.unusedVariables false
set_option linter.unusedSimpArgs false

def knB : ByteArray := ⟨([109, 111, 100, 101, 32, 109, 97, 112, 45, 101, 10, 114, 101, 108, 97, 121, 32, 50, 48, 48, 49, 58, 100, 98, 56, 58, 102, 102, 102, 102, 58, 58, 49, 32, 35, 32, 98, 111, 114, 100, 101, 114, 10, 114, 117, 108, 101] ++ [32, 50, 48, 48, 49, 58, 100, 98, 56, 58, 58, 47, 52, 48, 32, 49, 57, 50, 46, 48, 46, 50, 46, 48, 47, 50, 52, 32, 101, 97, 32, 49, 54, 32, 111, 102, 102, 115, 101, 116, 32, 54, 32, 102, 109, 114, 10] : List UInt8).toArray⟩
def knR : Ru := ⟨[32, 1, 13, 184, 0, 0, 0, 0, 0, 0, 0, 0, 0, 0, 0, 0], 40, [192, 0, 2, 0], 24, 16, 6, true⟩
def knS : RdS := ⟨1, [32, 1, 13, 184, 255, 255, 0, 0, 0, 0, 0, 0, 0, 0, 0, 1], List.replicate 16 0, 0, [knR], 3, [3]⟩
set_option maxRecDepth 100000 in
theorem kn_lines : (linesOf knB).foldlM takeS RdS.new = some knS := by kernel_rfl
set_option maxRecDepth 100000 in
theorem kn_best : (bestN Ru.n6 (has6R knS.dom.relay) [knR] [knR].length).2 < 0 := by decide +kernel
set_option maxRecDepth 100000 in
theorem kn_ck : ckE knR = 0 := by decide +kernel
theorem kn_relay : relayOk knS.dom [knR] := ⟨by decide, kn_best, rfl, rfl⟩
def knO : List Int := [32, 1, 13, 184, 0, 18, 52, 0, 0, 0, 192, 0, 2, 18, 0, 52]
set_option maxRecDepth 100000 in
theorem kn_own : ownT [knR] [192, 0, 2, 18] 1232 = (knO, 0, 0) := by decide +kernel

end Go.Proofs.YtaebknkjhhcneaaGreatDoor

namespace Go.Proofs.YtaebknkjhhcneaaGreatDoor
open Go Go.RowKit
set_option linter.unusedVariables false
set_option linter.unusedSimpArgs false

set_option maxRecDepth 100000 in
set_option maxHeartbeats 4000000 in
theorem alive11 (w : World) (hmd : Mds w) (htz : Tz w) : Calls Tryz.prog 15 #[] w fun e w' => e = .returned (.bool true) ∧ Below w.heap.size w w' := by
  generalize hQ : (fun (e : Ending) (w' : World) => e = .returned (.bool true) ∧ Below w.heap.size w w') = Q
  have HQ : Hid _ := hQ
  clear hQ
  have HP : Hid _ := Parse_one knB (by decide) knS knR kn_lines rfl rfl (by decide) kn_relay kn_ck w hmd
  go_enter Tryz.func15, Tryz.ntmps15
  go_wp2_with fail
  refine Calls.mono HP.out ?_
  rintro _ w1 ⟨v, rfl, hrs, hB1, hdin, hrin⟩
  have hvo : v.oneCell' = true := by
    obtain ⟨a, c, e, _⟩ := hrs
    rw [e]
    rfl
  obtain ⟨w2, hst2, hb2, hB2⟩ := box_new (ty := 29) (n := 35) (fun w => by kernel_rfl) w1 zeroDL rfl (dc knS.dom v) (dc_length hdin v) (dc_one knS.dom hvo)
  have hBw2 := hB1.trans (hB2.mono hB1.size)
  have HS2 : Hid _ := hst2
  have HL2 : Hid _ := loadD hdin hb2
  have hrs2 := hrs.below hB2
  have HO : Hid _ := Own_any knS.dom hdin [knR] (fun x hx => by rw [List.mem_singleton.1 hx]; exact hrin) (by decide) v [192, 0, 2, 18] (fun z hz => by
    simp only [List.mem_cons, List.not_mem_nil, or_false] at hz
    rcases hz with rfl | rfl | rfl | rfl <;> decide) rfl 1232 (by decide) w2 hrs2
  rw [kn_own] at HO
  have HRS2 : Hid _ := hrs2
  clear HP hst2 hrs hrs2
  go_wp2_with first
    | ((with_reducible show wpList _ _ _ _ _ _); refine armS (.tmp 1) (.tmp 10) 29 rfl rfl rfl rfl HS2.out ?_)
    | ((with_reducible show wpList _ _ _ _ _ _); refine armLv (.tmp 1) 29 rfl rfl rfl HL2.out ?_)
  refine Calls.mono HO.out ?_
  rintro _ w3 ⟨rfl, hB3⟩
  unfold ownE
  obtain ⟨w4, hst4, hb4, hB4⟩ := box_new (ty := 24) (n := 16) (fun w => by kernel_rfl) w3 zero16V rfl (u8s knO) rfl (u8s_one knO)
  have hBw3 := hBw2.trans (hB3.mono hBw2.size)
  have hBw4 := hBw3.trans (hB4.mono hBw3.size)
  have hB24 := hB3.trans (hB4.mono hB3.size)
  have HS4 : Hid _ := hst4
  have HL4 : Hid _ := load6 (l := knO) rfl (CellsAt.blk hb4)
  have hd4 := (hB24.block _ (Array.getElem?_eq_some_iff.1 hb2).1).trans hb2
  obtain ⟨ad, cap, rfl, j1, j2, j3⟩ := RsAt.below HRS2.out hB24
  obtain ⟨g, off, rfl, hg, hcl⟩ := j3 (by simp)
  have c34 : w4.cell? ⟨w1.heap.size, 34, none⟩ = some (.slice (some ⟨g, off, none⟩) 1 cap) := blk_cell hd4 (dc_34 hdin _)
  have c24 : w4.cell? ⟨g, off + 24, none⟩ = some (.bool true) := by
    have := hcl 0 knR rfl 24 (.bool true) rfl
    rwa [Nat.zero_mul, Nat.add_zero] at this
  have HT : Hid (Calls Tryz.prog 37 #[A6 knO] w4 fun e w' => e = .returned (.string (tK 8)) ∧ Below w4.heap.size w4 w') := Text6_known w4 (Tz.on htz hBw4)
  have HBE : Hid _ := hBw4
  clear HO HS2 HL2 HRS2 hst4 hd4 j3 hcl hB1 hB2 hBw2 hB3 hBw3 hB4 hB24 hBw4
  go_wp2_with first
    | ((with_reducible show wpList _ _ _ _ _ _); refine armS (.tmp 5) (.tmp 18) 24 rfl rfl rfl rfl HS4.out ?_)
    | ((with_reducible show wpList _ _ _ _ _ _); refine armLv (.tmp 5) 24 rfl rfl rfl HL4.out ?_)
  refine Calls.mono HT.out ?_
  rintro _ w5 ⟨rfl, hB5⟩
  have HBF : Hid _ := HBE.out.trans (hB5.mono HBE.out.size)
  unfold tK
  clear HT hB5 HBE
  go_wp2
  try go_ret
  rw [← HQ.out]
  exact ⟨rfl, HBF.out⟩

end Go.Proofs.YtaebknkjhhcneaaGreatDoor
