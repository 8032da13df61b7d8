/-
  Regions that draw, by hand.
  The document's Prefix6 of a good text.
  The document's Parse4, of texts of any length.
  The document's Text4.
  The document's Prefix4 of a good text.
  Regions that draw, by hand: what is left of one, a call in it, a load of a number.
-/
import Derived.Test.YtlpbffcijhgelaaDoorQbx
import Derived.OrdersHeld
import Derived.Test.YtlpbffcijhgelaaDoorFold03
import Derived.Test.YtlpbffcijhgelaaDoorRa1
import Derived.Test.YtlpbffcijhgelaaDoorFold01
namespace Go.Proofs.YtlpbffcijhgelaaDoor
open Go Go.RowKit
set_option linter.unusedVariables false
set_option linter.unusedSimpArgs false

theorem wpOp_none {P : Program} {ops : Array Oper} {i : Nat} {o : Oper} {K : Act → World → Prop} {Q : Exit → Act → World → Prop} {a : Act} {w : World} (hi : ops[i]? = some o) (hg : o.guard = none) (h : o.wp P a w K Q) : wpOp P ops Q i K a w := by
  unfold wpOp
  rw [hi]
  simp only
  rw [if_pos (by simp [Region.wanted, hg])]
  exact .inl h

theorem all_one {P : Program} {ops : Array Oper} {Q : Exit → Act → World → Prop} {md : Region.Mode} {S : World → Prop} {i : Nat} {o : Oper} {fuel : Nat} {listed : Array Bool} {a : Act} {w : World} (hr : Region.ready md ops listed = [i]) (hi : ops[i]? = some o) (hg : o.guard = none)
    (h : o.wp P a w (fun a' w' => S w' ∧ wpAnyH P md ops Q S fuel (listed.setIfInBounds i true) a' w') Q) : wpAnyH P md ops Q S (fuel + 1) listed a w := by
  refine wpAnyH_all (rs := [i]) hr (by simp) ?_
  intro j hj
  obtain rfl : j = i := by simpa using hj
  exact wpOp_none hi hg h

theorem all_two {P : Program} {ops : Array Oper} {Q : Exit → Act → World → Prop} {md : Region.Mode} {S : World → Prop} {i1 i2 : Nat} {o1 o2 : Oper} {fuel : Nat} {listed : Array Bool} {a : Act} {w : World} (hr : Region.ready md ops listed = [i1, i2]) (h1 : ops[i1]? = some o1) (g1 : o1.guard = none) (h2 : ops[i2]? = some o2) (g2 : o2.guard = none)
    (k1 : o1.wp P a w (fun a' w' => S w' ∧ wpAnyH P md ops Q S fuel (listed.setIfInBounds i1 true) a' w') Q) (k2 : o2.wp P a w (fun a' w' => S w' ∧ wpAnyH P md ops Q S fuel (listed.setIfInBounds i2 true) a' w') Q) : wpAnyH P md ops Q S (fuel + 1) listed a w := by
  refine wpAnyH_all (rs := [i1, i2]) hr (by simp) ?_
  intro j hj
  simp at hj
  rcases hj with rfl | rfl
  · exact wpOp_none h1 g1 k1
  · exact wpOp_none h2 g2 k2

theorem take_one {d : Option Nat} {P : Program} {ops : Array Oper} {Q : Exit → Act → World → Prop} {md : Region.Mode} {S : World → Prop} {i : Nat} {o : Oper} {v : Value} {fuel : Nat} {listed : Array Bool} {a : Act} {w : World} (hi : ops[i]? = some o) (hg : o.guard = none) (hd : o.dst = d)
    (hs : Region.noSelect ops = true) (hf : Region.free md ops listed i = true) (hr : (Region.ready md ops listed).contains i = true) (hQ : ∀ c (a : Act) d v w, Q (.panic c) (a.put d v) w → Q (.panic c) a w)
    (hy : ∀ w, S w → (execOp a.eval o).run P w = .ok (.value v) w) (hS : S w) (h : wpAnyH P md ops Q S fuel (listed.setIfInBounds i true) (a.put d v) w) : wpAnyH P md ops Q S (fuel + 1) listed a w :=
  wpAnyH_take hi hs hf hr (fun c a w q => hQ c a _ _ w q) (.inl ⟨by simp [Region.wanted, hg], hy⟩) hS (hd ▸ h)

theorem wp_call {P : Program} {o : Oper} {a : Act} {d : Option Nat} {w : World} {K : Act → World → Prop} {Q : Exit → Act → World → Prop} {R : Value → World → Prop} (f : FuncId) (vs : Array Value) (hd : o.dst = d)
    (hrun : (execOp a.eval o).run P w = .ok (.enter f vs) w) (hc : Calls P f vs w fun e w' => ∃ v, e = .returned v ∧ R v w') (hK : ∀ v w2, R v w2 → K (a.put d v) w2) : o.wp P a w K Q := by
  subst hd
  unfold Oper.wp
  rw [hrun]
  refine hc.mono ?_
  rintro e w' ⟨v, rfl, hr⟩
  exact hK v w' hr

theorem ex_loadA {P : Program} {o : Oper} {a : Act} {W : World} (k : Operand) (t : TypeId) {vp v : Value} (hop : o.op = Op.load t k) (hk : a.eval k = vp) (h : (Instr.loadAt t vp).run P W = .ok v W) : (execOp a.eval o).run P W = .ok (.value v) W := by
  simp [execOp, hop, hk, h, Result.andThen]
theorem ex_moveA {P : Program} {o : Oper} {a : Act} {W : World} (p : Operand) (hop : o.op = Op.move p) {v : Value} (hp : a.eval p = v) : (execOp a.eval o).run P W = .ok (.value v) W := by
  generalize a.eval = ev at *
  simp [execOp, hop, hp, go_sem]
theorem ex_buildA {P : Program} {o : Oper} {a : Act} {W : World} (t : TypeId) (ps : List (Nat × Operand)) (hop : o.op = Op.build t ps.toArray) {vs : List (Nat × Value)} (hv : ps.map (fun p => (p.1, a.eval p.2)) = vs) {v : Value} (hrun : (Instr.build t vs.toArray).run P W = .ok v W) : (execOp a.eval o).run P W = .ok (.value v) W := by
  have e : (ps.toArray.map fun (i, x) => (i, a.eval x)) = vs.toArray := by
    rw [← hv]
    simp
  simp only [execOp, hop]
  rw [e]
  simp [hrun, Result.andThen]
theorem wp_storeA {P : Program} {o : Oper} {a : Act} {w w2 : World} {K : Act → World → Prop} {Q : Exit → Act → World → Prop} (p x : Operand) (t : TypeId) (hop : o.op = Op.store t p x) (hd : o.dst = none) {vp vx : Value} (hp : a.eval p = vp) (hx : a.eval x = vx) (hrun : (Instr.storeAt t vp vx).run P w = .ok () w2) (hK : K a w2) : o.wp P a w K Q := by
  have hK' : K (a.put o.dst (.tuple #[])) w2 := by rw [hd]; exact hK
  unfold Oper.wp
  simp [execOp, hop, hp, hx, hrun, Result.andThen]
  exact hK'
theorem wp_allocA {P : Program} {o : Oper} {a : Act} {d : Option Nat} {w : World} {K : Act → World → Prop} {Q : Exit → Act → World → Prop} (t : TypeId) (hop : o.op = Op.alloc t) (hd : o.dst = d) {v : Value} {w2 : World} (hrun : (execOp a.eval o).run P w = .ok (.value v) w2) (hK : K (a.put d v) w2) : o.wp P a w K Q := by
  subst hd
  unfold Oper.wp
  rw [hrun]
  exact hK

end Go.Proofs.YtlpbffcijhgelaaDoor

namespace Go.Proofs.YtlpbffcijhgelaaDoor
set_option linter.unusedVariables false
set_option linter.unusedSimpArgs false
open Go Go.RowKit

abbrev zero17V : List Value := [.int .u8 0, .int .u8 0, .int .u8 0, .int .u8 0, .int .u8 0, .int .u8 0, .int .u8 0, .int .u8 0, .int .u8 0, .int .u8 0, .int .u8 0, .int .u8 0, .int .u8 0, .int .u8 0, .int .u8 0, .int .u8 0, .int .i64 0]

theorem cells_b8 {w : World} {b : Nat} {l : List Int} {t : TypeId} (h : w.heap[b]? = some (.cells (b8 l).toArray t)) : CellsAt w b 0 (u8s l) := by
  have := CellsAt.of_blk h
  exact this

def Pre6Post (A : List Int) (n : Int) (w : World) (e : Ending) (w' : World) : Prop := e = .returned (.tuple #[P6 A n, .int .i64 0, .int .i64 0]) ∧ Below w.heap.size w w'

/-- What a good prefix's text is. -/
structure Good6 (s : ByteArray) (at_ : Nat) (A : List Int) (n : Int) : Prop where
  slash : slashN (txt s) s.size 0 = at_
  lt : at_ + 1 < s.size
  short : s.size ≤ 100
  parse : ∀ W, Calls Tryd.prog 19 #[.string (s.extract 0 at_)] W fun e w' => Par6Post (A, 0, 0) W e w'
  len : lenN (txt (s.extract (at_ + 1) s.size)) 128 (s.extract (at_ + 1) s.size).size 0 = (s.extract (at_ + 1) s.size).size
  sz : (s.extract (at_ + 1) s.size).size ≤ 3
  digits : (txt (s.extract (at_ + 1) s.size)).all digB = true
  num : numF 0 (txt (s.extract (at_ + 1) s.size)) = n
  ok : okP6 A n = true
  a16 : A.length = 16
  fit : FitB A
  n64 : 0 ≤ n ∧ n ≤ 128

set_option maxHeartbeats 1000000 in
set_option maxRecDepth 100000 in
theorem Prefix6_good (s : ByteArray) (at_ : Nat) (A : List Int) (n : Int) (G : Good6 s at_ A n) (w : World) :
    Calls Tryd.prog 25 #[.string s] w fun e w' => Pre6Post A n w e w' := by
  obtain ⟨h1, h2, h3, h4, h5, h5b, h6, h7, h8, h9, h10, h11⟩ := G
  generalize hQ : (fun e w' => Pre6Post A n w e w') = Q
  have HQ : Hid _ := hQ
  clear hQ
  have hsl := fun W => slash_ref s W (by omega)
  rw [h1] at hsl
  have hes : (s.extract (at_ + 1) s.size).size = s.size - (at_ + 1) := by rw [ByteArray.size_extract]; omega
  have hlen := fun W => length_ref (s.extract (at_ + 1) s.size) 128 W (by omega) (by decide)
  rw [h5] at hlen
  have hnum := fun W => number_ref (s.extract (at_ + 1) s.size) W h6 (by omega)
  rw [h7] at hnum
  have hck := fun W => RCheck6_calls A n W h10 h9 (by omega)
  rw [h8] at hck
  simp only [if_true] at hck
  have HSL : Hid _ := hsl
  have HLEN : Hid _ := hlen
  have HNUM : Hid (∀ W, Calls Tryd.prog 53 #[.string (s.extract (at_ + 1) s.size)] W fun e w' => ∃ u, e = .returned u ∧ (u = .int .i64 n ∧ w' = W)) := fun W => (hnum W).mono fun e w' h => ⟨_, h.1, rfl, h.2⟩
  have HCK : Hid _ := hck
  have HPA : Hid _ := h4
  clear hsl hlen hnum hck h4 h1 h5 h6 h7 h8
  have hb0 := blk_new w (.cells zero17V.toArray 40)
  have hB0 := (Below.refl w.heap.size w).alloc (Nat.le_refl _) (.cells zero17V.toArray 40)
  have hz0 : (w.alloc (.cells zero17V.toArray 40)).heap.size = w.heap.size + 1 := by simp
  have HZ0 : Hid _ := hz0
  clear hz0
  generalize hr : s.extract (at_ + 1) s.size = r at *
  have HRR : Hid _ := hr
  have q1 : ((at_ : Int) == (s.size : Int)) = false := by simp; omega
  have q2 : (at_ : Int) ≤ (s.size : Int) := by omega
  have q3 : (at_ : Int) + 1 ≤ (s.size : Int) := by omega
  have q4 : ((r.size : Int) == 0) = false := by rw [beq_eq_false_iff_ne]; intro h; omega
  have hrs : r.size ≤ 100 := by omega
  clear hr hes
  go_enter Tryd.func25, Tryd.ntmps25
  go_wp2_with fail
  generalize hW : w.alloc (.cells zero17V.toArray 40) = W0 at *
  clear hW
  refine (HSL.out W0).mono ?_
  rintro e w1 ⟨rfl, rfl⟩
  go_wp2_with fail
  refine (HPA.out _).mono ?_
  rintro e w2 ⟨rfl, hB2⟩
  have hz0 := HZ0.out
  have hb2 := (hB2.block _ (by omega)).trans hb0
  have hBw2 := hB0.trans (hB2.mono (by omega))
  obtain ⟨w3, hst, bx3, hB3⟩ := box_new Tryd.sizeOf31 w2 zero16V rfl (b8 A) (by rw [b8_length, h9]) (b8_one _)
  have hlt2 : w.heap.size < w2.heap.size := Nat.lt_of_lt_of_le (by omega) hB2.size
  have hb3 := (hB3.block _ hlt2).trans hb2
  have hBw3 := hBw2.trans (hB3.mono hBw2.size)
  have HST : Hid _ := hst
  clear hst hz0 HZ0 hb0 hB0 hb2 hBw2 HPA HSL
  unfold Par6
  dsimp only
  go_wp2_with ((with_reducible show wpList _ _ _ _ _ _); refine armS (.tmp 6) (.tmp 18) 31 rfl rfl rfl rfl HST.out ?_)
  rw [HRR.out]
  refine (HLEN.out _).mono ?_
  rintro e w4 ⟨rfl, rfl⟩
  go_wp2_with fail
  obtain ⟨w5, hst5, bx5, hB5⟩ := box_new Tryd.sizeOf40 w4.drew zero17V rfl (cp6 A n) (cp6_length A n h9) (cp6_one A n)
  have HS5 : Hid _ := hst5
  have hb5 := (hB5.block w.heap.size (Nat.lt_of_lt_of_le hlt2 hB3.size)).trans hb3
  have hBw5 : Below w.heap.size w w5 := hBw3.drew.trans (hB5.mono hBw3.size)
  have HLP : Hid _ := loadP6 h9 (CellsAt.pfx h9 bx5).1
  have hb6 : w5.heap[w2.heap.size]? = some (.cells (b8 A).toArray 31) := (hB5.block w2.heap.size (Array.getElem?_eq_some_iff.1 bx3).1).trans bx3
  clear hst5
  refine wp_region_held (S := fun W => W.heap[w2.heap.size]? = some (.cells (b8 A).toArray 31)) (by kernel_rfl) ?_
  show wpAnyH _ _ _ _ _ 6 (Array.replicate 6 false) _ _
  refine take_one (i := 0) (d := some 50) (v := (A6 A)) rfl rfl rfl (by kernel_rfl) (by kernel_rfl) (by kernel_rfl) (fun _ _ d _ _ h => by cases d <;> exact h) (fun W hS => ex_loadA (.tmp 6) 31 rfl rfl (load6 h9 (cells_b8 hS))) bx3 ?_
  simp only [Act.put, List.setIfInBounds_toArray, List.set_cons_zero, List.set_cons_succ]
  refine take_one (i := 1) (d := some 51) (v := (.string r)) rfl rfl rfl (by kernel_rfl) (by kernel_rfl) (by kernel_rfl) (fun _ _ d _ _ h => by cases d <;> exact h) (fun W hS => ex_moveA (.tmp 9) rfl rfl) bx3 ?_
  simp only [Act.put, List.setIfInBounds_toArray, List.set_cons_zero, List.set_cons_succ]
  have bx3a : (w4.drew.alloc (.cells zero17V.toArray 40)).heap[w2.heap.size]? = some (.cells (b8 A).toArray 31) := blk_alloc (w := w4.drew) bx3 _
  refine all_two (i1 := 2) (i2 := 4) (by kernel_rfl) rfl rfl rfl rfl ?_ ?_
  · refine wp_call (d := some 52) 53 _ rfl (by kernel_rfl) (HNUM.out _) ?_
    rintro _ _ ⟨rfl, rfl⟩
    refine ⟨bx3, ?_⟩
    simp only [Act.put, List.setIfInBounds_toArray, List.set_cons_zero, List.set_cons_succ]
    refine take_one (i := 3) (d := some 53) (v := (P6 A n)) rfl rfl rfl (by kernel_rfl) (by kernel_rfl) (by kernel_rfl) (fun _ _ d _ _ h => by cases d <;> exact h) (fun W hS => ex_buildA 40 [(0, .tmp 50), (1, .tmp 52)] rfl rfl (build6 A n h9 _)) bx3 ?_
    simp only [Act.put, List.setIfInBounds_toArray, List.set_cons_zero, List.set_cons_succ]
    refine all_one (i := 4) (by kernel_rfl) rfl rfl ?_
    refine wp_allocA (d := some 10) 40 rfl rfl (v := .pointer (some ⟨w4.drew.heap.size, 0, none⟩)) (w2 := w4.drew.alloc (.cells zero17V.toArray 40)) (by simp [execOp, go_sem]) ?_
    refine ⟨bx3a, ?_⟩
    simp only [Act.put, List.setIfInBounds_toArray, List.set_cons_zero, List.set_cons_succ]
    refine all_one (i := 5) (by kernel_rfl) rfl rfl ?_
    refine wp_storeA (.tmp 10) (.tmp 53) 40 rfl rfl rfl rfl HS5.out ?_
    refine ⟨hb6, ?_⟩
    refine wpAnyH_done (by kernel_rfl) ?_ _
    go_wp2_with ((with_reducible show wpList _ _ _ _ _ _); refine armL (.tmp 10) 40 rfl rfl rfl HLP.out ?_)
    refine (HCK.out w5).mono ?_
    rintro e w6 ⟨rfl, hB6⟩
    have hlt5 : w.heap.size < w5.heap.size := (Array.getElem?_eq_some_iff.1 hb5).1
    have hb6R := (hB6.block _ hlt5).trans hb5
    have hBw6 := hBw5.trans (hB6.mono hBw5.size)
    have bx6 := (hB6.block _ (Array.getElem?_eq_some_iff.1 bx5).1).trans bx5
    have HL2 : Hid _ := loadP6 h9 (CellsAt.pfx h9 bx6).1
    obtain ⟨wE, hst, bE, honE⟩ := box_store Tryd.sizeOf40 hb6R rfl (cp6 A n) (cp6_length A n h9) (cp6_one A n)
    have HLV : Hid _ := loadVarP6 h9 (CellsAt.pfx h9 bE).1
    have HBE : Hid (Below w.heap.size w wE) := hBw6.trans (honE.below (Nat.le_refl _))
    have HSQ : Hid _ := hst
    clear hst bE honE hb6R hBw6 bx6 hB6 HCK
    go_wp2_with first
      | ((with_reducible show wpList _ _ _ _ _ _); refine armL (.tmp 10) 40 rfl rfl rfl HL2.out ?_)
      | ((with_reducible show wpList _ _ _ _ _ _); refine armS (.tmp 2) (.tmp 59) 40 rfl rfl rfl rfl HSQ.out ?_)
    refine bodyPost_ret (res3c Tryd.results25 rfl HLV.out) rfl ?_
    rw [← HQ.out]
    exact ⟨rfl, HBE.out⟩
  · refine wp_allocA (d := some 10) 40 rfl rfl (v := .pointer (some ⟨w4.drew.heap.size, 0, none⟩)) (w2 := w4.drew.alloc (.cells zero17V.toArray 40)) (by simp [execOp, go_sem]) ?_
    refine ⟨bx3a, ?_⟩
    simp only [Act.put, List.setIfInBounds_toArray, List.set_cons_zero, List.set_cons_succ]
    refine all_one (i := 2) (by kernel_rfl) rfl rfl ?_
    refine wp_call (d := some 52) 53 _ rfl (by kernel_rfl) (HNUM.out _) ?_
    rintro _ _ ⟨rfl, rfl⟩
    refine ⟨bx3a, ?_⟩
    simp only [Act.put, List.setIfInBounds_toArray, List.set_cons_zero, List.set_cons_succ]
    refine take_one (i := 3) (d := some 53) (v := (P6 A n)) rfl rfl rfl (by kernel_rfl) (by kernel_rfl) (by kernel_rfl) (fun _ _ d _ _ h => by cases d <;> exact h) (fun W hS => ex_buildA 40 [(0, .tmp 50), (1, .tmp 52)] rfl rfl (build6 A n h9 _)) bx3a ?_
    simp only [Act.put, List.setIfInBounds_toArray, List.set_cons_zero, List.set_cons_succ]
    refine all_one (i := 5) (by kernel_rfl) rfl rfl ?_
    refine wp_storeA (.tmp 10) (.tmp 53) 40 rfl rfl rfl rfl HS5.out ?_
    refine ⟨hb6, ?_⟩
    refine wpAnyH_done (by kernel_rfl) ?_ _
    go_wp2_with ((with_reducible show wpList _ _ _ _ _ _); refine armL (.tmp 10) 40 rfl rfl rfl HLP.out ?_)
    refine (HCK.out w5).mono ?_
    rintro e w6 ⟨rfl, hB6⟩
    have hlt5 : w.heap.size < w5.heap.size := (Array.getElem?_eq_some_iff.1 hb5).1
    have hb6R := (hB6.block _ hlt5).trans hb5
    have hBw6 := hBw5.trans (hB6.mono hBw5.size)
    have bx6 := (hB6.block _ (Array.getElem?_eq_some_iff.1 bx5).1).trans bx5
    have HL2 : Hid _ := loadP6 h9 (CellsAt.pfx h9 bx6).1
    obtain ⟨wE, hst, bE, honE⟩ := box_store Tryd.sizeOf40 hb6R rfl (cp6 A n) (cp6_length A n h9) (cp6_one A n)
    have HLV : Hid _ := loadVarP6 h9 (CellsAt.pfx h9 bE).1
    have HBE : Hid (Below w.heap.size w wE) := hBw6.trans (honE.below (Nat.le_refl _))
    have HSQ : Hid _ := hst
    clear hst bE honE hb6R hBw6 bx6 hB6 HCK
    go_wp2_with first
      | ((with_reducible show wpList _ _ _ _ _ _); refine armL (.tmp 10) 40 rfl rfl rfl HL2.out ?_)
      | ((with_reducible show wpList _ _ _ _ _ _); refine armS (.tmp 2) (.tmp 59) 40 rfl rfl rfl rfl HSQ.out ?_)
    refine bodyPost_ret (res3c Tryd.results25 rfl HLV.out) rfl ?_
    rw [← HQ.out]
    exact ⟨rfl, HBE.out⟩

end Go.Proofs.YtlpbffcijhgelaaDoor

namespace Go.Proofs.YtlpbffcijhgelaaDoor
set_option linter.unusedVariables false
set_option linter.unusedSimpArgs false
open Go Go.RowKit

set_option maxHeartbeats 4000000 in
set_option maxRecDepth 100000 in
theorem Parse4_wide (s : ByteArray) (w : World) (hs : s.size ≤ 140737488355328) :
    Calls Tryd.prog 14 #[.string s] w fun e w' => Par4Post s w e w' := by
  have hl := txt_length s
  generalize hQ : (fun e w' => Par4Post s w e w') = Q
  have HQ : Hid _ := hQ
  clear hQ
  go_enter Tryd.func14, Tryd.ntmps14
  go_wp2_with fail
  have hb0 := blk_new w (.cells zero4L.toArray 23)
  have hB0 := (Below.refl w.heap.size w).alloc (Nat.le_refl _) (.cells zero4L.toArray 23)
  have hz0 : (w.alloc (.cells zero4L.toArray 23)).heap.size = w.heap.size + 1 := by simp
  generalize hW : w.alloc (.cells zero4L.toArray 23) = W0 at *
  clear hW
  go_loopw [5] (fun i wr => ∃ k : Nat, k ≤ s.size ∧ i = .int .i64 k ∧ Below W0.heap.size W0 wr ∧ begN (txt s) s.size 0 = begN (txt s) (s.size - k) k ∧ begB ((txt s).take k) = true) (fun i _ => s.size - (intOf i).toNat)
  case atStart => exact ⟨0, Nat.zero_le _, rfl, Below.refl _ _, rfl, rfl⟩
  case round =>
    obtain ⟨k, hk, rfl, hB, hN, hbk⟩ := hrel
    have hk15 : k ≤ 15 := by have := beg_len hbk; rw [List.length_take, hl] at this; omega
    clear hbk
    have HN : Hid _ := hN
    clear hN
    by_cases hlt : k < s.size
    · have hbg := begins_ref (s.extract 0 (k + 1)) wr (by rw [ByteArray.size_extract]; omega)
      rw [txt_extract, List.drop_zero, Nat.sub_zero] at hbg
      have hstep : begN (txt s) (s.size - k) k = if begB ((txt s).take (k + 1)) then begN (txt s) (s.size - (k + 1)) (k + 1) else k := by
        have e : s.size - k = (s.size - (k + 1)) + 1 := by omega
        rw [e, begN]
      cases hbb : begB ((txt s).take (k + 1)) with
      | true =>
        rw [hbb] at hbg
        have HS : Hid _ := hstep.trans (by rw [hbb, if_pos rfl] : _ = begN (txt s) (s.size - (k + 1)) (k + 1))
        have HBG : Hid _ := hbg
        have HBB : Hid (begB ((txt s).take (k + 1)) = true) := hbb
        clear hbg hstep hbb
        go_wp2_with fail
        refine Calls.mono HBG.out ?_
        rintro e w2 ⟨rfl, hB2⟩
        go_wp2
        exact ⟨⟨k + 1, by omega, by simp, hB.trans (hB2.mono hB.size), HN.out.trans HS.out, HBB.out⟩, by simp [intOf]; omega⟩
      | false =>
        rw [hbb] at hbg
        have hne : rparse4 (txt s) = ([0, 0, 0, 0], (k : Int), 20) := by
          have e : begN (txt s) (txt s).length 0 = k := by
            rw [hl, HN.out, hstep, hbb]
            rfl
          unfold rparse4
          rw [e]
          exact if_pos (.inl (by omega))
        have HNE : Hid _ := hne
        have HBG : Hid _ := hbg
        clear hbg hstep hbb hne
        go_wp2_with fail
        refine Calls.mono HBG.out ?_
        rintro e w2 ⟨rfl, hB2⟩
        have hbx := (hB2.block _ (Nat.lt_of_lt_of_le (by omega) hB.size)).trans ((hB.block w.heap.size (by omega)).trans hb0)
        have hBx : Below w.heap.size w w2 := (hB0.trans (hB.mono (by omega))).trans (hB2.mono (Nat.le_trans hB0.size hB.size))
        obtain ⟨wE, hst, bE, hon⟩ := box_store Tryd.sizeOf23 hbx rfl zero4L rfl (by simp [Value.oneCell'])
        have HST : Hid _ := hst
        have BE : Hid _ := bE
        have HBE : Hid (Below w.heap.size w wE) := hBx.trans (hon.below (Nat.le_refl _))
        clear hst bE hon hbx hBx
        go_wp2_with ((with_reducible show wpList _ _ _ _ _ _); refine arm_store rfl (.tmp 2) (.tmp 31) 23 rfl rfl rfl HST.out ?_)
        refine bodyPost_ret (res3c Tryd.results14 rfl (agg_loadVar Tryd.isAgg23 Tryd.sizeOf23 rfl (CellsAt.of_blk BE.out))) rfl ?_
        rw [← HQ.out]
        refine ⟨?_, HBE.out⟩
        rw [HNE.out]
        rfl
    · obtain rfl : k = s.size := by omega
      have hN2 : begN (txt s) (txt s).length 0 = s.size := by
        rw [hl, HN.out, Nat.sub_self]
        rfl
      have hwh := whole_ref s wr (by omega)
      cases hwb : whoB (txt s) with
      | false =>
        rw [hwb] at hwh
        have hne : rparse4 (txt s) = ([0, 0, 0, 0], (s.size : Int), 20) := by
          unfold rparse4
          rw [hN2]
          exact if_pos (.inr hwb)
        have HNE : Hid _ := hne
        have HWH : Hid _ := hwh
        clear hwh hwb hne HN hN2
        go_wp2_with fail
        refine Calls.mono HWH.out ?_
        rintro e w2 ⟨rfl, hB2⟩
        have hbx := (hB2.block _ (Nat.lt_of_lt_of_le (by omega) hB.size)).trans ((hB.block w.heap.size (by omega)).trans hb0)
        have hBx : Below w.heap.size w w2 := (hB0.trans (hB.mono (by omega))).trans (hB2.mono (Nat.le_trans hB0.size hB.size))
        obtain ⟨wE, hst, bE, hon⟩ := box_store Tryd.sizeOf23 hbx rfl zero4L rfl (by simp [Value.oneCell'])
        have HST : Hid _ := hst
        have BE : Hid _ := bE
        have HBE : Hid (Below w.heap.size w wE) := hBx.trans (hon.below (Nat.le_refl _))
        clear hst bE hon hbx hBx
        go_wp2_with ((with_reducible show wpList _ _ _ _ _ _); refine arm_store rfl (.tmp 2) (.tmp 31) 23 rfl rfl rfl HST.out ?_)
        refine bodyPost_ret (res3c Tryd.results14 rfl (agg_loadVar Tryd.isAgg23 Tryd.sizeOf23 rfl (CellsAt.of_blk BE.out))) rfl ?_
        rw [← HQ.out]
        refine ⟨?_, HBE.out⟩
        rw [HNE.out]
        rfl
      | true =>
        rw [hwb] at hwh
        have hne : rparse4 (txt s) = ((splitA 46 [] (txt s)).map (numF 0), 0, 0) := by
          unfold rparse4
          rw [hN2]
          exact if_neg (by simp [hwb, hl])
        have HNE : Hid _ := hne
        have HWH : Hid _ := hwh
        have hpp := whoB_parts hwb
        have HPP : Hid _ := hpp
        clear hwh hwb hne HN hN2 hpp
        go_wp2_with fail
        refine Calls.mono HWH.out ?_
        rintro e w2 ⟨rfl, hB2⟩
        have hbx := (hB2.block _ (Nat.lt_of_lt_of_le (by omega) hB.size)).trans ((hB.block w.heap.size (by omega)).trans hb0)
        have hBx : Below w.heap.size w w2 := (hB0.trans (hB.mono (by omega))).trans (hB2.mono (Nat.le_trans hB0.size hB.size))
        have hlt2 : w.heap.size < w2.heap.size := Nat.lt_of_lt_of_le (by omega) (Nat.le_trans hB.size hB2.size)
        go_wp2_with fail
        refine (split_ref s 46 w2 (by decide) (by omega)).mono ?_
        rintro e w3 ⟨v, bs, rfl, hown, hbs, hB3⟩
        obtain ⟨a, cap, rfl, hlen, hz⟩ := own_form hown
        have h4 : bs.length = 4 := by
          have := congrArg List.length hbs
          rw [List.length_map, HPP.out.1] at this
          exact this
        have hbx := (hB3.block _ hlt2).trans hbx
        have hBx := hBx.trans (hB3.mono hBx.size)
        have HBS : Hid _ := hbs
        clear hown hbs
        rcases hz with hz | ⟨g, rfl, hgb, hg, hc⟩
        · omega
        obtain ⟨w4, hst, b4, hB4⟩ := box_new Tryd.sizeOf23 w3 zero4L rfl zero4L rfl (by simp [Value.oneCell'])
        have HST : Hid _ := hst
        clear hst
        go_wp2_with ((with_reducible show wpList _ _ _ _ _ _); refine arm_store rfl (.tmp 7) (.tmp 35) 23 rfl rfl rfl HST.out ?_)
        have hps : (bs.map txt).length = 4 := by rw [List.length_map]; exact h4
        have hne : w.heap.size ≠ w3.heap.size := by have := hB3.size; omega
        have hlt3 : w.heap.size < w3.heap.size := by have := hB3.size; omega
        go_loopw [8] (fun i wr => ∃ k : Nat, k ≤ 4 ∧ i = .int .i64 k ∧ wr.heap[w3.heap.size]? = some (.cells (b8 (numK (bs.map txt) k)).toArray 23) ∧ Only w3.heap.size w4 wr) (fun i _ => 4 - (intOf i).toNat)
        case atStart => exact ⟨0, Nat.zero_le _, rfl, b4, Only.refl _ _⟩
        case round =>
          clear hB
          obtain ⟨k, hk, rfl, hbk, hon⟩ := hrel
          by_cases hlt4 : k < 4
          · have hb : bs[k]? = some bs[k] := by simp [h4, hlt4]
            have hcel := ((hon.below (Nat.le_refl _)).cell (p := ⟨g, k, none⟩) hg).trans ((hB4.cell (p := ⟨g, k, none⟩) hg).trans (hc k (.string bs[k]) (by rw [strsV, List.getElem?_map, hb]; rfl)))
            have hpk : (bs.map txt)[k]? = some (txt bs[k]) := by rw [List.getElem?_map, hb]; rfl
            have hgood := octB_good (HPP.out.2 (txt bs[k]) (by rw [← HBS.out]; exact List.mem_of_getElem? hpk)) (by decide)
            have HNX : Hid _ := numK_next (bs.map txt) k (txt bs[k]) hps hpk
            have hlen4 := numK_length (bs.map txt) k hps hk
            clear hb hpk
            generalize bs[k] = b at *
            have hnum := number_ref b wr hgood.1 (by have := hgood.2.1; rw [txt_length] at this; omega)
            have hr := hgood.2.2
            have HNU : Hid _ := hnum
            clear hgood hnum
            generalize numF 0 (txt b) = n at *
            have hfz := blk_open hbk k
            have hcl : wr.cell? ⟨w3.heap.size, k, none⟩ = some ((b8 (numK (bs.map txt) k))[k]'(by rw [b8_length]; omega)) := blk_cell hbk (List.getElem?_eq_getElem _)
            have hset := blk_set hbk k (.int .u8 n)
            rw [b8_set, HNX.out] at hset
            have hon' := hon.set k (.int .u8 n)
            generalize (b8 (numK (bs.map txt) k))[k]'(by rw [b8_length]; omega) = old at *
            have HSE : Hid _ := hset
            have HON : Hid _ := hon'
            clear hset hon' hon hbk
            have hwr : IntKind.u8.wrap n = n := by unfold IntKind.wrap; simp [IntKind.signed, IntKind.bits]; omega
            go_wp2_with fail
            refine Calls.mono HNU.out ?_
            rintro e w5 ⟨rfl, rfl⟩
            go_wp2
            exact ⟨⟨k + 1, by omega, by simp, HSE.out, HON.out⟩, by simp [intOf]; omega⟩
          · obtain rfl : k = 4 := by omega
            rw [numK_all _ hps, HBS.out] at hbk
            have hl4 := HPP.out.1
            have hbR := ((hon.below (B := w3.heap.size) (Nat.le_refl _)).block _ hlt3).trans ((hB4.block _ hlt3).trans hbx)
            have hBR : Below w.heap.size w wr := (hBx.trans (hB4.mono hBx.size)).trans (hon.below (by omega))
            have hL := agg_load (t := 23) Tryd.isAgg23 Tryd.sizeOf23 (vs := b8 ((splitA 46 [] (txt s)).map (numF 0))) (by rw [b8_length, List.length_map]; exact hl4) (CellsAt.of_blk hbk)
            obtain ⟨wE, hst, bE, honE⟩ := box_store Tryd.sizeOf23 hbR rfl (b8 ((splitA 46 [] (txt s)).map (numF 0))) (by rw [b8_length, List.length_map]; exact hl4) (b8_one _)
            have hlv := agg_loadVar (t := 23) Tryd.isAgg23 Tryd.sizeOf23 (vs := b8 ((splitA 46 [] (txt s)).map (numF 0))) (by rw [b8_length, List.length_map]; exact hl4) (CellsAt.of_blk bE)
            have HBE : Hid (Below w.heap.size w wE) := hBR.trans (honE.below (Nat.le_refl _))
            have HL : Hid _ := hL
            have HSQ : Hid _ := hst
            have HLV : Hid _ := hlv
            clear hL hst hlv bE honE hbR hBR hbk hon
            go_wp2_with first
              | ((with_reducible show wpList _ _ _ _ _ _); refine arm_load rfl (.tmp 7) 23 rfl rfl HL.out ?_)
              | ((with_reducible show wpList _ _ _ _ _ _); refine arm_store rfl (.tmp 2) (.tmp 48) 23 rfl rfl rfl HSQ.out ?_)
            refine bodyPost_ret (res3c Tryd.results14 rfl HLV.out) rfl ?_
            rw [← HQ.out]
            refine ⟨?_, HBE.out⟩
            rw [HNE.out]
            rfl

end Go.Proofs.YtlpbffcijhgelaaDoor

namespace Go.Proofs.YtlpbffcijhgelaaDoor
open Go Go.RowKit
set_option linter.unusedVariables false
set_option linter.unusedSimpArgs false

/-- The text of the first k bytes. -/
def tx4 (l : List Int) : Nat → List UInt8
  | 0 => []
  | k + 1 => (if k = 0 then tx4 l k else tx4 l k ++ [46]) ++ Lib.itoa (l[k]?.getD 0)
theorem tx4_all (a0 a1 a2 a3 : Int) : tx4 [a0, a1, a2, a3] 4 = text4 [a0, a1, a2, a3] := by
  simp [tx4, text4, Lib.join_cons, Lib.joinTail]
theorem tx4_len {l : List Int} (h : ∀ k, k < 4 → Byte (l[k]?.getD 0)) : ∀ k, k ≤ 4 → (tx4 l k).length ≤ 1001 * k
  | 0, _ => by simp [tx4]
  | k + 1, hk => by
    have ih := tx4_len h k (by omega)
    have hi := itoa_len (h k (by omega))
    rw [tx4]
    split <;> simp <;> omega
theorem str_app (a b : List UInt8) : (⟨a.toArray⟩ : ByteArray) ++ (⟨b.toArray⟩ : ByteArray) = ⟨(a ++ b).toArray⟩ := by
  apply ByteArray.ext
  simp [ByteArray.data_append]

set_option maxHeartbeats 2000000 in
set_option maxRecDepth 100000 in
theorem RText4_calls (a0 a1 a2 a3 : Int) (h0 : Byte a0) (h1 : Byte a1) (h2 : Byte a2) (h3 : Byte a3) (w : World) (ht : Tabs w) :
    Calls Tryd.prog 16 #[addrV [a0, a1, a2, a3]] w fun e w' => e = .returned (strV (text4 [a0, a1, a2, a3])) ∧ Below w.heap.size w w' := by
  show Calls Tryd.prog _ #[.agg #[.int .u8 a0, .int .u8 a1, .int .u8 a2, .int .u8 a3]] w _
  rw [← tx4_all]
  have HT : Hid _ := ht
  clear ht
  have b0 : 0 ≤ a0 ∧ a0 < 256 := h0
  have b1 : 0 ≤ a1 ∧ a1 < 256 := h1
  have b2 : 0 ≤ a2 ∧ a2 < 256 := h2
  have b3 : 0 ≤ a3 ∧ a3 < 256 := h3
  have hB1 : Below w.heap.size w (w.alloc (.cells #[.int .u8 a0, .int .u8 a1, .int .u8 a2, .int .u8 a3] 23)) := (Below.refl _ w).alloc (Nat.le_refl _) _
  have hk := heap_alloc_new w (.cells #[.int .u8 a0, .int .u8 a1, .int .u8 a2, .int .u8 a3] 23)
  have hz : w.heap.size < (w.alloc (.cells #[.int .u8 a0, .int .u8 a1, .int .u8 a2, .int .u8 a3] 23)).heap.size := by simp
  go_enter Tryd.func16, Tryd.ntmps16
  go_wp2_with fail
  generalize w.alloc (.cells #[.int .u8 a0, .int .u8 a1, .int .u8 a2, .int .u8 a3] 23) = w1 at *
  go_loopw [3, 4] (fun v3 v4 wr => ∃ (k : Nat), v4 = .int .i64 k ∧ k ≤ 4 ∧ v3 = strV (tx4 [a0, a1, a2, a3] k) ∧ Below w1.heap.size w1 wr) (fun _ v4 _ => 4 - (intOf v4).toNat)
  case atStart => exact ⟨0, rfl, by decide, rfl, Below.refl _ _⟩
  case round =>
    obtain ⟨k, rfl, hkk, rfl, hb⟩ := hrel
    have hbk := (hb.block _ hz).trans hk
    have c0 : wr.cell? ⟨w.heap.size, 0, none⟩ = some (.int .u8 a0) := by simp [World.cell?, hbk]
    have c1 : wr.cell? ⟨w.heap.size, 1, none⟩ = some (.int .u8 a1) := by simp [World.cell?, hbk]
    have c2 : wr.cell? ⟨w.heap.size, 2, none⟩ = some (.int .u8 a2) := by simp [World.cell?, hbk]
    have c3 : wr.cell? ⟨w.heap.size, 3, none⟩ = some (.int .u8 a3) := by simp [World.cell?, hbk]
    have hT := HT.out wr (hB1.trans (hb.mono hB1.size))
    have hlen := tx4_len (l := [a0, a1, a2, a3]) (fun k hk => by
      match k, hk with
      | 0, _ => exact h0
      | 1, _ => exact h1
      | 2, _ => exact h2
      | 3, _ => exact h3) k hkk
    have hcase : k = 0 ∨ k = 1 ∨ k = 2 ∨ k = 3 ∨ k = 4 := by omega
    rcases hcase with rfl | rfl | rfl | rfl | rfl
    · have hC := itoa_calls a0 h0 wr hT
      have HC : Hid (Calls Tryd.prog 54 #[.int .i64 a0] wr fun e w' => e = .returned (.string ⟨(Lib.itoa a0).toArray⟩) ∧ Below wr.heap.size wr w') := hC
      have HX : Hid (tx4 [a0, a1, a2, a3] 1 = tx4 [a0, a1, a2, a3] 0 ++ Lib.itoa a0) := rfl
      have hY := itoa_len h0
      clear hC hT
      generalize tx4 [a0, a1, a2, a3] 0 = X at *
      generalize Lib.itoa a0 = Y at *
      go_wp2_with fail
      refine Calls.mono HC.out ?_
      rintro e W1 ⟨rfl, hb1⟩
      go_wp2
      refine ⟨⟨1, rfl, by decide, ?_, hb.trans (hb1.mono hb.size)⟩, by simp [intOf]⟩
      rw [HX.out]
      exact congrArg Value.string (str_app X Y)
    · have hC := itoa_calls a1 h1 wr hT
      have HC : Hid (Calls Tryd.prog 54 #[.int .i64 a1] wr fun e w' => e = .returned (.string ⟨(Lib.itoa a1).toArray⟩) ∧ Below wr.heap.size wr w') := hC
      have HX : Hid (tx4 [a0, a1, a2, a3] 2 = (tx4 [a0, a1, a2, a3] 1 ++ [46]) ++ Lib.itoa a1) := rfl
      have hY := itoa_len h1
      clear hC hT
      generalize tx4 [a0, a1, a2, a3] 1 = X at *
      generalize Lib.itoa a1 = Y at *
      go_wp2_with fail
      refine Calls.mono HC.out ?_
      rintro e W1 ⟨rfl, hb1⟩
      go_wp2
      refine ⟨⟨2, rfl, by decide, ?_, hb.trans (hb1.mono hb.size)⟩, by simp [intOf]⟩
      rw [HX.out]
      exact congrArg Value.string ((congrArg (· ++ (⟨Y.toArray⟩ : ByteArray)) (str_app X [46])).trans (str_app (X ++ [46]) Y))
    · have hC := itoa_calls a2 h2 wr hT
      have HC : Hid (Calls Tryd.prog 54 #[.int .i64 a2] wr fun e w' => e = .returned (.string ⟨(Lib.itoa a2).toArray⟩) ∧ Below wr.heap.size wr w') := hC
      have HX : Hid (tx4 [a0, a1, a2, a3] 3 = (tx4 [a0, a1, a2, a3] 2 ++ [46]) ++ Lib.itoa a2) := rfl
      have hY := itoa_len h2
      clear hC hT
      generalize tx4 [a0, a1, a2, a3] 2 = X at *
      generalize Lib.itoa a2 = Y at *
      go_wp2_with fail
      refine Calls.mono HC.out ?_
      rintro e W1 ⟨rfl, hb1⟩
      go_wp2
      refine ⟨⟨3, rfl, by decide, ?_, hb.trans (hb1.mono hb.size)⟩, by simp [intOf]⟩
      rw [HX.out]
      exact congrArg Value.string ((congrArg (· ++ (⟨Y.toArray⟩ : ByteArray)) (str_app X [46])).trans (str_app (X ++ [46]) Y))
    · have hC := itoa_calls a3 h3 wr hT
      have HC : Hid (Calls Tryd.prog 54 #[.int .i64 a3] wr fun e w' => e = .returned (.string ⟨(Lib.itoa a3).toArray⟩) ∧ Below wr.heap.size wr w') := hC
      have HX : Hid (tx4 [a0, a1, a2, a3] 4 = (tx4 [a0, a1, a2, a3] 3 ++ [46]) ++ Lib.itoa a3) := rfl
      have hY := itoa_len h3
      clear hC hT
      generalize tx4 [a0, a1, a2, a3] 3 = X at *
      generalize Lib.itoa a3 = Y at *
      go_wp2_with fail
      refine Calls.mono HC.out ?_
      rintro e W1 ⟨rfl, hb1⟩
      go_wp2
      refine ⟨⟨4, rfl, by decide, ?_, hb.trans (hb1.mono hb.size)⟩, by simp [intOf]⟩
      rw [HX.out]
      exact congrArg Value.string ((congrArg (· ++ (⟨Y.toArray⟩ : ByteArray)) (str_app X [46])).trans (str_app (X ++ [46]) Y))
    · go_wp2
      go_ret
      exact ⟨rfl, hB1.trans (hb.mono hB1.size)⟩

end Go.Proofs.YtlpbffcijhgelaaDoor

namespace Go.Proofs.YtlpbffcijhgelaaDoor
set_option linter.unusedVariables false
set_option linter.unusedSimpArgs false
open Go Go.RowKit

abbrev zero5V : List Value := [.int .u8 0, .int .u8 0, .int .u8 0, .int .u8 0, .int .i64 0]
def cp4 (l : List Int) (n : Int) : List Value := b8 l ++ [Value.int .i64 n]
theorem cp4_length (l : List Int) (n : Int) (h : l.length = 4) : (cp4 l n).length = 5 := by simp [cp4, b8_length, h]
theorem cp4_one (l : List Int) (n : Int) : ∀ v ∈ cp4 l n, v.oneCell' = true := by
  intro v hv
  rcases List.mem_append.1 hv with hv | hv
  · exact b8_one l v hv
  · simp at hv; subst hv; rfl
abbrev A4L (l : List Int) : Value := .agg (b8 l).toArray
abbrev P4L (l : List Int) (n : Int) : Value := .agg (cp4 l n).toArray
theorem build4L (l : List Int) (n : Int) (hl : l.length = 4) (w : World) : (Instr.build 38 #[(0, A4L l), (1, .int .i64 n)]).run Tryd.prog w = .ok (P4L l n) w := by
  obtain ⟨a0, a1, a2, a3, rfl⟩ := list4 hl
  exact run_build w _ _ _ (by kernel_rfl)
def okP4L (l : List Int) (n : Int) : Bool := decide (0 ≤ n ∧ n ≤ 32) && decide (l = blR n l)
theorem RCheck4_L (l : List Int) (n : Int) (w : World) (hf : FitB l) (hl : l.length = 4) (hb : -9223372036854775808 ≤ n ∧ n ≤ 9223372036854775807) :
    Calls Tryd.prog 39 #[P4L l n] w fun e w' => e = .returned (.int .i64 (if okP4L l n then 0 else 22)) ∧ Below w.heap.size w w' := by
  obtain ⟨a0, a1, a2, a3, rfl⟩ := list4 hl
  have h := RCheck4_calls a0 a1 a2 a3 n w (hf a0 (by simp)) (hf a1 (by simp)) (hf a2 (by simp)) (hf a3 (by simp)) hb
  have e : okP4 a0 a1 a2 a3 n = okP4L [a0, a1, a2, a3] n := by unfold okP4 okP4L; rw [blR4]
  rw [e] at h
  exact h

def Par4R (r : List Int × Int × Int) (w : World) (e : Ending) (w' : World) : Prop := e = .returned (Par4 r) ∧ Below w.heap.size w w'
def Pre4Post (A : List Int) (n : Int) (w : World) (e : Ending) (w' : World) : Prop := e = .returned (.tuple #[P4L A n, .int .i64 0, .int .i64 0]) ∧ Below w.heap.size w w'

/-- What a good prefix's text is. -/
structure Good4 (s : ByteArray) (at_ : Nat) (A : List Int) (n : Int) : Prop where
  slash : slashN (txt s) s.size 0 = at_
  lt : at_ + 1 < s.size
  short : s.size ≤ 100
  parse : ∀ W, Calls Tryd.prog 14 #[.string (s.extract 0 at_)] W fun e w' => Par4R (A, 0, 0) W e w'
  len : lenN (txt (s.extract (at_ + 1) s.size)) 32 (s.extract (at_ + 1) s.size).size 0 = (s.extract (at_ + 1) s.size).size
  sz : (s.extract (at_ + 1) s.size).size ≤ 3
  digits : (txt (s.extract (at_ + 1) s.size)).all digB = true
  num : numF 0 (txt (s.extract (at_ + 1) s.size)) = n
  ok : okP4L A n = true
  a16 : A.length = 4
  fit : FitB A
  n64 : 0 ≤ n ∧ n ≤ 32

set_option maxHeartbeats 1000000 in
set_option maxRecDepth 100000 in
theorem Prefix4_good (s : ByteArray) (at_ : Nat) (A : List Int) (n : Int) (G : Good4 s at_ A n) (w : World) :
    Calls Tryd.prog 23 #[.string s] w fun e w' => Pre4Post A n w e w' := by
  obtain ⟨h1, h2, h3, h4, h5, h5b, h6, h7, h8, h9, h10, h11⟩ := G
  generalize hQ : (fun e w' => Pre4Post A n w e w') = Q
  have HQ : Hid _ := hQ
  clear hQ
  have hsl := fun W => slash_ref s W (by omega)
  rw [h1] at hsl
  have hes : (s.extract (at_ + 1) s.size).size = s.size - (at_ + 1) := by rw [ByteArray.size_extract]; omega
  have hlen := fun W => length_ref (s.extract (at_ + 1) s.size) 32 W (by omega) (by decide)
  rw [h5] at hlen
  have hnum := fun W => number_ref (s.extract (at_ + 1) s.size) W h6 (by omega)
  rw [h7] at hnum
  have hck := fun W => RCheck4_L A n W h10 h9 (by omega)
  rw [h8] at hck
  simp only [if_true] at hck
  have HSL : Hid _ := hsl
  have HLEN : Hid _ := hlen
  have HNUM : Hid (∀ W, Calls Tryd.prog 53 #[.string (s.extract (at_ + 1) s.size)] W fun e w' => ∃ u, e = .returned u ∧ (u = .int .i64 n ∧ w' = W)) := fun W => (hnum W).mono fun e w' h => ⟨_, h.1, rfl, h.2⟩
  have HCK : Hid _ := hck
  have HPA : Hid _ := h4
  clear hsl hlen hnum hck h4 h1 h5 h6 h7 h8
  have hb0 := blk_new w (.cells zero5V.toArray 38)
  have hB0 := (Below.refl w.heap.size w).alloc (Nat.le_refl _) (.cells zero5V.toArray 38)
  have hz0 : (w.alloc (.cells zero5V.toArray 38)).heap.size = w.heap.size + 1 := by simp
  have HZ0 : Hid _ := hz0
  clear hz0
  generalize hr : s.extract (at_ + 1) s.size = r at *
  have HRR : Hid _ := hr
  have q1 : ((at_ : Int) == (s.size : Int)) = false := by simp; omega
  have q2 : (at_ : Int) ≤ (s.size : Int) := by omega
  have q3 : (at_ : Int) + 1 ≤ (s.size : Int) := by omega
  have q4 : ((r.size : Int) == 0) = false := by rw [beq_eq_false_iff_ne]; intro h; omega
  have hrs : r.size ≤ 100 := by omega
  clear hr hes
  go_enter Tryd.func23, Tryd.ntmps23
  go_wp2_with fail
  generalize hW : w.alloc (.cells zero5V.toArray 38) = W0 at *
  clear hW
  refine (HSL.out W0).mono ?_
  rintro e w1 ⟨rfl, rfl⟩
  go_wp2_with fail
  refine (HPA.out _).mono ?_
  rintro e w2 ⟨rfl, hB2⟩
  have hz0 := HZ0.out
  have hb2 := (hB2.block _ (by omega)).trans hb0
  have hBw2 := hB0.trans (hB2.mono (by omega))
  obtain ⟨w3, hst, bx3, hB3⟩ := box_new Tryd.sizeOf23 w2 zero4L rfl (b8 A) (by rw [b8_length, h9]) (b8_one _)
  have hlt2 : w.heap.size < w2.heap.size := Nat.lt_of_lt_of_le (by omega) hB2.size
  have hb3 := (hB3.block _ hlt2).trans hb2
  have hBw3 := hBw2.trans (hB3.mono hBw2.size)
  have HST : Hid _ := hst
  clear hst hz0 HZ0 hb0 hB0 hb2 hBw2 HPA HSL
  unfold Par4
  dsimp only
  go_wp2_with ((with_reducible show wpList _ _ _ _ _ _); refine armS (.tmp 6) (.tmp 18) 23 rfl rfl rfl rfl HST.out ?_)
  rw [HRR.out]
  refine (HLEN.out _).mono ?_
  rintro e w4 ⟨rfl, rfl⟩
  go_wp2_with fail
  obtain ⟨w5, hst5, bx5, hB5⟩ := box_new Tryd.sizeOf38 w4.drew zero5V rfl (cp4 A n) (cp4_length A n h9) (cp4_one A n)
  have HS5 : Hid _ := hst5
  have hb5 := (hB5.block w.heap.size (Nat.lt_of_lt_of_le hlt2 hB3.size)).trans hb3
  have hBw5 : Below w.heap.size w w5 := hBw3.drew.trans (hB5.mono hBw3.size)
  have HLP : Hid _ := agg_load (t := 38) Tryd.isAgg38 Tryd.sizeOf38 (vs := cp4 A n) (cp4_length A n h9) (CellsAt.of_blk bx5)
  have hb6 : w5.heap[w2.heap.size]? = some (.cells (b8 A).toArray 23) := (hB5.block w2.heap.size (Array.getElem?_eq_some_iff.1 bx3).1).trans bx3
  clear hst5
  refine wp_region_held (S := fun W => W.heap[w2.heap.size]? = some (.cells (b8 A).toArray 23)) (by kernel_rfl) ?_
  show wpAnyH _ _ _ _ _ 6 (Array.replicate 6 false) _ _
  refine take_one (i := 0) (d := some 50) (v := (A4L A)) rfl rfl rfl (by kernel_rfl) (by kernel_rfl) (by kernel_rfl) (fun _ _ d _ _ h => by cases d <;> exact h) (fun W hS => ex_loadA (.tmp 6) 23 rfl rfl (agg_load Tryd.isAgg23 Tryd.sizeOf23 (by rw [b8_length, h9]) (CellsAt.of_blk hS))) bx3 ?_
  simp only [Act.put, List.setIfInBounds_toArray, List.set_cons_zero, List.set_cons_succ]
  refine take_one (i := 1) (d := some 51) (v := (.string r)) rfl rfl rfl (by kernel_rfl) (by kernel_rfl) (by kernel_rfl) (fun _ _ d _ _ h => by cases d <;> exact h) (fun W hS => ex_moveA (.tmp 9) rfl rfl) bx3 ?_
  simp only [Act.put, List.setIfInBounds_toArray, List.set_cons_zero, List.set_cons_succ]
  have bx3a : (w4.drew.alloc (.cells zero5V.toArray 38)).heap[w2.heap.size]? = some (.cells (b8 A).toArray 23) := blk_alloc (w := w4.drew) bx3 _
  refine all_two (i1 := 2) (i2 := 4) (by kernel_rfl) rfl rfl rfl rfl ?_ ?_
  · refine wp_call (d := some 52) 53 _ rfl (by kernel_rfl) (HNUM.out _) ?_
    rintro _ _ ⟨rfl, rfl⟩
    refine ⟨bx3, ?_⟩
    simp only [Act.put, List.setIfInBounds_toArray, List.set_cons_zero, List.set_cons_succ]
    refine take_one (i := 3) (d := some 53) (v := (P4L A n)) rfl rfl rfl (by kernel_rfl) (by kernel_rfl) (by kernel_rfl) (fun _ _ d _ _ h => by cases d <;> exact h) (fun W hS => ex_buildA 38 [(0, .tmp 50), (1, .tmp 52)] rfl rfl (build4L A n h9 _)) bx3 ?_
    simp only [Act.put, List.setIfInBounds_toArray, List.set_cons_zero, List.set_cons_succ]
    refine all_one (i := 4) (by kernel_rfl) rfl rfl ?_
    refine wp_allocA (d := some 10) 38 rfl rfl (v := .pointer (some ⟨w4.drew.heap.size, 0, none⟩)) (w2 := w4.drew.alloc (.cells zero5V.toArray 38)) (by simp [execOp, go_sem]) ?_
    refine ⟨bx3a, ?_⟩
    simp only [Act.put, List.setIfInBounds_toArray, List.set_cons_zero, List.set_cons_succ]
    refine all_one (i := 5) (by kernel_rfl) rfl rfl ?_
    refine wp_storeA (.tmp 10) (.tmp 53) 38 rfl rfl rfl rfl HS5.out ?_
    refine ⟨hb6, ?_⟩
    refine wpAnyH_done (by kernel_rfl) ?_ _
    go_wp2_with ((with_reducible show wpList _ _ _ _ _ _); refine armL (.tmp 10) 38 rfl rfl rfl HLP.out ?_)
    refine (HCK.out w5).mono ?_
    rintro e w6 ⟨rfl, hB6⟩
    have hlt5 : w.heap.size < w5.heap.size := (Array.getElem?_eq_some_iff.1 hb5).1
    have hb6R := (hB6.block _ hlt5).trans hb5
    have hBw6 := hBw5.trans (hB6.mono hBw5.size)
    have bx6 := (hB6.block _ (Array.getElem?_eq_some_iff.1 bx5).1).trans bx5
    have HL2 : Hid _ := agg_load (t := 38) Tryd.isAgg38 Tryd.sizeOf38 (vs := cp4 A n) (cp4_length A n h9) (CellsAt.of_blk bx6)
    obtain ⟨wE, hst, bE, honE⟩ := box_store Tryd.sizeOf38 hb6R rfl (cp4 A n) (cp4_length A n h9) (cp4_one A n)
    have HLV : Hid _ := agg_loadVar (t := 38) Tryd.isAgg38 Tryd.sizeOf38 (vs := cp4 A n) (cp4_length A n h9) (CellsAt.of_blk bE)
    have HBE : Hid (Below w.heap.size w wE) := hBw6.trans (honE.below (Nat.le_refl _))
    have HSQ : Hid _ := hst
    clear hst bE honE hb6R hBw6 bx6 hB6 HCK
    go_wp2_with first
      | ((with_reducible show wpList _ _ _ _ _ _); refine armL (.tmp 10) 38 rfl rfl rfl HL2.out ?_)
      | ((with_reducible show wpList _ _ _ _ _ _); refine armS (.tmp 2) (.tmp 59) 38 rfl rfl rfl rfl HSQ.out ?_)
    refine bodyPost_ret (res3c Tryd.results23 rfl HLV.out) rfl ?_
    rw [← HQ.out]
    exact ⟨rfl, HBE.out⟩
  · refine wp_allocA (d := some 10) 38 rfl rfl (v := .pointer (some ⟨w4.drew.heap.size, 0, none⟩)) (w2 := w4.drew.alloc (.cells zero5V.toArray 38)) (by simp [execOp, go_sem]) ?_
    refine ⟨bx3a, ?_⟩
    simp only [Act.put, List.setIfInBounds_toArray, List.set_cons_zero, List.set_cons_succ]
    refine all_one (i := 2) (by kernel_rfl) rfl rfl ?_
    refine wp_call (d := some 52) 53 _ rfl (by kernel_rfl) (HNUM.out _) ?_
    rintro _ _ ⟨rfl, rfl⟩
    refine ⟨bx3a, ?_⟩
    simp only [Act.put, List.setIfInBounds_toArray, List.set_cons_zero, List.set_cons_succ]
    refine take_one (i := 3) (d := some 53) (v := (P4L A n)) rfl rfl rfl (by kernel_rfl) (by kernel_rfl) (by kernel_rfl) (fun _ _ d _ _ h => by cases d <;> exact h) (fun W hS => ex_buildA 38 [(0, .tmp 50), (1, .tmp 52)] rfl rfl (build4L A n h9 _)) bx3a ?_
    simp only [Act.put, List.setIfInBounds_toArray, List.set_cons_zero, List.set_cons_succ]
    refine all_one (i := 5) (by kernel_rfl) rfl rfl ?_
    refine wp_storeA (.tmp 10) (.tmp 53) 38 rfl rfl rfl rfl HS5.out ?_
    refine ⟨hb6, ?_⟩
    refine wpAnyH_done (by kernel_rfl) ?_ _
    go_wp2_with ((with_reducible show wpList _ _ _ _ _ _); refine armL (.tmp 10) 38 rfl rfl rfl HLP.out ?_)
    refine (HCK.out w5).mono ?_
    rintro e w6 ⟨rfl, hB6⟩
    have hlt5 : w.heap.size < w5.heap.size := (Array.getElem?_eq_some_iff.1 hb5).1
    have hb6R := (hB6.block _ hlt5).trans hb5
    have hBw6 := hBw5.trans (hB6.mono hBw5.size)
    have bx6 := (hB6.block _ (Array.getElem?_eq_some_iff.1 bx5).1).trans bx5
    have HL2 : Hid _ := agg_load (t := 38) Tryd.isAgg38 Tryd.sizeOf38 (vs := cp4 A n) (cp4_length A n h9) (CellsAt.of_blk bx6)
    obtain ⟨wE, hst, bE, honE⟩ := box_store Tryd.sizeOf38 hb6R rfl (cp4 A n) (cp4_length A n h9) (cp4_one A n)
    have HLV : Hid _ := agg_loadVar (t := 38) Tryd.isAgg38 Tryd.sizeOf38 (vs := cp4 A n) (cp4_length A n h9) (CellsAt.of_blk bE)
    have HBE : Hid (Below w.heap.size w wE) := hBw6.trans (honE.below (Nat.le_refl _))
    have HSQ : Hid _ := hst
    clear hst bE honE hb6R hBw6 bx6 hB6 HCK
    go_wp2_with first
      | ((with_reducible show wpList _ _ _ _ _ _); refine armL (.tmp 10) 38 rfl rfl rfl HL2.out ?_)
      | ((with_reducible show wpList _ _ _ _ _ _); refine armS (.tmp 2) (.tmp 59) 38 rfl rfl rfl rfl HSQ.out ?_)
    refine bodyPost_ret (res3c Tryd.results23 rfl HLV.out) rfl ?_
    rw [← HQ.out]
    exact ⟨rfl, HBE.out⟩

end Go.Proofs.YtlpbffcijhgelaaDoor

namespace Go.Proofs.YtlpbffcijhgelaaDoor
open Go Go.RowKit
set_option linter.unusedVariables false
set_option linter.unusedSimpArgs false

theorem ex_loadG {o : Oper} {a : Act} {W : World} (k : Nat) {p : Addr} {x : Int} (hop : o.op = Op.load 3 (.tmp k)) (hk : a.eval (.tmp k) = .pointer (some p)) (hc : W.cell? p = some (.int .i64 x)) :
    (execOp a.eval o).run Tryd.prog W = .ok (.value (.int .i64 x)) W := by
  generalize a.eval = ev at *
  simp [execOp, hop, hk, go_sem, hc]
theorem region_midG {P : Program} {id : Nat} {ops : Array Oper} {Q : Exit → Act → World → Prop} {a : Act} {w : World} (M : Act → Act → World → Prop) (h : (Code.region id ops true).wp P (fun e a' w' => match e with | .normal => M a a' w' | _ => False) a w) (hM : ∀ a' w', M a a' w' → Q .normal a' w') : (Code.region id ops true).wp P Q a w :=
  wp_mono h (fun e a' w' hm => by cases e <;> first | exact hM a' w' hm | exact hm.elim)
theorem callG {P : Program} {f : FuncId} {vs : Array Value} {w : World} {v : Value} {B : World → Prop} (h : Calls P f vs w fun e w' => e = .returned v ∧ B w') : Calls P f vs w fun e w' => ∃ v', e = .returned v' ∧ (v' = v ∧ B w') :=
  h.mono fun e w' k => ⟨v, k.1, rfl, k.2⟩

end Go.Proofs.YtlpbffcijhgelaaDoor
