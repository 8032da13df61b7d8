/-
  What catches a fault: the deferred closures of Parse and Part.
-/
import Derived.Test.YtmoogfdmlbalbaaIr3
import Derived.Recover
import Derived.WalkLawsBesides
namespace Go.Proofs.Ytmoogfdmlbalbaa
open Go Go.RowKit
set_option linter.unusedVariables false
set_option linter.unusedSimpArgs false

/-- A region that begins with a recover, and holds no other. -/
theorem wpS_region_rec {P : Program} {Q : Exit → Act → List Frame → World → Prop} {a : Act} {cs cs' : List Frame} {w : World} {id : Nat} {o : Oper} {l : List Oper} {v : Value}
    (hw : Region.wanted o (yielded (o :: l).toArray a.tmps) = true) (hop : (execOp a.eval o).run P w = .ok .recover w) (hrec : (recoverD cs).getD (.nilIface, cs) = (v, cs'))
    (h : wpList P (o :: l).toArray (fun e a' w' => Q e a' cs' w') l (a.put o.dst v) w) : (Code.region id (o :: l).toArray false).wpS P Q a cs w := by
  intro b k hb hr
  have ho : ((o :: l).toArray)[0]? = some o := by simp
  have hg := stepG_op (P := P) (b := b) (a := a) (k := k) (cs := cs) (w := w) (rest := List.range' 1 l.length) ho hw
  have hfin : ∀ v, (b.at a (.inRegion (o :: l).toArray (0 :: List.range' 1 l.length) :: k)).finish v = b.at (a.put o.dst v) (.inRegion (o :: l).toArray (List.range' 1 l.length) :: k) := by
    intro v; rw [Frame.finish_at, ho]; rfl
  have hk : (b.at a (.inRegion (o :: l).toArray (0 :: List.range' 1 l.length) :: k)).kind = .deferred := hb
  have htr := tryRecover_deferred hk cs
  rw [← wpOps_eq_wpList l 1 (fun j => by rw [Nat.add_comm]; simp)] at h
  obtain ⟨e, a', w', hq, harr⟩ := wp_ops _ _ _ h b k cs'
  refine ⟨e, a', cs', w', hq, .of_steps (.head (step_region) (.one (step_lone_go ?_))) harr⟩
  have hrg : List.range (o :: l).toArray.size = 0 :: List.range' 1 l.length := by
    rw [List.range_eq_range']
    simp [List.range'_succ]
  rw [hrg, hg, ← hfin]
  simp only [Frame.at] at htr ⊢
  cases hc : recoverD cs with
  | none =>
    rw [hc] at hrec htr
    simp only [Option.getD_none, Prod.mk.injEq] at hrec
    obtain ⟨rfl, rfl⟩ := hrec
    simp [stepG.apply, hop, htr]
  | some p =>
    rw [hc] at hrec htr
    simp only [Option.getD_some] at hrec
    subst hrec
    simp [stepG.apply, hop, htr]

theorem ta_yes (v : Value) (w : World) : (Instr.typeAssert (.iface 59 v) 20 59 true).run Try.prog w = .ok (.tuple #[v, .bool true]) w := by
  simp [Instr.typeAssert, Try.underlying59, go_sem]
theorem ta_no (w : World) : (Instr.typeAssert .nilIface 20 59 true).run Try.prog w = .ok (.tuple #[.agg #[.int .i64 0, .int .i64 0], .bool false]) w := by
  simp [Instr.typeAssert, Try.underlying59, go_sem]

def setsL (c : List Value) (o : Nat) : List Value → List Value
  | [] => c
  | v :: r => setsL (c.set o v) (o + 1) r
theorem blk_sets {b : Nat} {t : TypeId} : ∀ (vs : List Value) (o : Nat) (c : List Value) (w : World), w.heap[b]? = some (.cells c.toArray t) → (w.setCells b o vs).heap[b]? = some (.cells (setsL c o vs).toArray t)
  | [], _, _, _, h => h
  | v :: r, o, c, w, h => by
    unfold World.setCells setsL
    exact blk_sets r (o + 1) _ _ (blk_set h o v)
theorem setsL_eq : ∀ (vs : List Value) (o : Nat) (c : List Value), o + vs.length ≤ c.length → setsL c o vs = c.take o ++ vs ++ c.drop (o + vs.length)
  | [], o, c, h => by simp [setsL]
  | v :: r, o, c, h => by
    simp only [List.length_cons] at h
    unfold setsL
    rw [setsL_eq r (o + 1) (c.set o v) (by simp; omega), List.take_succ_eq_append_getElem (by simp; omega)]
    have e1 : (c.set o v).take o = c.take o := by
      rw [List.take_set]
      exact List.set_eq_of_length_le (by simp; omega)
    rw [e1]
    simp only [List.getElem_set_self, List.length_cons]
    rw [List.drop_set, if_pos (by omega), show o + 1 + r.length = o + (r.length + 1) by omega]
    simp
theorem setsL_all (c vs : List Value) (h : vs.length = c.length) : setsL c 0 vs = vs := by
  rw [setsL_eq vs 0 c (by omega)]
  simp [h]
theorem tmps16 (a b c : Value) : (#[a, b, c] ++ Array.replicate (16 - #[a, b, c].size) undef : Array Value) = #[a, b, c, undef, undef, undef, undef, undef, undef, undef, undef, undef, undef, undef, undef, undef] := rfl
/-- The three results' boxes. -/
structure BoxW (w0 W : World) (Q : Nat) (c : List Value) (x y : Int) : Prop where
  vb : W.heap[Q]? = some (.cells c.toArray 27)
  len : c.length = 17
  xb : W.heap[Q + 1]? = some (.cells [.int .i64 x].toArray 3)
  yb : W.heap[Q + 2]? = some (.cells [.int .i64 y].toArray 28)
  bel : Below w0.heap.size w0 W
  up : w0.heap.size ≤ Q

section
variable {w0 W W' : World} {Q : Nat} {c : List Value} {x y : Int}
theorem BoxW.on (h : BoxW w0 W Q c x y) (hb : Below W.heap.size W W') : BoxW w0 W' Q c x y :=
  ⟨blk_on h.vb hb, h.len, blk_on h.xb hb, blk_on h.yb hb, h.bel.trans (hb.mono h.bel.size), h.up⟩
theorem BoxW.drew (h : BoxW w0 W Q c x y) : BoxW w0 W.drew Q c x y := ⟨h.vb, h.len, h.xb, h.yb, h.bel.drew, h.up⟩
theorem BoxW.sets (h : BoxW w0 W Q c x y) (V : List Value) (hV : V.length = 17) (h1 : ∀ v ∈ V, v.oneCell' = true) :
    ∃ w2, (Instr.storeAt 27 (.pointer (some ⟨Q, 0, none⟩)) (.agg V.toArray)).run Try.prog W = .ok () w2 ∧ BoxW w0 w2 Q V x y ∧ Only Q W w2 := by
  have hO : Only Q W (W.setCells Q 0 V) := Only.sets _ _ _ (Only.refl _ _)
  refine ⟨_, agg_store Try.sizeOf27 hV h1 (fun j hj => ?_) (blk_open h.vb), ⟨?_, hV, (hO.other _ (by omega)).trans h.xb, (hO.other _ (by omega)).trans h.yb, h.bel.trans (hO.below h.up), h.up⟩, hO⟩
  · have : j < c.length := by have := h.len; omega
    simp [World.cell?, h.vb, this]
  · have hc := h.len
    have := blk_sets V 0 c W h.vb
    rwa [setsL_all c V (by omega)] at this
theorem BoxW.cleared (h : BoxW w0 W Q zeroC x y) : BoxW w0 (W.setCells Q 0 zeroC) Q zeroC x y := by
  have hO : Only Q W (W.setCells Q 0 zeroC) := Only.sets _ _ _ (Only.refl _ _)
  refine ⟨?_, rfl, (hO.other _ (by omega)).trans h.xb, (hO.other _ (by omega)).trans h.yb, h.bel.trans (hO.below h.up), h.up⟩
  have := blk_sets zeroC 0 zeroC W h.vb
  rwa [setsL_all zeroC zeroC rfl] at this
theorem sets17 (W : World) (Q : Nat) : W.setCells Q 0 zeroC = (((((((((((((((((W.setCell ⟨Q, 0, none⟩ (.int .u8 0)).setCell ⟨Q, 1, none⟩ (.int .u16 0)).setCell ⟨Q, 2, none⟩ (.bool false)).setCell ⟨Q, 3, none⟩ (.bool false)).setCell ⟨Q, 4, none⟩ (.int .i64 0)).setCell ⟨Q, 5, none⟩ (.int .u8 0)).setCell ⟨Q, 6, none⟩ (.int .u8 0)).setCell ⟨Q, 7, none⟩ (.int .u8 0)).setCell ⟨Q, 8, none⟩ (.int .u8 0)).setCell ⟨Q, 9, none⟩ (.int .u8 0)).setCell ⟨Q, 10, none⟩ (.int .u8 0)).setCell ⟨Q, 11, none⟩ (.int .u8 0)).setCell ⟨Q, 12, none⟩ (.int .u8 0)).setCell ⟨Q, 13, none⟩ (.int .u8 0)).setCell ⟨Q, 14, none⟩ (.int .u8 0)).setCell ⟨Q, 15, none⟩ (.slice none 0 0)).setCell ⟨Q, 16, none⟩ (.slice none 0 0)) := by
  simp only [zeroC, World.setCells, Nat.reduceAdd]
theorem BoxW.setX (h : BoxW w0 W Q c x y) (z : Int) : BoxW w0 (W.setCell ⟨Q + 1, 0, none⟩ (.int .i64 z)) Q c z y :=
  ⟨blk_set_other h.vb (by omega) _ _, h.len, by rw [blk_set h.xb]; rfl, blk_set_other h.yb (by omega) _ _, h.bel.setCell (by have := h.up; simp; omega) _, h.up⟩
theorem BoxW.setY (h : BoxW w0 W Q c x y) (z : Int) : BoxW w0 (W.setCell ⟨Q + 2, 0, none⟩ (.int .i64 z)) Q c x z :=
  ⟨blk_set_other h.vb (by omega) _ _, h.len, blk_set_other h.xb (by omega) _ _, by rw [blk_set h.yb]; rfl, h.bel.setCell (by have := h.up; simp; omega) _, h.up⟩
end
theorem step_storeR {P : Program} {ops : Array Oper} {o : Oper} {a : Act} {w w2 : World} {K : Act → World → Prop} {Q : Exit → Act → World → Prop} {E : Prop} (hg : o.guard = none) (p x : Operand) (t : TypeId)
    (hop : o.op = Op.store t p x) {vp vx : Value} (hp : a.eval p = vp) (hx : a.eval x = vx) (hrun : (Instr.storeAt t vp vx).run P w = .ok () w2) (hK : K (a.put o.dst (.tuple #[])) w2) :
    if Region.wanted o (yielded ops a.tmps) = true then Oper.wp P o a w K Q else E := by
  have hw : Region.wanted o (yielded ops a.tmps) = true := by simp [Region.wanted, hg]
  rw [if_pos hw]
  unfold Oper.wp
  simp [execOp, hop, hp, hx, hrun, Result.andThen]
  exact hK

set_option maxHeartbeats 2000000 in
set_option maxRecDepth 100000 in
theorem catch_idle (p q r : Addr) (w : World) :
    CallsD Try.prog 36 #[.pointer (some p), .pointer (some q), .pointer (some r)] .returning w fun e u' w' => e = .returned (.tuple #[]) ∧ u' = .returning ∧ Below w.heap.size w w' := by
  have hB := ((Below.refl w.heap.size w).alloc (Nat.le_refl _) (.cells #[.int .i64 0, .int .i64 0] 59))
  have ht := ta_no w
  refine callsD_of_wpS Try.func36 rfl fun c₀ cs hu => ?_
  apply wpS_seq
  refine wpS_region_rec (v := .nilIface) (cs' := c₀ :: cs) rfl rfl (by simp [recoverD, hu]) ?_
  simp only [Try.ntmps36, tmps16, Act.put, List.setIfInBounds_toArray, List.set_cons_zero, List.set_cons_succ]
  go_wp2
  refine wpS_of_wp ?_
  go_wp2
  cases c₀
  simp_all [bodyPostS, results, Try.results36]

set_option maxHeartbeats 2000000 in
set_option maxRecDepth 100000 in
theorem catch_fault (w0 : World) (Q : Nat) (x y at' e : Int) (w : World) (h : BoxW w0 w Q zeroC x y) :
    CallsD Try.prog 36 #[.pointer (some ⟨Q, 0, none⟩), .pointer (some ⟨Q + 1, 0, none⟩), .pointer (some ⟨Q + 2, 0, none⟩)] (.panicking [{ v := .iface 59 (.agg #[.int .i64 at', .int .i64 e]), recovered := false }]) w fun e' u' w' => e' = .returned (.tuple #[]) ∧ u' = .panicking [{ v := .iface 59 (.agg #[.int .i64 at', .int .i64 e]), recovered := true }] ∧ BoxW w0 w' Q zeroC at' e := by
  have ht := ta_yes (.agg #[.int .i64 at', .int .i64 e]) w
  refine callsD_of_wpS Try.func36 rfl fun c₀ cs hu => ?_
  apply wpS_seq
  refine wpS_region_rec (v := .iface 59 (.agg #[.int .i64 at', .int .i64 e])) (cs' := { c₀ with mode := .panicking [{ v := .iface 59 (.agg #[.int .i64 at', .int .i64 e]), recovered := true }] } :: cs) rfl rfl (by simp [recoverD, hu]) ?_
  simp only [Try.ntmps36, tmps16, Act.put, List.setIfInBounds_toArray, List.set_cons_zero, List.set_cons_succ]
  go_wp2
  refine wpS_of_wp ?_
  go_wp2
  have h1 := h.on ((Below.refl w.heap.size w).alloc (Nat.le_refl _) (.cells #[.int .i64 at', .int .i64 e] 59))
  have fb := blk_new w (.cells [.int .i64 at', .int .i64 e].toArray 59)
  have hne : Q + 2 < w.heap.size := (Array.getElem?_eq_some_iff.1 h.yb).1
  clear ht h
  generalize w.alloc (.cells #[.int .i64 at', .int .i64 e] 59) = W1 at *
  generalize w.heap.size = F at *
  have k0 := blk_cell fb (j := 0) rfl
  have k1 := blk_cell fb (j := 1) rfl
  have hq1 : ¬ F = Q + 1 := by omega
  have hq2 : ¬ F = Q + 2 := by omega
  have hE := ((h1.cleared.setX at').setY e).drew
  rw [sets17] at hE
  have HE : Hid _ := hE
  clear hE
  have hq0 : ¬ F = Q := by omega
  have q0 : W1.cell? ⟨Q, 0, none⟩ = some (.int .u8 0) := blk_cell h1.vb rfl
  have q1 : W1.cell? ⟨Q, 1, none⟩ = some (.int .u16 0) := blk_cell h1.vb rfl
  have q2 : W1.cell? ⟨Q, 2, none⟩ = some (.bool false) := blk_cell h1.vb rfl
  have q3 : W1.cell? ⟨Q, 3, none⟩ = some (.bool false) := blk_cell h1.vb rfl
  have q4 : W1.cell? ⟨Q, 4, none⟩ = some (.int .i64 0) := blk_cell h1.vb rfl
  have q5 : W1.cell? ⟨Q, 5, none⟩ = some (.int .u8 0) := blk_cell h1.vb rfl
  have q6 : W1.cell? ⟨Q, 6, none⟩ = some (.int .u8 0) := blk_cell h1.vb rfl
  have q7 : W1.cell? ⟨Q, 7, none⟩ = some (.int .u8 0) := blk_cell h1.vb rfl
  have q8 : W1.cell? ⟨Q, 8, none⟩ = some (.int .u8 0) := blk_cell h1.vb rfl
  have q9 : W1.cell? ⟨Q, 9, none⟩ = some (.int .u8 0) := blk_cell h1.vb rfl
  have q10 : W1.cell? ⟨Q, 10, none⟩ = some (.int .u8 0) := blk_cell h1.vb rfl
  have q11 : W1.cell? ⟨Q, 11, none⟩ = some (.int .u8 0) := blk_cell h1.vb rfl
  have q12 : W1.cell? ⟨Q, 12, none⟩ = some (.int .u8 0) := blk_cell h1.vb rfl
  have q13 : W1.cell? ⟨Q, 13, none⟩ = some (.int .u8 0) := blk_cell h1.vb rfl
  have q14 : W1.cell? ⟨Q, 14, none⟩ = some (.int .u8 0) := blk_cell h1.vb rfl
  have q15 : W1.cell? ⟨Q, 15, none⟩ = some (.slice none 0 0) := blk_cell h1.vb rfl
  have q16 : W1.cell? ⟨Q, 16, none⟩ = some (.slice none 0 0) := blk_cell h1.vb rfl
  have r0 : W1.frozen? ⟨Q, 0, none⟩ = false := blk_open h1.vb 0
  have r1 : W1.frozen? ⟨Q, 1, none⟩ = false := blk_open h1.vb 1
  have r2 : W1.frozen? ⟨Q, 2, none⟩ = false := blk_open h1.vb 2
  have r3 : W1.frozen? ⟨Q, 3, none⟩ = false := blk_open h1.vb 3
  have r4 : W1.frozen? ⟨Q, 4, none⟩ = false := blk_open h1.vb 4
  have r5 : W1.frozen? ⟨Q, 5, none⟩ = false := blk_open h1.vb 5
  have r6 : W1.frozen? ⟨Q, 6, none⟩ = false := blk_open h1.vb 6
  have r7 : W1.frozen? ⟨Q, 7, none⟩ = false := blk_open h1.vb 7
  have r8 : W1.frozen? ⟨Q, 8, none⟩ = false := blk_open h1.vb 8
  have r9 : W1.frozen? ⟨Q, 9, none⟩ = false := blk_open h1.vb 9
  have r10 : W1.frozen? ⟨Q, 10, none⟩ = false := blk_open h1.vb 10
  have r11 : W1.frozen? ⟨Q, 11, none⟩ = false := blk_open h1.vb 11
  have r12 : W1.frozen? ⟨Q, 12, none⟩ = false := blk_open h1.vb 12
  have r13 : W1.frozen? ⟨Q, 13, none⟩ = false := blk_open h1.vb 13
  have r14 : W1.frozen? ⟨Q, 14, none⟩ = false := blk_open h1.vb 14
  have r15 : W1.frozen? ⟨Q, 15, none⟩ = false := blk_open h1.vb 15
  have r16 : W1.frozen? ⟨Q, 16, none⟩ = false := blk_open h1.vb 16
  have m1 := blk_cell h1.xb (j := 0) rfl
  have n1 := blk_open h1.xb 0
  have m2 := blk_cell h1.yb (j := 0) rfl
  have n2 := blk_open h1.yb 0
  clear h1 hne fb
  go_region
  all_goals exact ⟨rfl, _, rfl, _, results_none rfl _ _ _, rfl, rfl, HE.out⟩

set_option maxHeartbeats 2000000 in
set_option maxRecDepth 100000 in
theorem catch_idleP (p q r : Addr) (w : World) :
    CallsD Try.prog 42 #[.pointer (some p), .pointer (some q), .pointer (some r)] .returning w fun e u' w' => e = .returned (.tuple #[]) ∧ u' = .returning ∧ Below w.heap.size w w' := by
  have hB := ((Below.refl w.heap.size w).alloc (Nat.le_refl _) (.cells #[.int .i64 0, .int .i64 0] 59))
  have ht := ta_no w
  refine callsD_of_wpS Try.func42 rfl fun c₀ cs hu => ?_
  apply wpS_seq
  refine wpS_region_rec (v := .nilIface) (cs' := c₀ :: cs) rfl rfl (by simp [recoverD, hu]) ?_
  simp only [Try.ntmps42, tmps16, Act.put, List.setIfInBounds_toArray, List.set_cons_zero, List.set_cons_succ]
  go_wp2
  refine wpS_of_wp ?_
  go_wp2
  cases c₀
  simp_all [bodyPostS, results, Try.results42]

set_option maxHeartbeats 2000000 in
set_option maxRecDepth 100000 in
theorem catch_faultP (w0 : World) (Q : Nat) (x y at' e : Int) (w : World) (h : BoxW w0 w Q zeroC x y) :
    CallsD Try.prog 42 #[.pointer (some ⟨Q, 0, none⟩), .pointer (some ⟨Q + 1, 0, none⟩), .pointer (some ⟨Q + 2, 0, none⟩)] (.panicking [{ v := .iface 59 (.agg #[.int .i64 at', .int .i64 e]), recovered := false }]) w fun e' u' w' => e' = .returned (.tuple #[]) ∧ u' = .panicking [{ v := .iface 59 (.agg #[.int .i64 at', .int .i64 e]), recovered := true }] ∧ BoxW w0 w' Q zeroC at' e := by
  have ht := ta_yes (.agg #[.int .i64 at', .int .i64 e]) w
  refine callsD_of_wpS Try.func42 rfl fun c₀ cs hu => ?_
  apply wpS_seq
  refine wpS_region_rec (v := .iface 59 (.agg #[.int .i64 at', .int .i64 e])) (cs' := { c₀ with mode := .panicking [{ v := .iface 59 (.agg #[.int .i64 at', .int .i64 e]), recovered := true }] } :: cs) rfl rfl (by simp [recoverD, hu]) ?_
  simp only [Try.ntmps42, tmps16, Act.put, List.setIfInBounds_toArray, List.set_cons_zero, List.set_cons_succ]
  go_wp2
  refine wpS_of_wp ?_
  go_wp2
  have h1 := h.on ((Below.refl w.heap.size w).alloc (Nat.le_refl _) (.cells #[.int .i64 at', .int .i64 e] 59))
  have fb := blk_new w (.cells [.int .i64 at', .int .i64 e].toArray 59)
  have hne : Q + 2 < w.heap.size := (Array.getElem?_eq_some_iff.1 h.yb).1
  clear ht h
  generalize w.alloc (.cells #[.int .i64 at', .int .i64 e] 59) = W1 at *
  generalize w.heap.size = F at *
  have k0 := blk_cell fb (j := 0) rfl
  have k1 := blk_cell fb (j := 1) rfl
  have hq1 : ¬ F = Q + 1 := by omega
  have hq2 : ¬ F = Q + 2 := by omega
  have hE := ((h1.cleared.setX at').setY e).drew
  rw [sets17] at hE
  have HE : Hid _ := hE
  clear hE
  have hq0 : ¬ F = Q := by omega
  have q0 : W1.cell? ⟨Q, 0, none⟩ = some (.int .u8 0) := blk_cell h1.vb rfl
  have q1 : W1.cell? ⟨Q, 1, none⟩ = some (.int .u16 0) := blk_cell h1.vb rfl
  have q2 : W1.cell? ⟨Q, 2, none⟩ = some (.bool false) := blk_cell h1.vb rfl
  have q3 : W1.cell? ⟨Q, 3, none⟩ = some (.bool false) := blk_cell h1.vb rfl
  have q4 : W1.cell? ⟨Q, 4, none⟩ = some (.int .i64 0) := blk_cell h1.vb rfl
  have q5 : W1.cell? ⟨Q, 5, none⟩ = some (.int .u8 0) := blk_cell h1.vb rfl
  have q6 : W1.cell? ⟨Q, 6, none⟩ = some (.int .u8 0) := blk_cell h1.vb rfl
  have q7 : W1.cell? ⟨Q, 7, none⟩ = some (.int .u8 0) := blk_cell h1.vb rfl
  have q8 : W1.cell? ⟨Q, 8, none⟩ = some (.int .u8 0) := blk_cell h1.vb rfl
  have q9 : W1.cell? ⟨Q, 9, none⟩ = some (.int .u8 0) := blk_cell h1.vb rfl
  have q10 : W1.cell? ⟨Q, 10, none⟩ = some (.int .u8 0) := blk_cell h1.vb rfl
  have q11 : W1.cell? ⟨Q, 11, none⟩ = some (.int .u8 0) := blk_cell h1.vb rfl
  have q12 : W1.cell? ⟨Q, 12, none⟩ = some (.int .u8 0) := blk_cell h1.vb rfl
  have q13 : W1.cell? ⟨Q, 13, none⟩ = some (.int .u8 0) := blk_cell h1.vb rfl
  have q14 : W1.cell? ⟨Q, 14, none⟩ = some (.int .u8 0) := blk_cell h1.vb rfl
  have q15 : W1.cell? ⟨Q, 15, none⟩ = some (.slice none 0 0) := blk_cell h1.vb rfl
  have q16 : W1.cell? ⟨Q, 16, none⟩ = some (.slice none 0 0) := blk_cell h1.vb rfl
  have r0 : W1.frozen? ⟨Q, 0, none⟩ = false := blk_open h1.vb 0
  have r1 : W1.frozen? ⟨Q, 1, none⟩ = false := blk_open h1.vb 1
  have r2 : W1.frozen? ⟨Q, 2, none⟩ = false := blk_open h1.vb 2
  have r3 : W1.frozen? ⟨Q, 3, none⟩ = false := blk_open h1.vb 3
  have r4 : W1.frozen? ⟨Q, 4, none⟩ = false := blk_open h1.vb 4
  have r5 : W1.frozen? ⟨Q, 5, none⟩ = false := blk_open h1.vb 5
  have r6 : W1.frozen? ⟨Q, 6, none⟩ = false := blk_open h1.vb 6
  have r7 : W1.frozen? ⟨Q, 7, none⟩ = false := blk_open h1.vb 7
  have r8 : W1.frozen? ⟨Q, 8, none⟩ = false := blk_open h1.vb 8
  have r9 : W1.frozen? ⟨Q, 9, none⟩ = false := blk_open h1.vb 9
  have r10 : W1.frozen? ⟨Q, 10, none⟩ = false := blk_open h1.vb 10
  have r11 : W1.frozen? ⟨Q, 11, none⟩ = false := blk_open h1.vb 11
  have r12 : W1.frozen? ⟨Q, 12, none⟩ = false := blk_open h1.vb 12
  have r13 : W1.frozen? ⟨Q, 13, none⟩ = false := blk_open h1.vb 13
  have r14 : W1.frozen? ⟨Q, 14, none⟩ = false := blk_open h1.vb 14
  have r15 : W1.frozen? ⟨Q, 15, none⟩ = false := blk_open h1.vb 15
  have r16 : W1.frozen? ⟨Q, 16, none⟩ = false := blk_open h1.vb 16
  have m1 := blk_cell h1.xb (j := 0) rfl
  have n1 := blk_open h1.xb 0
  have m2 := blk_cell h1.yb (j := 0) rfl
  have n2 := blk_open h1.yb 0
  clear h1 hne fb
  go_region
  all_goals exact ⟨rfl, _, rfl, _, results_none rfl _ _ _, rfl, rfl, HE.out⟩

end Go.Proofs.Ytmoogfdmlbalbaa
