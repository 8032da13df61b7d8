/-
  What catches a fault: the deferred closures of Parse and Part.
  datagram of package ipv4: the reader's box, the datagram's and the answer's.
  datagram of package ipv4: all that stands behind the length of all.
  Parse and Part of package ipv4.
-/
import Derived.Test.YtnjkagopmfenkaaGreatFold04
import Derived.Test.YtnjkagopmfenkaaGreatFold10
import Derived.Recover
import Derived.WalkLawsBesides
import Derived.Test.YtnjkagopmfenkaaGreatFold07
import Derived.Defers
namespace Go.Proofs.YtnjkagopmfenkaaGreat.V4
open Go Go.RowKit
set_option linter.unusedVariables false
set_option linter.unusedSimpArgs false

/-- A region that begins with a recover, and holds no other. -/
theorem wpS_region_rec {P : Program} {Q : Exit → Act → List Frame → World → Prop} {a : Act} {cs cs' : List Frame} {w : World} {id : Nat} {o : Oper} {l : List Oper} {v : Value}
    (hw : Region.wanted o (yielded (o :: l).toArray a.tmps) = true) (hop : (execOp a.eval o).run P w = .ok .recover w) (hrec : (recoverD cs).getD (.nilIface, cs) = (v, cs'))
    (h : wpList P (o :: l).toArray (fun e a' w' => Q e a' cs' w') l (a.put o.dst v) w) : (Code.region id (o :: l).toArray false).wpS P Q a cs w := by
  intro b k hb hr
  have ho : ((o :: l).toArray)[0]? = some o := by simp
  have hg := stepG_op (P := P) (b := b) (a := a) (k := k) (cs := cs) (w := w) (rest := List.range' 1 l.length) ho hw
  have hfin : ∀ v, (b.at a (.inRegion (o :: l).toArray (0 :: List.range' 1 l.length) :: k)).finish v = b.at (a.put o.dst v) (.inRegion (o :: l).toArray (List.range' 1 l.length) :: k) := by
    intro v; rw [Frame.finish_at, ho]; rfl
  have hk : (b.at a (.inRegion (o :: l).toArray (0 :: List.range' 1 l.length) :: k)).kind = .deferred := hb
  have htr := tryRecover_deferred hk cs
  rw [← wpOps_eq_wpList l 1 (fun j => by rw [Nat.add_comm]; simp)] at h
  obtain ⟨e, a', w', hq, harr⟩ := wp_ops _ _ _ h b k cs'
  refine ⟨e, a', cs', w', hq, .of_steps (.head (step_region) (.one (step_lone_go ?_))) harr⟩
  have hrg : List.range (o :: l).toArray.size = 0 :: List.range' 1 l.length := by
    rw [List.range_eq_range']
    simp [List.range'_succ]
  rw [hrg, hg, ← hfin]
  simp only [Frame.at] at htr ⊢
  cases hc : recoverD cs with
  | none =>
    rw [hc] at hrec htr
    simp only [Option.getD_none, Prod.mk.injEq] at hrec
    obtain ⟨rfl, rfl⟩ := hrec
    simp [stepG.apply, hop, htr]
  | some p =>
    rw [hc] at hrec htr
    simp only [Option.getD_some] at hrec
    subst hrec
    simp [stepG.apply, hop, htr]

theorem ta_yes (v : Value) (w : World) : (Instr.typeAssert (.iface 116 v) 20 116 true).run Tryz.prog w = .ok (.tuple #[v, .bool true]) w := by
  simp [Instr.typeAssert, Tryz.underlying116, go_sem]
theorem ta_no (w : World) : (Instr.typeAssert .nilIface 20 116 true).run Tryz.prog w = .ok (.tuple #[.agg #[.int .i64 0, .int .i64 0], .bool false]) w := by
  simp [Instr.typeAssert, Tryz.underlying116, go_sem]

theorem tmps16 (a b c : Value) : (#[a, b, c] ++ Array.replicate (16 - #[a, b, c].size) undef : Array Value) = #[a, b, c, undef, undef, undef, undef, undef, undef, undef, undef, undef, undef, undef, undef, undef] := rfl
/-- The three results' boxes. -/
structure BoxW (w0 W : World) (Q : Nat) (c : List Value) (x y : Int) : Prop where
  vb : W.heap[Q]? = some (.cells c.toArray 27)
  len : c.length = 17
  xb : W.heap[Q + 1]? = some (.cells [.int .i64 x].toArray 3)
  yb : W.heap[Q + 2]? = some (.cells [.int .i64 y].toArray 37)
  bel : Below w0.heap.size w0 W
  up : w0.heap.size ≤ Q

section
variable {w0 W W' : World} {Q : Nat} {c : List Value} {x y : Int}
theorem BoxW.on (h : BoxW w0 W Q c x y) (hb : Below W.heap.size W W') : BoxW w0 W' Q c x y :=
  ⟨blk_on h.vb hb, h.len, blk_on h.xb hb, blk_on h.yb hb, h.bel.trans (hb.mono h.bel.size), h.up⟩
theorem BoxW.drew (h : BoxW w0 W Q c x y) : BoxW w0 W.drew Q c x y := ⟨h.vb, h.len, h.xb, h.yb, h.bel.drew, h.up⟩
theorem BoxW.sets (h : BoxW w0 W Q c x y) (V : List Value) (hV : V.length = 17) (h1 : ∀ v ∈ V, v.oneCell' = true) :
    ∃ w2, (Instr.storeAt 27 (.pointer (some ⟨Q, 0, none⟩)) (.agg V.toArray)).run Tryz.prog W = .ok () w2 ∧ BoxW w0 w2 Q V x y ∧ Only Q W w2 := by
  have hO : Only Q W (W.setCells Q 0 V) := Only.sets _ _ _ (Only.refl _ _)
  refine ⟨_, agg_store Tryz.sizeOf27 hV h1 (fun j hj => ?_) (blk_open h.vb), ⟨?_, hV, (hO.other _ (by omega)).trans h.xb, (hO.other _ (by omega)).trans h.yb, h.bel.trans (hO.below h.up), h.up⟩, hO⟩
  · have : j < c.length := by have := h.len; omega
    simp [World.cell?, h.vb, this]
  · have hc := h.len
    have := blk_sets V 0 c W h.vb
    rwa [setsL_all c V (by omega)] at this
theorem BoxW.cleared (h : BoxW w0 W Q zeroC x y) : BoxW w0 (W.setCells Q 0 zeroC) Q zeroC x y := by
  have hO : Only Q W (W.setCells Q 0 zeroC) := Only.sets _ _ _ (Only.refl _ _)
  refine ⟨?_, rfl, (hO.other _ (by omega)).trans h.xb, (hO.other _ (by omega)).trans h.yb, h.bel.trans (hO.below h.up), h.up⟩
  have := blk_sets zeroC 0 zeroC W h.vb
  rwa [setsL_all zeroC zeroC rfl] at this
theorem sets17 (W : World) (Q : Nat) : W.setCells Q 0 zeroC = (((((((((((((((((W.setCell ⟨Q, 0, none⟩ (.int .u8 0)).setCell ⟨Q, 1, none⟩ (.int .u16 0)).setCell ⟨Q, 2, none⟩ (.bool false)).setCell ⟨Q, 3, none⟩ (.bool false)).setCell ⟨Q, 4, none⟩ (.int .i64 0)).setCell ⟨Q, 5, none⟩ (.int .u8 0)).setCell ⟨Q, 6, none⟩ (.int .u8 0)).setCell ⟨Q, 7, none⟩ (.int .u8 0)).setCell ⟨Q, 8, none⟩ (.int .u8 0)).setCell ⟨Q, 9, none⟩ (.int .u8 0)).setCell ⟨Q, 10, none⟩ (.int .u8 0)).setCell ⟨Q, 11, none⟩ (.int .u8 0)).setCell ⟨Q, 12, none⟩ (.int .u8 0)).setCell ⟨Q, 13, none⟩ (.int .u8 0)).setCell ⟨Q, 14, none⟩ (.int .u8 0)).setCell ⟨Q, 15, none⟩ (.slice none 0 0)).setCell ⟨Q, 16, none⟩ (.slice none 0 0)) := by
  simp only [zeroC, World.setCells, Nat.reduceAdd]
theorem BoxW.setX (h : BoxW w0 W Q c x y) (z : Int) : BoxW w0 (W.setCell ⟨Q + 1, 0, none⟩ (.int .i64 z)) Q c z y :=
  ⟨blk_set_other h.vb (by omega) _ _, h.len, by rw [blk_set h.xb]; rfl, blk_set_other h.yb (by omega) _ _, h.bel.setCell (by have := h.up; simp; omega) _, h.up⟩
theorem BoxW.setY (h : BoxW w0 W Q c x y) (z : Int) : BoxW w0 (W.setCell ⟨Q + 2, 0, none⟩ (.int .i64 z)) Q c x z :=
  ⟨blk_set_other h.vb (by omega) _ _, h.len, blk_set_other h.xb (by omega) _ _, by rw [blk_set h.yb]; rfl, h.bel.setCell (by have := h.up; simp; omega) _, h.up⟩
end
set_option maxHeartbeats 2000000 in
set_option maxRecDepth 100000 in
theorem catch_idleP (p q r : Addr) (w : World) :
    CallsD Tryz.prog 105 #[.pointer (some p), .pointer (some q), .pointer (some r)] .returning w fun e u' w' => e = .returned (.tuple #[]) ∧ u' = .returning ∧ Below w.heap.size w w' := by
  have hB := ((Below.refl w.heap.size w).alloc (Nat.le_refl _) (.cells #[.int .i64 0, .int .i64 0] 116))
  have ht := ta_no w
  refine callsD_of_wpS Tryz.func105 rfl fun c₀ cs hu => ?_
  apply wpS_seq
  refine wpS_region_rec (v := .nilIface) (cs' := c₀ :: cs) rfl rfl (by simp [recoverD, hu]) ?_
  simp only [Tryz.ntmps105, tmps16, Act.put, List.setIfInBounds_toArray, List.set_cons_zero, List.set_cons_succ]
  go_wp2
  refine wpS_of_wp ?_
  go_wp2
  cases c₀
  simp_all [bodyPostS, results, Tryz.results105]

set_option maxHeartbeats 2000000 in
set_option maxRecDepth 100000 in
theorem catch_faultP (w0 : World) (Q : Nat) (x y at' e : Int) (w : World) (h : BoxW w0 w Q zeroC x y) :
    CallsD Tryz.prog 105 #[.pointer (some ⟨Q, 0, none⟩), .pointer (some ⟨Q + 1, 0, none⟩), .pointer (some ⟨Q + 2, 0, none⟩)] (.panicking [{ v := .iface 116 (.agg #[.int .i64 at', .int .i64 e]), recovered := false }]) w fun e' u' w' => e' = .returned (.tuple #[]) ∧ u' = .panicking [{ v := .iface 116 (.agg #[.int .i64 at', .int .i64 e]), recovered := true }] ∧ BoxW w0 w' Q zeroC at' e := by
  have ht := ta_yes (.agg #[.int .i64 at', .int .i64 e]) w
  refine callsD_of_wpS Tryz.func105 rfl fun c₀ cs hu => ?_
  apply wpS_seq
  refine wpS_region_rec (v := .iface 116 (.agg #[.int .i64 at', .int .i64 e])) (cs' := { c₀ with mode := .panicking [{ v := .iface 116 (.agg #[.int .i64 at', .int .i64 e]), recovered := true }] } :: cs) rfl rfl (by simp [recoverD, hu]) ?_
  simp only [Tryz.ntmps105, tmps16, Act.put, List.setIfInBounds_toArray, List.set_cons_zero, List.set_cons_succ]
  go_wp2
  refine wpS_of_wp ?_
  go_wp2
  have h1 := h.on ((Below.refl w.heap.size w).alloc (Nat.le_refl _) (.cells #[.int .i64 at', .int .i64 e] 116))
  have fb := blk_new w (.cells [.int .i64 at', .int .i64 e].toArray 116)
  have hne : Q + 2 < w.heap.size := (Array.getElem?_eq_some_iff.1 h.yb).1
  clear ht h
  generalize w.alloc (.cells #[.int .i64 at', .int .i64 e] 116) = W1 at *
  generalize w.heap.size = F at *
  have k0 := blk_cell fb (j := 0) rfl
  have k1 := blk_cell fb (j := 1) rfl
  have hq1 : ¬ F = Q + 1 := by omega
  have hq2 : ¬ F = Q + 2 := by omega
  have hE := ((h1.cleared.setX at').setY e).drew
  rw [sets17] at hE
  have HE : Hid _ := hE
  clear hE
  have hq0 : ¬ F = Q := by omega
  have q0 : W1.cell? ⟨Q, 0, none⟩ = some (.int .u8 0) := blk_cell h1.vb rfl
  have q1 : W1.cell? ⟨Q, 1, none⟩ = some (.int .u16 0) := blk_cell h1.vb rfl
  have q2 : W1.cell? ⟨Q, 2, none⟩ = some (.bool false) := blk_cell h1.vb rfl
  have q3 : W1.cell? ⟨Q, 3, none⟩ = some (.bool false) := blk_cell h1.vb rfl
  have q4 : W1.cell? ⟨Q, 4, none⟩ = some (.int .i64 0) := blk_cell h1.vb rfl
  have q5 : W1.cell? ⟨Q, 5, none⟩ = some (.int .u8 0) := blk_cell h1.vb rfl
  have q6 : W1.cell? ⟨Q, 6, none⟩ = some (.int .u8 0) := blk_cell h1.vb rfl
  have q7 : W1.cell? ⟨Q, 7, none⟩ = some (.int .u8 0) := blk_cell h1.vb rfl
  have q8 : W1.cell? ⟨Q, 8, none⟩ = some (.int .u8 0) := blk_cell h1.vb rfl
  have q9 : W1.cell? ⟨Q, 9, none⟩ = some (.int .u8 0) := blk_cell h1.vb rfl
  have q10 : W1.cell? ⟨Q, 10, none⟩ = some (.int .u8 0) := blk_cell h1.vb rfl
  have q11 : W1.cell? ⟨Q, 11, none⟩ = some (.int .u8 0) := blk_cell h1.vb rfl
  have q12 : W1.cell? ⟨Q, 12, none⟩ = some (.int .u8 0) := blk_cell h1.vb rfl
  have q13 : W1.cell? ⟨Q, 13, none⟩ = some (.int .u8 0) := blk_cell h1.vb rfl
  have q14 : W1.cell? ⟨Q, 14, none⟩ = some (.int .u8 0) := blk_cell h1.vb rfl
  have q15 : W1.cell? ⟨Q, 15, none⟩ = some (.slice none 0 0) := blk_cell h1.vb rfl
  have q16 : W1.cell? ⟨Q, 16, none⟩ = some (.slice none 0 0) := blk_cell h1.vb rfl
  have r0 : W1.frozen? ⟨Q, 0, none⟩ = false := blk_open h1.vb 0
  have r1 : W1.frozen? ⟨Q, 1, none⟩ = false := blk_open h1.vb 1
  have r2 : W1.frozen? ⟨Q, 2, none⟩ = false := blk_open h1.vb 2
  have r3 : W1.frozen? ⟨Q, 3, none⟩ = false := blk_open h1.vb 3
  have r4 : W1.frozen? ⟨Q, 4, none⟩ = false := blk_open h1.vb 4
  have r5 : W1.frozen? ⟨Q, 5, none⟩ = false := blk_open h1.vb 5
  have r6 : W1.frozen? ⟨Q, 6, none⟩ = false := blk_open h1.vb 6
  have r7 : W1.frozen? ⟨Q, 7, none⟩ = false := blk_open h1.vb 7
  have r8 : W1.frozen? ⟨Q, 8, none⟩ = false := blk_open h1.vb 8
  have r9 : W1.frozen? ⟨Q, 9, none⟩ = false := blk_open h1.vb 9
  have r10 : W1.frozen? ⟨Q, 10, none⟩ = false := blk_open h1.vb 10
  have r11 : W1.frozen? ⟨Q, 11, none⟩ = false := blk_open h1.vb 11
  have r12 : W1.frozen? ⟨Q, 12, none⟩ = false := blk_open h1.vb 12
  have r13 : W1.frozen? ⟨Q, 13, none⟩ = false := blk_open h1.vb 13
  have r14 : W1.frozen? ⟨Q, 14, none⟩ = false := blk_open h1.vb 14
  have r15 : W1.frozen? ⟨Q, 15, none⟩ = false := blk_open h1.vb 15
  have r16 : W1.frozen? ⟨Q, 16, none⟩ = false := blk_open h1.vb 16
  have m1 := blk_cell h1.xb (j := 0) rfl
  have n1 := blk_open h1.xb 0
  have m2 := blk_cell h1.yb (j := 0) rfl
  have n2 := blk_open h1.yb 0
  clear h1 hne fb
  go_region
  all_goals exact ⟨rfl, _, rfl, _, results_none rfl _ _ _, rfl, rfl, HE.out⟩

end Go.Proofs.YtnjkagopmfenkaaGreat.V4

namespace Go.Proofs.YtnjkagopmfenkaaGreat.V4
open Go Go.RowKit
set_option linter.unusedVariables false
set_option linter.unusedSimpArgs false

def cV (tos id : Int) (df mf : Bool) (off ttl proto s0 s1 s2 s3 d0 d1 d2 d3 : Int) (so sb : Value) : List Value :=
  [.int .u8 tos, .int .u16 id, .bool df, .bool mf, .int .i64 off, .int .u8 ttl, .int .u8 proto, .int .u8 s0, .int .u8 s1, .int .u8 s2, .int .u8 s3, .int .u8 d0, .int .u8 d1, .int .u8 d2, .int .u8 d3, so, sb]
structure DgW (w0 W : World) (R Q b o len cap : Nat) (tos size all : Int) (c : List Value) : Prop where
  rb : W.heap[R]? = some (.cells [.slice (some ⟨b, o, none⟩) len cap, .int .u8 tos, .int .i64 size, .int .i64 all].toArray 160)
  up : w0.heap.size ≤ R
  bel : Below w0.heap.size w0 W
  qb : W.heap[Q]? = some (.cells zeroC.toArray 27)
  vb : W.heap[Q + 1]? = some (.cells c.toArray 27)
  lt : R < Q
section
variable {w0 W W' : World} {R Q b o len cap : Nat} {tos size all : Int} {c : List Value}
theorem DgW.left (h : DgW w0 W R Q b o len cap tos size all c) (n : Nat) : DgW w0 (W.setCell ⟨R, 0, none⟩ (restV b o len cap n)) R Q b (nxt o cap n) (len - n) (cap - n) tos size all c := by
  have := h.lt
  refine ⟨?_, h.up, h.bel.setCell h.up _, blk_set_other h.qb (by omega) _ _, blk_set_other h.vb (by omega) _ _, h.lt⟩
  rw [blk_set h.rb, restV_eq]
  rfl
theorem DgW.drew (h : DgW w0 W R Q b o len cap tos size all c) : DgW w0 W.drew R Q b o len cap tos size all c := ⟨h.rb, h.up, h.bel.drew, h.qb, h.vb, h.lt⟩
theorem DgW.put (h : DgW w0 W R Q b o len cap tos size all c) (j : Nat) (v : Value) : DgW w0 (W.setCell ⟨Q + 1, j, none⟩ v) R Q b o len cap tos size all (c.set j v) := by
  have := h.lt
  have := h.up
  exact ⟨blk_set_other h.rb (by omega) _ _, h.up, h.bel.setCell (by simp; omega) _, blk_set_other h.qb (by omega) _ _, blk_set h.vb j v, h.lt⟩
theorem DgW.on (h : DgW w0 W R Q b o len cap tos size all c) (hb : Below W.heap.size W W') : DgW w0 W' R Q b o len cap tos size all c :=
  ⟨blk_on h.rb hb, h.up, h.bel.trans (hb.mono h.bel.size), blk_on h.qb hb, blk_on h.vb hb, h.lt⟩
theorem DgW.sets (h : DgW w0 W R Q b o len cap tos size all c) (p : Nat) (vs : List Value) : DgW w0 (W.setCells (Q + 1) p vs) R Q b o len cap tos size all (setsL c p vs) := by
  have hO : Only (Q + 1) W (W.setCells (Q + 1) p vs) := Only.sets _ _ _ (Only.refl _ _)
  have := h.lt
  have := h.up
  exact ⟨(hO.other R (by omega)).trans h.rb, h.up, h.bel.trans (hO.below (by omega)), (hO.other Q (by omega)).trans h.qb, blk_sets _ _ _ _ h.vb, h.lt⟩
theorem DgW.old (h : DgW w0 W R Q b o len cap tos size all c) {g p : Nat} {v : Value} (hg : g < w0.heap.size) (hv : w0.cell? ⟨g, p, none⟩ = some v) : W.cell? ⟨g, p, none⟩ = some v :=
  (h.bel.cell (p := ⟨g, p, none⟩) hg).trans hv
theorem DgW.octet (h : DgW w0 W R Q b o len cap tos size all c) (hb : b < w0.heap.size) (hn : 1 ≤ len) (hl : len ≤ cap) {z : Int} (k : w0.cell? ⟨b, o, none⟩ = some (.int .u8 z)) :
    Calls Tryz.prog 112 #[.pointer (some ⟨R, 0, none⟩)] W fun e w' => e = .returned (.int .u8 z) ∧ DgW w0 w' R Q b (nxt o cap 1) (len - 1) (cap - 1) tos size all c := by
  have := h.up
  refine (octet_calls R b o len cap z W (blk_cell h.rb rfl) (blk_open h.rb 0) hn hl (by omega) (h.old hb k)).mono ?_
  rintro e w' ⟨rfl, rfl⟩
  exact ⟨rfl, h.left 1⟩
theorem DgW.word (h : DgW w0 W R Q b o len cap tos size all c) (hb : b < w0.heap.size) (hn : 2 ≤ len) (hl : len ≤ cap) {x y : Int} (k0 : w0.cell? ⟨b, o, none⟩ = some (.int .u8 x)) (k1 : w0.cell? ⟨b, o + 1, none⟩ = some (.int .u8 y)) (fx : 0 ≤ x ∧ x < 256) (fy : 0 ≤ y ∧ y < 256) :
    Calls Tryz.prog 137 #[.pointer (some ⟨R, 0, none⟩)] W fun e w' => e = .returned (.int .u16 (x * 256 + y)) ∧ DgW w0 w' R Q b (nxt o cap 2) (len - 2) (cap - 2) tos size all c := by
  have := h.up
  refine (word_calls R b o len cap x y W (blk_cell h.rb rfl) (blk_open h.rb 0) hn hl (by omega) (h.old hb k0) (h.old hb k1) fx fy).mono ?_
  rintro e w' ⟨rfl, rfl⟩
  exact ⟨rfl, (h.left 2).drew⟩
theorem DgW.run (h : DgW w0 W R Q b o len cap tos size all c) (n : Nat) (hn : n ≤ len) (hl : len ≤ cap) :
    Calls Tryz.prog 138 #[.pointer (some ⟨R, 0, none⟩), .int .i64 n] W fun e w' => ∃ v, e = .returned v ∧ v = .slice (some ⟨b, o, none⟩) n cap ∧ DgW w0 w' R Q b (nxt o cap n) (len - n) (cap - n) tos size all c := by
  refine (run_calls R b o len cap n W (blk_cell h.rb rfl) (blk_open h.rb 0) hn hl).mono ?_
  rintro e w' ⟨rfl, rfl⟩
  exact ⟨_, rfl, rfl, h.left n⟩
theorem DgW.octetI {off i j : Nat} (h : DgW w0 W R Q b (off + i) (len - i) (cap - i) tos size all c) (hb : b < w0.heap.size) (hn : j ≤ len) (hl : len ≤ cap) (hc : j < cap) (hj : j = i + 1) {z : Int} (k : w0.cell? ⟨b, off + i, none⟩ = some (.int .u8 z)) :
    Calls Tryz.prog 112 #[.pointer (some ⟨R, 0, none⟩)] W fun e w' => e = .returned (.int .u8 z) ∧ DgW w0 w' R Q b (off + j) (len - j) (cap - j) tos size all c := by
  refine (h.octet hb (by omega) (by omega) k).mono ?_
  rintro e w' ⟨rfl, hS⟩
  rw [nxt_lt (by omega), show off + i + 1 = off + j by omega, show len - i - 1 = len - j by omega, show cap - i - 1 = cap - j by omega] at hS
  exact ⟨rfl, hS⟩
theorem DgW.wordI {off i j : Nat} (h : DgW w0 W R Q b (off + i) (len - i) (cap - i) tos size all c) (hb : b < w0.heap.size) (hn : j ≤ len) (hl : len ≤ cap) (hc : j < cap) (hj : j = i + 2) {x y : Int} (k0 : w0.cell? ⟨b, off + i, none⟩ = some (.int .u8 x)) (k1 : w0.cell? ⟨b, off + (i + 1), none⟩ = some (.int .u8 y)) (fx : 0 ≤ x ∧ x < 256) (fy : 0 ≤ y ∧ y < 256) :
    Calls Tryz.prog 137 #[.pointer (some ⟨R, 0, none⟩)] W fun e w' => e = .returned (.int .u16 (x * 256 + y)) ∧ DgW w0 w' R Q b (off + j) (len - j) (cap - j) tos size all c := by
  refine (h.word hb (by omega) (by omega) k0 k1 fx fy).mono ?_
  rintro e w' ⟨rfl, hS⟩
  rw [nxt_lt (by omega), show off + i + 2 = off + j by omega, show len - i - 2 = len - j by omega, show cap - i - 2 = cap - j by omega] at hS
  exact ⟨rfl, hS⟩
theorem DgW.runI {off i j : Nat} (h : DgW w0 W R Q b (off + i) (len - i) (cap - i) tos size all c) (hn : j ≤ len) (hl : len ≤ cap) (hc : j < cap) (hj : j = i + 4) :
    Calls Tryz.prog 138 #[.pointer (some ⟨R, 0, none⟩), .int .i64 4] W fun e w' => ∃ v, e = .returned v ∧ v = .slice (some ⟨b, off + i, none⟩) 4 (cap - i) ∧ DgW w0 w' R Q b (off + j) (len - j) (cap - j) tos size all c := by
  refine (h.run 4 (by omega) (by omega)).mono ?_
  rintro e w' ⟨v, rfl, hv, hS⟩
  rw [nxt_lt (by omega), show off + i + 4 = off + j by omega, show len - i - 4 = len - j by omega, show cap - i - 4 = cap - j by omega] at hS
  exact ⟨v, rfl, hv, hS⟩
/-- Bytes of old memory copied into the datagram. -/
theorem DgW.copy (h : DgW w0 W R Q b o len cap tos size all c) (hc : c.length = 17) {v : Value} {ys : List Int} (hb : BytesAt w0.heap.size w0 v ys) (p k : Nat) (hp : p + ys.length ≤ 17) (ty : TypeId) :
    ∃ r w2, (Builtin.copy_ #[25, 25] ty #[.slice (some ⟨Q + 1, p, none⟩) ys.length k, v]).run Tryz.prog W = .ok r w2 ∧ DgW w0 w2 R Q b o len cap tos size all (setsL c p (ys.map (fun z => Value.int .u8 z))) := by
  have hinf : (Tryz.prog.info? 5).map (·.size) = some 1 := by kernel_rfl
  obtain ⟨hf, hlen, a, cap', rfl, hz⟩ := hb
  rcases hz with h0 | ⟨sb, so, rfl, hlt, hcl⟩
  · obtain rfl : ys = [] := List.length_eq_zero_iff.1 h0
    exact ⟨_, W, run_copy_none W _ _ ty 5 _ a 0 k 0 cap' Tryz.underlying25 hinf (by simp), h⟩
  · have hs : ∀ j, j < ys.length → (W.cell? ⟨Q + 1, p + j, none⟩).isSome = true := fun j hj => by
      have : p + j < c.length := by omega
      simp [World.cell?, h.vb, this]
    refine ⟨_, _, run_copy_cells W _ _ ty 5 (Q + 1) p ys.length k ⟨sb, so, none⟩ ys.length cap' (ys.map (fun z => Value.int .u8 z)) Tryz.underlying25 hinf (by simp) ?_ (by simpa using hs) (fun j _ => blk_open h.vb _) (by simp [Value.oneCell']), h.sets p _⟩
    intro j x hj
    rw [Go.WideShapes.add_plain]
    rw [List.getElem?_map] at hj
    cases hz : ys[j]? with
    | none => simp [hz] at hj
    | some z =>
      simp [hz] at hj
      subst hj
      have := hcl j (List.getElem?_eq_some_iff.1 hz).1
      rw [hz] at this
      exact h.old hlt this
end

/-- The boxes at the start. -/
theorem DgW.start {w0 w : World} {R b o len cap : Nat} {tos size all : Int} (h : ReadW w0 w R b o len cap tos size all) :
    ∃ w3, (Instr.storeAt 27 (.pointer (some ⟨w.heap.size + 1, 0, none⟩)) (.agg (cV tos 0 false false 0 0 0 0 0 0 0 0 0 0 0 (.slice none 0 0) (.slice none 0 0)).toArray)).run Tryz.prog ((w.alloc (.cells zeroC.toArray 27)).alloc (.cells zeroC.toArray 27)) = .ok () w3
      ∧ DgW w0 w3 R w.heap.size b o len cap tos size all (cV tos 0 false false 0 0 0 0 0 0 0 0 0 0 0 (.slice none 0 0) (.slice none 0 0)) := by
  have hlt : R < w.heap.size := (Array.getElem?_eq_some_iff.1 h.blk).1
  have hv := blk_new (w.alloc (.cells zeroC.toArray 27)) (.cells zeroC.toArray 27)
  rw [show (w.alloc (.cells zeroC.toArray 27)).heap.size = w.heap.size + 1 by simp] at hv
  have h0 : DgW w0 ((w.alloc (.cells zeroC.toArray 27)).alloc (.cells zeroC.toArray 27)) R w.heap.size b o len cap tos size all zeroC :=
    ⟨blk_alloc (blk_alloc h.blk _) _, h.up, (h.bel.alloc (h.bel.size) _).alloc (by have := h.bel.size; simp; omega) _, blk_alloc (blk_new w _) _, hv, hlt⟩
  refine ⟨_, agg_store Tryz.sizeOf27 rfl ?_ ?_ (blk_open hv), h0.sets 0 _⟩
  · simp [cV, Value.oneCell']
  · intro j hj
    have hj' : j < zeroC.length := hj
    rw [Nat.zero_add, blk_cell hv (List.getElem?_eq_getElem hj')]
    rfl

end Go.Proofs.YtnjkagopmfenkaaGreat.V4

namespace Go.Proofs.YtnjkagopmfenkaaGreat.V4
open Go Go.RowKit
set_option linter.unusedVariables false
set_option linter.unusedSimpArgs false

/-- Four bytes of a row that came in. -/
theorem four_at {w : World} {b off n k : Nat} {zs : List Int} (hb : b < w.heap.size) (hf : Fit zs) (hc : ∀ j, j < zs.length → w.cell? ⟨b, off + j, none⟩ = some (.int .u8 (gz zs j))) (i : Nat) (hi : i + 4 ≤ zs.length) :
    BytesAt w.heap.size w (.slice (some ⟨b, off + i, none⟩) 4 k) [gz zs i, gz zs (i + 1), gz zs (i + 2), gz zs (i + 3)] := by
  refine ⟨?_, by simp, _, k, rfl, .inr ⟨b, off + i, rfl, hb, fun j hj => ?_⟩⟩
  · intro z hz
    simp at hz
    rcases hz with rfl | rfl | rfl | rfl <;> exact hf.gz _
  · simp only [List.length_cons, List.length_nil] at hj
    rw [Nat.add_assoc, hc (i + j) (by omega)]
    match j, hj with
    | 0, _ => rfl
    | 1, _ => rfl
    | 2, _ => rfl
    | 3, _ => rfl
/-- A piece of a row that came in, its address told but where it is empty. -/
theorem piece_at {w : World} {b off o n k i : Nat} {zs : List Int} (hb : b < w.heap.size) (hf : Fit zs) (hm : zs.length ≤ 140737488351232) (hc : ∀ j, j < zs.length → w.cell? ⟨b, off + j, none⟩ = some (.int .u8 (gz zs j))) (hi : i + n ≤ zs.length) (ho : 0 < n → o = off + i) :
    BytesAt w.heap.size w (.slice (some ⟨b, o, none⟩) n k) ((zs.drop i).take n) := by
  have hl : ((zs.drop i).take n).length = n := by simp; omega
  refine ⟨fun z hz => hf z (List.mem_of_mem_drop (List.mem_of_mem_take hz)), by omega, _, k, by rw [hl], ?_⟩
  by_cases h0 : n = 0
  · left; omega
  · right
    refine ⟨b, o, rfl, hb, fun j hj => ?_⟩
    rw [hl] at hj
    rw [ho (by omega), Nat.add_assoc, hc (i + j) (by omega)]
    simp [gz, List.getElem?_take, hj, List.getElem?_drop]

theorem body_at {w : World} {b off cap hd o20 : Nat} {zs : List Int} (hb : b < w.heap.size) (hf : Fit zs) (hm : zs.length ≤ 140737488351232) (hc : ∀ j, j < zs.length → w.cell? ⟨b, off + j, none⟩ = some (.int .u8 (gz zs j))) (hcap : zs.length ≤ cap) (hh : 20 ≤ hd ∧ hd ≤ zs.length) (ho : 0 < zs.length - 20 → o20 = off + 20) :
    BytesAt w.heap.size w (.slice (some ⟨b, nxt o20 (cap - 16 - 4) (hd - 20), none⟩) (zs.length - 16 - 4 - (hd - 20)) (cap - 16 - 4 - (hd - 20))) (zs.drop hd) := by
  have e : zs.drop hd = (zs.drop hd).take (zs.length - 16 - 4 - (hd - 20)) := (List.take_of_length_le (by simp; omega)).symm
  rw [e]
  refine piece_at hb hf hm hc (by omega) (fun h => ?_)
  rw [nxt_lt (by omega), ho (by omega)]
  omega
theorem apart_of {m B s : Nat} {a : Option Addr} {k : Nat} (h : m = 0 ∨ ∃ b off n k', Value.slice a m k = .slice (some ⟨b, off, none⟩) n k' ∧ s ≤ b) (hB : B ≤ s) : (∃ a' k', some (Value.slice a m k) = some (.slice a' 0 k')) ∨ ∃ b off n k', some (Value.slice a m k) = some (.slice (some ⟨b, off, none⟩) n k') ∧ B ≤ b := by
  rcases h with rfl | ⟨b, off, n, k', e, hs⟩
  · exact .inl ⟨a, k, rfl⟩
  · exact .inr ⟨b, off, n, k', congrArg some e, Nat.le_trans hB hs⟩

set_option maxHeartbeats 4000000 in
set_option maxRecDepth 100000 in
theorem datagram_calls (w0 w : World) (R b off cap hd : Nat) (all : Int) (zs opts body : List Int) (hopts : (zs.drop 20).take (hd - 20) = opts) (hbody : zs.drop hd = body) (hf : Fit zs) (hm : zs.length ≤ 140737488351232) (hcap : zs.length ≤ cap) (hb : b < w0.heap.size)
    (hc : ∀ j, j < zs.length → w0.cell? ⟨b, off + j, none⟩ = some (.int .u8 (gz zs j))) (hh : 20 ≤ hd ∧ hd ≤ zs.length) (hR : ReadW w0 w R b (off + 4) (zs.length - 4) (cap - 4) (gz zs 1) hd all) :
    Calls Tryz.prog 108 #[.pointer (some ⟨R, 0, none⟩)] w fun e w' => ∃ c', e = .returned (.agg c'.toArray) ∧ Dgram w' c' (gz zs 1) (gz zs 4 * 256 + gz zs 5) (decide (gz zs 6 / 64 % 2 = 1)) (decide (gz zs 6 / 32 % 2 = 1)) (gz zs 6 % 32 * 256 + gz zs 7) (gz zs 8) (gz zs 9) (gz zs 12) (gz zs 13) (gz zs 14) (gz zs 15) (gz zs 16) (gz zs 17) (gz zs 18) (gz zs 19) opts body ∧ Apart w0.heap.size c' ∧ Below w0.heap.size w0 w' := by
  have HOP : Hid _ := hopts
  have HBO : Hid _ := hbody
  clear hopts hbody
  have k1 : ∀ o, (w.alloc o).cell? ⟨R, 1, none⟩ = some (.int .u8 (gz zs 1)) := fun o => blk_cell (blk_alloc hR.blk o) rfl
  obtain ⟨w3, hst, hS⟩ := DgW.start hR
  have g4 := hf.gz 4; have g5 := hf.gz 5; have g6 := hf.gz 6; have g7 := hf.gz 7
  have hid0 : 0 ≤ gz zs 4 * 256 + gz zs 5 ∧ gz zs 4 * 256 + gz zs 5 ≤ 65535 := by omega
  have hoff0 : -9223372036854775808 ≤ gz zs 6 % 32 * 256 + gz zs 7 ∧ gz zs 6 % 32 * 256 + gz zs 7 ≤ 9223372036854775807 := by omega
  have hdf := df_bit _ _ g6 g7
  have hmf := mf_bit _ _ g6 g7
  have hof := off_bits _ _ g6 g7
  have HR : Hid _ := hR
  have HST : Hid _ := hst
  have HS : Hid _ := hS
  have HC : Hid _ := hc
  have HF : Hid _ := hf
  unfold zeroC cV at HST
  clear hR hst hS hc hf
  go_enter Tryz.func108, Tryz.ntmps108
  go_wp2_with ((with_reducible show wpList _ _ _ _ _ _); refine arm_store rfl (.tmp 3) _ 27 rfl rfl rfl HST.out ?_)
  clear HST k1
  refine Calls.mono (HS.out.wordI (j := 6) hb (by omega) hcap (by omega) rfl (HC.out 4 (by omega)) (HC.out 5 (by omega)) g4 g5) ?_
  rintro e1 w1 ⟨rfl, hS1⟩
  have c1 := blk_cell hS1.vb (j := 1) rfl
  have f1 := blk_open hS1.vb 1
  have HS1 : Hid _ := hS1.put 1 (.int .u16 (gz zs 4 * 256 + gz zs 5))
  clear HS hS1
  go_wp2_with fail
  refine Calls.mono (HS1.out.wordI (j := 8) hb (by omega) hcap (by omega) rfl (HC.out 6 (by omega)) (HC.out 7 (by omega)) g6 g7) ?_
  rintro e2 w2 ⟨rfl, hS2⟩
  clear c1 f1 HS1
  have c2 := blk_cell hS2.vb (j := 2) rfl
  have f2 := blk_open hS2.vb 2
  have c3 := blk_cell hS2.vb (j := 3) rfl
  have f3 := blk_open hS2.vb 3
  have c4 := blk_cell hS2.vb (j := 4) rfl
  have f4 := blk_open hS2.vb 4
  have HS2 : Hid _ := ((hS2.put 2 (.bool (decide (gz zs 6 / 64 % 2 = 1)))).put 3 (.bool (decide (gz zs 6 / 32 % 2 = 1)))).put 4 (.int .i64 (gz zs 6 % 32 * 256 + gz zs 7))
  clear hS2
  go_wp2_with fail
  refine Calls.mono (HS2.out.octetI (j := 9) hb (by omega) hcap (by omega) rfl (HC.out 8 (by omega))) ?_
  rintro e3 w3 ⟨rfl, hS3⟩
  clear c2 f2 c3 f3 c4 f4 HS2 hdf hmf hof
  have c5 := blk_cell hS3.vb (j := 5) rfl
  have f5 := blk_open hS3.vb 5
  have HS3 : Hid _ := hS3.put 5 (.int .u8 (gz zs 8))
  clear hS3
  go_wp2_with fail
  refine Calls.mono (HS3.out.octetI (j := 10) hb (by omega) hcap (by omega) rfl (HC.out 9 (by omega))) ?_
  rintro e4 w4 ⟨rfl, hS4⟩
  clear c5 f5 HS3
  have c6 := blk_cell hS4.vb (j := 6) rfl
  have f6 := blk_open hS4.vb 6
  have HS4 : Hid _ := hS4.put 6 (.int .u8 (gz zs 9))
  clear hS4
  go_wp2_with fail
  refine Calls.mono (HS4.out.wordI (j := 12) hb (by omega) hcap (by omega) rfl (HC.out 10 (by omega)) (HC.out 11 (by omega)) (Fit.gz (zs := zs) HF.out 10) (Fit.gz (zs := zs) HF.out 11)) ?_
  rintro e5 w5 ⟨rfl, hS5⟩
  clear c6 f6 HS4
  have HS5 : Hid _ := hS5
  clear hS5
  go_wp2_with fail
  have b12 := four_at (n := 4) (k := cap - 12) hb HF.out HC.out 12 (by omega)
  have b16 := four_at (n := 4) (k := cap - 16) hb HF.out HC.out 16 (by omega)
  have HB12 : Hid _ := b12
  have HB16 : Hid _ := b16
  clear b12 b16
  go_region_law (first
    | (refine step_copyR rfl _ _ _ _ rfl rfl rfl (hS6.copy rfl HB12.out 7 4 (by simp) _) ?_; rintro v7 w7 hS7)
    | (refine step_callR rfl 138 _ (by kernel_rfl) (HS5.out.drew.runI (j := 16) (by omega) hcap (by omega) rfl) ?_; rintro v6 w6 ⟨rfl, hS6⟩))
  have HS7 : Hid _ := hS7
  clear hS6 hS7 HS5
  go_wp2_with fail
  go_region_law (first
    | (refine step_copyR rfl _ _ _ _ rfl rfl rfl (hS8.copy rfl HB16.out 11 4 (by simp) _) ?_; rintro v9 w9 hS9)
    | (refine step_callR rfl 138 _ (by kernel_rfl) (HS7.out.drew.run 4 (by omega) (by omega)) ?_; rintro v8 w8 ⟨rfl, hS8⟩))
  have HS9 : Hid _ := hS9
  have ho20 : 0 < zs.length - 20 → nxt (off + 16) (cap - 16) 4 = off + 20 := fun h => by rw [nxt_lt (by omega)]
  have HO20 : Hid _ := ho20
  have hw : IntKind.i64.wrap ((hd : Int) - 20) = ((hd - 20 : Nat) : Int) := by rw [wrapi64 _ (by omega)]; omega
  have r2 := blk_cell hS9.rb (j := 2) rfl
  clear hS8 hS9 HS7 ho20 HB12 HB16
  generalize nxt (off + 16) (cap - 16) 4 = o20 at *
  have bop : BytesAt w0.heap.size w0 (.slice (some ⟨b, o20, none⟩) (hd - 20) (cap - 16 - 4)) ((zs.drop 20).take (hd - 20)) := piece_at hb HF.out hm HC.out (by omega) (fun h => HO20.out (by omega))
  rw [HOP.out] at bop
  have HBOP : Hid _ := bop
  clear bop
  go_wp2_with fail
  go_region_law (first
    | (refine step_callR rfl 75 _ (by kernel_rfl) (Clone_calls _ _ _ (HBOP.out.later hS10.bel)) ?_; rintro v11 w11 ⟨hby, hbl, hloc⟩; have hby' := hby.val; obtain ⟨a11, k11, rfl, _⟩ := hby'; have hS11 := hS10.on hbl; have q15 := blk_cell hS11.vb (j := 15) rfl; have r15 := blk_open hS11.vb 15)
    | (refine step_callR rfl 138 _ (by kernel_rfl) (HS9.out.drew.run (hd - 20) (by omega) (by omega)) ?_; rintro v10 w10 ⟨rfl, hS10⟩))
  have hlt10 := (Array.getElem?_eq_some_iff.1 hS10.vb).1
  have hS12 := hS11.put 15 (.slice a11 opts.length k11)
  have hby12 := bytes_only hby ((Only.refl (w.heap.size + 1) w11).set 15 (.slice a11 opts.length k11)) (loc_lt hloc hlt10)
  have c0 := blk_cell hS12.rb (j := 0) rfl
  have bod := body_at hb HF.out hm HC.out hcap hh HO20.out
  rw [HBO.out] at bod
  have HBOD : Hid _ := Clone_calls _ _ _ (bod.later hS12.bel)
  have HS12 : Hid _ := hS12
  have HY12 : Hid _ := hby12
  have HLOC : Hid _ := hloc
  have HBEL10 : Hid _ := hS10.bel
  clear bod hS12 hby12 hloc hbl hS11 q15 r15 hby hS10 HS9 r2 hw HBOP
  go_wp2_with fail
  refine Calls.mono HBOD.out ?_
  rintro e13 w13 ⟨v13, rfl, hby13, hbl13, hloc13⟩
  have hby' := hby13.val
  obtain ⟨a13, k13, rfl, _⟩ := hby'
  have hlt12 := (Array.getElem?_eq_some_iff.1 HS12.out.vb).1
  have hS13 := HS12.out.on hbl13
  have c16 := blk_cell hS13.vb (j := 16) rfl
  have f16 := blk_open hS13.vb 16
  have hO16 := (Only.refl (w.heap.size + 1) w13).set 16 (.slice a13 body.length k13)
  have hS14 : DgW w0 (w13.setCell ⟨w.heap.size + 1, 16, none⟩ (.slice a13 body.length k13)) R w.heap.size b _ _ _ _ _ _ (cV (gz zs 1) (gz zs 4 * 256 + gz zs 5) (decide (gz zs 6 / 64 % 2 = 1)) (decide (gz zs 6 / 32 % 2 = 1)) (gz zs 6 % 32 * 256 + gz zs 7) (gz zs 8) (gz zs 9) (gz zs 12) (gz zs 13) (gz zs 14) (gz zs 15) (gz zs 16) (gz zs 17) (gz zs 18) (gz zs 19) (.slice a11 opts.length k11) (.slice a13 body.length k13)) := hS13.put 16 _
  have hyo := bytes_only (HY12.out.later hbl13) hO16 (loc_lt HLOC.out hlt10)
  have hyb := bytes_only hby13 hO16 (loc_lt hloc13 hlt12)
  have hld := agg_load (t := 27) Tryz.isAgg27 Tryz.sizeOf27 rfl (CellsAt.of_blk hS14.vb)
  obtain ⟨w15, hst15, hlv, hO15⟩ := slot17 hS14.qb rfl (cV (gz zs 1) (gz zs 4 * 256 + gz zs 5) (decide (gz zs 6 / 64 % 2 = 1)) (decide (gz zs 6 / 32 % 2 = 1)) (gz zs 6 % 32 * 256 + gz zs 7) (gz zs 8) (gz zs 9) (gz zs 12) (gz zs 13) (gz zs 14) (gz zs 15) (gz zs 16) (gz zs 17) (gz zs 18) (gz zs 19) (.slice a11 opts.length k11) (.slice a13 body.length k13)) rfl (by simp [cV, Value.oneCell'])
  have hzo := bytes_only hyo hO15 (loc_lt HLOC.out (Nat.lt_of_succ_lt hlt10))
  have hzb := bytes_only hyb hO15 (loc_lt hloc13 (Nat.lt_of_succ_lt hlt12))
  have hB15 : Below w0.heap.size w0 w15 := hS14.bel.trans (hO15.below (Nat.le_trans hS14.up (Nat.le_of_lt hS14.lt)))
  have g1 := Fit.gz (zs := zs) HF.out 1
  have g8 := Fit.gz (zs := zs) HF.out 8
  have g9 := Fit.gz (zs := zs) HF.out 9
  have hD : Dgram w15 (cV (gz zs 1) (gz zs 4 * 256 + gz zs 5) (decide (gz zs 6 / 64 % 2 = 1)) (decide (gz zs 6 / 32 % 2 = 1)) (gz zs 6 % 32 * 256 + gz zs 7) (gz zs 8) (gz zs 9) (gz zs 12) (gz zs 13) (gz zs 14) (gz zs 15) (gz zs 16) (gz zs 17) (gz zs 18) (gz zs 19) (.slice a11 opts.length k11) (.slice a13 body.length k13)) (gz zs 1) (gz zs 4 * 256 + gz zs 5) (decide (gz zs 6 / 64 % 2 = 1)) (decide (gz zs 6 / 32 % 2 = 1)) (gz zs 6 % 32 * 256 + gz zs 7) (gz zs 8) (gz zs 9) (gz zs 12) (gz zs 13) (gz zs 14) (gz zs 15) (gz zs 16) (gz zs 17) (gz zs 18) (gz zs 19) opts body := by
    refine ⟨⟨_, _, ⟨rfl, rfl, rfl⟩, hzo, hzb⟩, hid0, g1, g8, g9, ?_, ?_, hoff0⟩
    · intro z hz
      simp at hz
      rcases hz with rfl | rfl | rfl | rfl <;> exact Fit.gz (zs := zs) HF.out _
    · intro z hz
      simp at hz
      rcases hz with rfl | rfl | rfl | rfl <;> exact Fit.gz (zs := zs) HF.out _
  have hA : Apart w0.heap.size (cV (gz zs 1) (gz zs 4 * 256 + gz zs 5) (decide (gz zs 6 / 64 % 2 = 1)) (decide (gz zs 6 / 32 % 2 = 1)) (gz zs 6 % 32 * 256 + gz zs 7) (gz zs 8) (gz zs 9) (gz zs 12) (gz zs 13) (gz zs 14) (gz zs 15) (gz zs 16) (gz zs 17) (gz zs 18) (gz zs 19) (.slice a11 opts.length k11) (.slice a13 body.length k13)) := by
    intro j hj
    rcases hj with rfl | rfl
    · exact apart_of HLOC.out HBEL10.out.size
    · exact apart_of hloc13 HS12.out.bel.size
  have HLD : Hid _ := hld
  have HST15 : Hid _ := hst15
  have HLV : Hid _ := hlv
  have HD : Hid _ := hD
  have HA : Hid _ := hA
  have HB15 : Hid _ := hB15
  clear hld hst15 hlv hD hA hB15 hzo hzb hyo hyb hS14 hS13 hO16 hO15 hloc13 hby13 HS12 HY12 HLOC HBEL10 HBOD hbl13
  go_wp2_with first
    | ((with_reducible show wpList _ _ _ _ _ _); refine arm_load rfl (.tmp 3) 27 rfl rfl HLD.out ?_)
    | ((with_reducible show wpList _ _ _ _ _ _); refine arm_store rfl (.tmp 2) _ 27 rfl rfl rfl HST15.out ?_)
  refine bodyPost_ret (res1 rfl rfl HLV.out) rfl ?_
  exact ⟨_, rfl, HD.out, HA.out, HB15.out⟩

end Go.Proofs.YtnjkagopmfenkaaGreat.V4

namespace Go.Proofs.YtnjkagopmfenkaaGreat.V4
open Go Go.RowKit
set_option linter.unusedVariables false
set_option linter.unusedSimpArgs false

theorem BoxW.start (w : World) : BoxW w (((w.alloc (.cells zeroC.toArray 27)).alloc (.cells #[.int .i64 0] 3)).alloc (.cells #[.int .i64 0] 37)) w.heap.size zeroC 0 0 := by
  have h1 := blk_new (w.alloc (.cells zeroC.toArray 27)) (.cells #[.int .i64 0] 3)
  have h2 := blk_new ((w.alloc (.cells zeroC.toArray 27)).alloc (.cells #[.int .i64 0] 3)) (.cells #[.int .i64 0] 37)
  rw [show (w.alloc (.cells zeroC.toArray 27)).heap.size = w.heap.size + 1 by simp] at h1
  rw [show ((w.alloc (.cells zeroC.toArray 27)).alloc (.cells #[.int .i64 0] 3)).heap.size = w.heap.size + 2 by simp] at h2
  exact ⟨blk_alloc (blk_alloc (blk_new w _) _) _, rfl, blk_alloc h1 _, h2, (((Below.refl w.heap.size w).alloc (Nat.le_refl _) _).alloc (by simp) _).alloc (by simp; omega) _, Nat.le_refl _⟩
theorem BoxW.load {w0 W : World} {Q : Nat} {c : List Value} {x y : Int} (h : BoxW w0 W Q c x y) : (loadVar 27 ⟨Q, 0, none⟩).run Tryz.prog W = .ok (.agg c.toArray) W :=
  agg_loadVar Tryz.isAgg27 Tryz.sizeOf27 h.len (CellsAt.of_blk h.vb)
theorem BoxW.loadX {w0 W : World} {Q : Nat} {c : List Value} {x y : Int} (h : BoxW w0 W Q c x y) : (loadVar 3 ⟨Q + 1, 0, none⟩).run Tryz.prog W = .ok (.int .i64 x) W := by
  have := blk_cell h.xb (j := 0) rfl
  simp [loadVar, go_sem, this]
theorem BoxW.loadY {w0 W : World} {Q : Nat} {c : List Value} {x y : Int} (h : BoxW w0 W Q c x y) : (loadVar 37 ⟨Q + 2, 0, none⟩).run Tryz.prog W = .ok (.int .i64 y) W := by
  have := blk_cell h.yb (j := 0) rfl
  simp [loadVar, go_sem, this]
theorem resC {P : Program} {fn : Func} {a b c : Tmp} {t u s : TypeId} (h : fn.results = #[.cell a t, .cell b u, .cell c s]) {tmps : Array Value} {A B C : Addr} (ha : tmps.getD a undef = .pointer (some A)) (hb : tmps.getD b undef = .pointer (some B)) (hc : tmps.getD c undef = .pointer (some C)) {x y z : Value} {w : World}
    (hx : (loadVar t A).run P w = .ok x w) (hy : (loadVar u B).run P w = .ok y w) (hz : (loadVar s C).run P w = .ok z w) :
    (results fn tmps).run P w = .ok (.tuple #[x, y, z]) w := by
  rw [Array.getD_eq_getD_getElem?] at ha hb hc
  simp [results, h, ha, hb, hc, asAddr, hx, hy, hz]

theorem ReadW.on {w W W' : World} {R b off len cap : Nat} {tos size all : Int} (h : ReadW w W R b off len cap tos size all) (hb : Below W.heap.size W W') : ReadW w W' R b off len cap tos size all :=
  ⟨blk_on h.blk hb, h.up, h.bel.trans (hb.mono h.bel.size)⟩
theorem Dgram.ones {w : World} {c : List Value} {tos id : Int} {df mf : Bool} {off ttl proto s0 s1 s2 s3 d0 d1 d2 d3 : Int} {opts body : List Int} (h : Dgram w c tos id df mf off ttl proto s0 s1 s2 s3 d0 d1 d2 d3 opts body) : ∀ v ∈ c, v.oneCell' = true := by
  obtain ⟨so, sb, hc, ho, hb⟩ := h.cells
  obtain ⟨_, lo, ao, ko, rfl, _⟩ := ho
  obtain ⟨_, lb, ab, kb, rfl, _⟩ := hb
  rw [hc.eq]
  simp [Value.oneCell']
/-- A datagram whose lists lie above a block, behind a turn of that block alone. -/
theorem Dgram.only {w w' : World} {c : List Value} {tos id : Int} {df mf : Bool} {off ttl proto s0 s1 s2 s3 d0 d1 d2 d3 : Int} {opts body : List Int} (h : Dgram w c tos id df mf off ttl proto s0 s1 s2 s3 d0 d1 d2 d3 opts body) {B g : Nat} (hA : Apart B c) (hg : g < B) (hO : Only g w w') : Dgram w' c tos id df mf off ttl proto s0 s1 s2 s3 d0 d1 d2 d3 opts body := by
  obtain ⟨so, sb, hc, ho, hb⟩ := h.cells
  have a15 := hA 15 (.inl rfl)
  have a16 := hA 16 (.inr rfl)
  rw [hc.eq] at a15 a16
  have l15 : opts.length = 0 ∨ ∃ b off n k, so = .slice (some ⟨b, off, none⟩) n k ∧ g < b := by
    rcases a15 with ⟨a, k, e⟩ | ⟨b, off, n, k, e, hs⟩
    · obtain ⟨_, _, ao, ko, rfl, _⟩ := ho
      have e' : Value.slice ao opts.length ko = .slice a 0 k := Option.some.inj e
      injection e' with _ e2
      exact .inl e2
    · exact .inr ⟨b, off, n, k, Option.some.inj e, by omega⟩
  have l16 : body.length = 0 ∨ ∃ b off n k, sb = .slice (some ⟨b, off, none⟩) n k ∧ g < b := by
    rcases a16 with ⟨a, k, e⟩ | ⟨b, off, n, k, e, hs⟩
    · obtain ⟨_, _, ao, ko, rfl, _⟩ := hb
      have e' : Value.slice ao body.length ko = .slice a 0 k := Option.some.inj e
      injection e' with _ e2
      exact .inl e2
    · exact .inr ⟨b, off, n, k, Option.some.inj e, by omega⟩
  exact ⟨⟨so, sb, hc, bytes_only ho hO l15, bytes_only hb hO l16⟩, h.hid, h.ft, h.fl, h.fp, h.fs, h.fd, h.bo⟩
theorem Apart.mono {B B' : Nat} {c : List Value} (h : Apart B c) (hB : B' ≤ B) : Apart B' c := fun j hj =>
  (h j hj).imp id (fun ⟨b, off, n, k, e, hs⟩ => ⟨b, off, n, k, e, Nat.le_trans hB hs⟩)
theorem zero_apart (B : Nat) : Apart B zeroC := fun j hj => by
  rcases hj with rfl | rfl
  · exact .inl ⟨none, 0, rfl⟩
  · exact .inl ⟨none, 0, rfl⟩

set_option maxHeartbeats 1000000 in
set_option maxRecDepth 100000 in
theorem Part_no (v : Value) (at' er : Int) (w : World) (hbeg : ∀ W, Below w.heap.size w W → Calls Tryz.prog 106 #[v] W fun e w' => e = .panicked [faultP at' er] ∧ Below W.heap.size W w') :
    Calls Tryz.prog 61 #[v] w fun e w' => e = .returned (.tuple #[.agg zeroC.toArray, .int .i64 at', .int .i64 er]) ∧ Below w.heap.size w w' := by
  have hmf : ∀ (fn : Fn) (first cap : Array Value) (w : World), (Instr.makeFunc fn first cap).run Tryz.prog w = .ok (.func fn first cap) w := fun _ _ _ _ => rfl
  have hB := BoxW.start w
  have HC : Hid _ := hbeg _ hB.bel
  have HB : Hid _ := hB
  clear hbeg hB
  unfold zeroC at HC
  go_enter_defers Tryz.func61, Tryz.ntmps61
  go_wp2_with fail
  refine Calls.mono HC.out ?_
  rintro e1 w1 ⟨rfl, hb1⟩
  refine leaves_cons (f := 105) (args := #[.pointer (some ⟨w.heap.size, 0, none⟩), .pointer (some ⟨w.heap.size + 1, 0, none⟩), .pointer (some ⟨w.heap.size + 2, 0, none⟩)]) (by simp) (by simp [go_sem]) ?_
  refine (catch_faultP w w.heap.size 0 0 at' er _ (HB.out.on hb1)).mono ?_
  rintro e9 u9 w9 ⟨rfl, rfl, h9⟩
  exact ⟨_, resC rfl rfl rfl rfl h9.load h9.loadX h9.loadY, rfl, h9.bel⟩

set_option maxHeartbeats 1000000 in
set_option maxRecDepth 100000 in
theorem Part_length (b off cap : Nat) (zs : List Int) (w : World) (hf : Fit zs) (hm : zs.length ≤ 140737488351232) (hcap : zs.length ≤ cap) (hb : b < w.heap.size) (hc : ∀ j, j < zs.length → w.cell? ⟨b, off + j, none⟩ = some (.int .u8 (gz zs j))) (h20 : 20 ≤ zs.length) (hv : gz zs 0 / 16 = 4) (hs : 20 ≤ pHead zs ∧ pHead zs ≤ zs.length) (hlen : pAll zs < zs.length) :
    Calls Tryz.prog 61 #[.slice (some ⟨b, off, none⟩) zs.length cap] w fun e w' => e = .returned (.tuple #[.agg zeroC.toArray, .int .i64 2, .int .i64 43]) ∧ Below w.heap.size w w' := by
  have hmf : ∀ (fn : Fn) (first cap : Array Value) (w : World), (Instr.makeFunc fn first cap).run Tryz.prog w = .ok (.func fn first cap) w := fun _ _ _ _ => rfl
  have hB := BoxW.start w
  have hW := begin_ok b off zs.length cap (gz zs 0) (gz zs 1) (gz zs 2) (gz zs 3) _ (Nat.lt_of_lt_of_le hb hB.bel.size) h20 hcap hm ((hB.bel.cell (p := ⟨b, off, none⟩) hb).trans (hc 0 (by omega))) ((hB.bel.cell (p := ⟨b, off + 1, none⟩) hb).trans (hc 1 (by omega))) ((hB.bel.cell (p := ⟨b, off + 2, none⟩) hb).trans (hc 2 (by omega))) ((hB.bel.cell (p := ⟨b, off + 3, none⟩) hb).trans (hc 3 (by omega))) (hf.gz 0) (hf.gz 2) (hf.gz 3) hv hs (u8_low4 _ (hf.gz 0))
  rw [show gz zs 0 % 16 * 4 = pHead zs from rfl, show gz zs 2 * 256 + gz zs 3 = pAll zs from rfl] at hW
  rw [show (((w.alloc (.cells zeroC.toArray 27)).alloc (.cells #[.int .i64 0] 3)).alloc (.cells #[.int .i64 0] 37)).heap.size = w.heap.size + 1 + 1 + 1 by simp] at hW
  have hall : 0 ≤ pAll zs ∧ pAll zs ≤ 65535 := by have := hf.gz 2; have := hf.gz 3; unfold pAll; omega
  have q : decide ((zs.length : Int) ≤ pAll zs) = false := by simp; omega
  have HC : Hid _ := hW
  have HB : Hid _ := hB
  clear hW hB hc hf hv hs hall
  generalize pAll zs = al at *
  generalize pHead zs = hd at *
  unfold zeroC at HC
  go_enter_defers Tryz.func61, Tryz.ntmps61
  go_wp2_with fail
  refine Calls.mono HC.out ?_
  rintro e1 w1 ⟨rfl, hR1⟩
  have c3 := blk_cell hR1.blk (j := 3) rfl
  have HR1 : Hid _ := hR1
  have HB1 : Hid _ := HB.out.on hR1.bel
  clear hR1 HC HB
  go_wp2_with fail
  refine Calls.mono (must_bad _ _ _) ?_
  rintro e2 w2 ⟨rfl, hw2⟩
  obtain rfl := hw2.symm
  refine leaves_cons (f := 105) (args := #[.pointer (some ⟨w.heap.size, 0, none⟩), .pointer (some ⟨w.heap.size + 1, 0, none⟩), .pointer (some ⟨w.heap.size + 2, 0, none⟩)]) (by simp) (by simp [go_sem]) ?_
  refine (catch_faultP w w.heap.size 0 0 2 43 _ (HB1.out)).mono ?_
  rintro e9 u9 w9 ⟨rfl, rfl, h9⟩
  exact ⟨_, resC rfl rfl rfl rfl h9.load h9.loadX h9.loadY, rfl, h9.bel⟩

set_option maxHeartbeats 1000000 in
set_option maxRecDepth 100000 in
theorem Part_ok (b off cap : Nat) (zs : List Int) (w : World) (hf : Fit zs) (hm : zs.length ≤ 140737488351232) (hcap : zs.length ≤ cap) (hb : b < w.heap.size) (hc : ∀ j, j < zs.length → w.cell? ⟨b, off + j, none⟩ = some (.int .u8 (gz zs j))) (h20 : 20 ≤ zs.length) (hv : gz zs 0 / 16 = 4) (hs : 20 ≤ pHead zs ∧ pHead zs ≤ zs.length) (hlen : (zs.length : Int) ≤ pAll zs) :
    Calls Tryz.prog 61 #[.slice (some ⟨b, off, none⟩) zs.length cap] w fun e w' => ∃ c', e = .returned (.tuple #[.agg c'.toArray, .int .i64 0, .int .i64 0]) ∧ SaysD zs w' c' ∧ Apart w.heap.size c' ∧ Below w.heap.size w w' := by
  have hmf : ∀ (fn : Fn) (first cap : Array Value) (w : World), (Instr.makeFunc fn first cap).run Tryz.prog w = .ok (.func fn first cap) w := fun _ _ _ _ => rfl
  have hB := BoxW.start w
  have hW := begin_ok b off zs.length cap (gz zs 0) (gz zs 1) (gz zs 2) (gz zs 3) _ (Nat.lt_of_lt_of_le hb hB.bel.size) h20 hcap hm ((hB.bel.cell (p := ⟨b, off, none⟩) hb).trans (hc 0 (by omega))) ((hB.bel.cell (p := ⟨b, off + 1, none⟩) hb).trans (hc 1 (by omega))) ((hB.bel.cell (p := ⟨b, off + 2, none⟩) hb).trans (hc 2 (by omega))) ((hB.bel.cell (p := ⟨b, off + 3, none⟩) hb).trans (hc 3 (by omega))) (hf.gz 0) (hf.gz 2) (hf.gz 3) hv hs (u8_low4 _ (hf.gz 0))
  rw [show gz zs 0 % 16 * 4 = pHead zs from rfl, show gz zs 2 * 256 + gz zs 3 = pAll zs from rfl] at hW
  rw [show (((w.alloc (.cells zeroC.toArray 27)).alloc (.cells #[.int .i64 0] 3)).alloc (.cells #[.int .i64 0] 37)).heap.size = w.heap.size + 1 + 1 + 1 by simp] at hW
  have hall : 0 ≤ pAll zs ∧ pAll zs ≤ 65535 := by have := hf.gz 2; have := hf.gz 3; unfold pAll; omega
  have q : decide ((zs.length : Int) ≤ pAll zs) = true := by simp; omega
  have HC : Hid _ := hW
  have HB : Hid _ := hB
  have HB0 : Hid _ := hB
  have HC0 : Hid _ := hc
  have HF : Hid _ := hf
  obtain ⟨hd, hhd⟩ := Int.eq_ofNat_of_zero_le (show 0 ≤ pHead zs by omega)
  have HHD : Hid _ := hhd
  rw [hhd] at hs HC
  have hs1 : 20 ≤ hd ∧ hd ≤ zs.length := by omega
  clear hW hB hc hf hv hs hall hhd
  unfold zeroC at HC
  clear hlen
  unfold SaysD
  rw [HHD.out, show (hd : Int).toNat = hd by omega]
  generalize pAll zs = al at *
  go_enter_defers Tryz.func61, Tryz.ntmps61
  go_wp2_with fail
  refine Calls.mono HC.out ?_
  rintro e1 w1 ⟨rfl, hR1⟩
  have c3 := blk_cell hR1.blk (j := 3) rfl
  have c2 := blk_cell hR1.blk (j := 2) rfl
  have HR1 : Hid _ := hR1
  have HB1 : Hid _ := HB.out.on hR1.bel
  clear hR1 HC HB
  go_wp2_with fail
  refine Calls.mono (must_good _ _ _) ?_
  rintro e2 w2 ⟨rfl, hw2⟩
  obtain rfl := hw2.symm
  clear hw2 c3
  have HW : Hid _ := HR1.out
  have HB4 : Hid _ := HB1.out
  clear c2
  go_wp2_with fail
  refine Calls.mono (datagram_calls _ _ _ b off cap hd al zs _ _ rfl rfl HF.out hm hcap (Nat.lt_of_lt_of_le hb HB0.out.bel.size) (fun j hj => (HB0.out.bel.cell (p := ⟨b, off + j, none⟩) hb).trans (HC0.out j hj)) hs1 HW.out) ?_
  rintro e5 w5 ⟨c5, rfl, hD5, hA5, hb5⟩
  have hB5 := HB0.out.on hb5
  have hsz : (((w.alloc (.cells zeroC.toArray 27)).alloc (.cells #[.int .i64 0] 3)).alloc (.cells #[.int .i64 0] 37)).heap.size = w.heap.size + 3 := by simp
  rw [hsz] at hA5
  obtain ⟨w6, hst6, hB6, hO6⟩ := hB5.sets c5 hD5.lens.len hD5.ones
  have m1 := blk_cell hB6.xb (j := 0) rfl
  have n1 := blk_open hB6.xb 0
  have m2 := blk_cell hB6.yb (j := 0) rfl
  have n2 := blk_open hB6.yb 0
  have hD6 := ((hD5.only hA5 (by omega) hO6).only hA5 (by omega) ((Only.refl (w.heap.size + 1) w6).set 0 (.int .i64 0))).only hA5 (by omega) ((Only.refl (w.heap.size + 2) _).set 0 (.int .i64 0))
  have HB7 : Hid _ := (hB6.setX 0).setY 0
  have HD7 : Hid _ := hD6
  have HST : Hid _ := hst6
  have HA7 : Hid _ := hA5.mono (show w.heap.size ≤ w.heap.size + 3 by omega)
  clear hD5 hD6 hB5 hB6 hO6 hst6 hA5 hb5 hsz HB0 HB1 HB4 HW HR1
  go_wp2_with ((with_reducible show wpList _ _ _ _ _ _); refine arm_store rfl (.tmp 2) (.tmp 18) 27 rfl rfl rfl HST.out ?_)
  refine leaves_cons (f := 105) (args := #[.pointer (some ⟨w.heap.size, 0, none⟩), .pointer (some ⟨w.heap.size + 1, 0, none⟩), .pointer (some ⟨w.heap.size + 2, 0, none⟩)]) (by simp) (by simp [go_sem]) ?_
  refine (catch_idleP _ _ _ _).mono ?_
  rintro e9 u9 w9 ⟨rfl, rfl, hb9⟩
  have h9 := HB7.out.on hb9
  exact ⟨_, resC rfl rfl rfl rfl h9.load h9.loadX h9.loadY, _, rfl, HD7.out.on hb9, HA7.out, h9.bel⟩

end Go.Proofs.YtnjkagopmfenkaaGreat.V4
