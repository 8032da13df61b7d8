/-
  IPv4 datagrams as boxes of 17 cells; regions that draw, by hand; fragments, plainly.
-/
import Derived.Test.YtackllcfnlhkpaaVa4
import Derived.Test.YtackllcfnlhkpaaIp1
namespace Go.Proofs.Ytackllcfnlhkpaa
open Go Go.RowKit
set_option linter.unusedVariables false
set_option linter.unusedSimpArgs false

theorem box_store {ty : TypeId} {n : Nat} {w : World} {R : Nat} {c : List Value} (hs : ∀ w, (Go.sizeOf ty).run Try.prog w = .ok n w) (h : w.heap[R]? = some (.cells c.toArray ty)) (hl : c.length = n) (V : List Value) (hV : V.length = n) (h1 : ∀ v ∈ V, v.oneCell' = true) :
    ∃ w', (Instr.storeAt ty (.pointer (some ⟨R, 0, none⟩)) (.agg V.toArray)).run Try.prog w = .ok () w' ∧ w'.heap[R]? = some (.cells V.toArray ty) ∧ Only R w w' := by
  refine ⟨_, agg_store hs hV h1 (fun j hj => ?_) (fun j => blk_open h j), ?_, Only.sets _ _ _ (Only.refl _ _)⟩
  · rw [Nat.zero_add, blk_cell h (j := j) (v := c[j]'(by omega)) (by simp)]
    rfl
  · rw [blk_sets V 0 c w h, setsL_all _ _ (by omega)]

theorem box_new {ty : TypeId} {n : Nat} (hs : ∀ w, (Go.sizeOf ty).run Try.prog w = .ok n w) (w : World) (c : List Value) (hl : c.length = n) (V : List Value) (hV : V.length = n) (h1 : ∀ v ∈ V, v.oneCell' = true) :
    ∃ w', (Instr.storeAt ty (.pointer (some ⟨w.heap.size, 0, none⟩)) (.agg V.toArray)).run Try.prog (w.alloc (.cells c.toArray ty)) = .ok () w' ∧ w'.heap[w.heap.size]? = some (.cells V.toArray ty) ∧ Below w.heap.size w w' := by
  obtain ⟨w', h, hb, ho⟩ := box_store hs (blk_new w (.cells c.toArray ty)) hl V hV h1
  exact ⟨w', h, hb, ((Below.refl _ w).alloc (Nat.le_refl _) _).trans (ho.below (Nat.le_refl _))⟩

theorem wp_call {P : Program} {o : Oper} {a : Act} {d : Option Nat} {w : World} {K : Act → World → Prop} {Q : Exit → Act → World → Prop} {R : Value → World → Prop} (f : FuncId) (vs : Array Value) (hd : o.dst = d)
    (hrun : (execOp a.eval o).run P w = .ok (.enter f vs) w) (hc : Calls P f vs w fun e w' => ∃ v, e = .returned v ∧ R v w') (hK : ∀ v w2, R v w2 → K (a.put d v) w2) : o.wp P a w K Q := by
  subst hd
  unfold Oper.wp
  rw [hrun]
  refine hc.mono ?_
  rintro e w' ⟨v, rfl, hr⟩
  exact hK v w' hr

theorem ex_loadA {P : Program} {o : Oper} {a : Act} {W : World} (k : Operand) (t : TypeId) {vp v : Value} (hop : o.op = Op.load t k) (hk : a.eval k = vp) (h : (Instr.loadAt t vp).run P W = .ok v W) : (execOp a.eval o).run P W = .ok (.value v) W := by
  simp [execOp, hop, hk, h, Result.andThen]

theorem ex_moveA {P : Program} {o : Oper} {a : Act} {W : World} (p : Operand) (hop : o.op = Op.move p) {v : Value} (hp : a.eval p = v) : (execOp a.eval o).run P W = .ok (.value v) W := by
  generalize a.eval = ev at *
  simp [execOp, hop, hp, go_sem]

theorem wp_storeA {P : Program} {o : Oper} {a : Act} {w w2 : World} {K : Act → World → Prop} {Q : Exit → Act → World → Prop} (p x : Operand) (t : TypeId) (hop : o.op = Op.store t p x) (hd : o.dst = none) {vp vx : Value} (hp : a.eval p = vp) (hx : a.eval x = vx) (hrun : (Instr.storeAt t vp vx).run P w = .ok () w2) (hK : K a w2) : o.wp P a w K Q := by
  have hK' : K (a.put o.dst (.tuple #[])) w2 := by rw [hd]; exact hK
  unfold Oper.wp
  simp [execOp, hop, hp, hx, hrun, Result.andThen]
  exact hK'

theorem wp_allocA {P : Program} {o : Oper} {a : Act} {d : Option Nat} {w : World} {K : Act → World → Prop} {Q : Exit → Act → World → Prop} (t : TypeId) (hop : o.op = Op.alloc t) (hd : o.dst = d) {v : Value} {w2 : World} (hrun : (execOp a.eval o).run P w = .ok (.value v) w2) (hK : K (a.put d v) w2) : o.wp P a w K Q := by
  subst hd
  unfold Oper.wp
  rw [hrun]
  exact hK

theorem ex_loadC {o : Oper} {a : Act} {W : World} (k : Nat) {p : Addr} {x : Int} (hop : o.op = Op.load 3 (.tmp k)) (hk : a.eval (.tmp k) = .pointer (some p)) (hc : W.cell? p = some (.int .i64 x)) :
    (execOp a.eval o).run Try.prog W = .ok (.value (.int .i64 x)) W := by
  generalize a.eval = ev at *
  simp [execOp, hop, hk, go_sem, hc]

theorem region_mid {P : Program} {id : Nat} {ops : Array Oper} {Q : Exit → Act → World → Prop} {a : Act} {w : World} (M : Act → Act → World → Prop) (h : (Code.region id ops true).wp P (fun e a' w' => match e with | .normal => M a a' w' | _ => False) a w) (hM : ∀ a' w', M a a' w' → Q .normal a' w') : (Code.region id ops true).wp P Q a w :=
  wp_mono h (fun e a' w' hm => by cases e <;> first | exact hM a' w' hm | exact hm.elim)

/-- A datagram but for its MF, Off, Options and Body. -/
structure Fd where
  tos : Int
  id : Int
  df : Bool
  ttl : Int
  proto : Int
  s0 : Int
  s1 : Int
  s2 : Int
  s3 : Int
  d0 : Int
  d1 : Int
  d2 : Int
  d3 : Int
def vC (f : Fd) (mf : Bool) (off : Int) (so sb : Value) : List Value :=
  [.int .u8 f.tos, .int .u16 f.id, .bool f.df, .bool mf, .int .i64 off, .int .u8 f.ttl, .int .u8 f.proto, .int .u8 f.s0, .int .u8 f.s1, .int .u8 f.s2, .int .u8 f.s3, .int .u8 f.d0, .int .u8 f.d1, .int .u8 f.d2, .int .u8 f.d3, so, sb]
abbrev VV (f : Fd) (mf : Bool) (off : Int) (so sb : Value) : Value := .agg (vC f mf off so sb).toArray
abbrev BV (f : Fd) (mf : Bool) (off : Int) (so sb : Value) : Obj := .cells (vC f mf off so sb).toArray 27
theorem vC_len (f : Fd) (mf : Bool) (off : Int) (so sb : Value) : (vC f mf off so sb).length = 17 := rfl
theorem vC_one (f : Fd) (mf : Bool) (off : Int) {so sb : Value} (h1 : so.oneCell' = true) (h2 : sb.oneCell' = true) : ∀ v ∈ vC f mf off so sb, v.oneCell' = true := by
  intro v hv
  simp only [vC, List.mem_cons, List.not_mem_nil, or_false] at hv
  rcases hv with rfl | rfl | rfl | rfl | rfl | rfl | rfl | rfl | rfl | rfl | rfl | rfl | rfl | rfl | rfl | rfl | rfl <;> first | rfl | assumption
theorem BS.one {S : Nat → Prop} {w : World} {v : Value} {zs : List Int} (h : BS S w v zs) : v.oneCell' = true := by
  obtain ⟨_, _, a, cap, rfl, _⟩ := h.row
  rfl
section
variable {W : World} {b : Nat} {f : Fd} {mf : Bool} {off : Int} {so sb : Value}
theorem vb_load (h : W.heap[b]? = some (BV f mf off so sb)) : (Instr.loadAt 27 (.pointer (some ⟨b, 0, none⟩))).run Try.prog W = .ok (VV f mf off so sb) W :=
  agg_load Try.isAgg27 Try.sizeOf27 (vC_len ..) (CellsAt.of_blk h)
theorem vb2 (h : W.heap[b]? = some (BV f mf off so sb)) : W.cell? ⟨b, 2, none⟩ = some (.bool f.df) := blk_cell h rfl
theorem vb3 (h : W.heap[b]? = some (BV f mf off so sb)) : W.cell? ⟨b, 3, none⟩ = some (.bool mf) := blk_cell h rfl
theorem vb4 (h : W.heap[b]? = some (BV f mf off so sb)) : W.cell? ⟨b, 4, none⟩ = some (.int .i64 off) := blk_cell h rfl
theorem vb15 (h : W.heap[b]? = some (BV f mf off so sb)) : W.cell? ⟨b, 15, none⟩ = some so := blk_cell h rfl
theorem vb16 (h : W.heap[b]? = some (BV f mf off so sb)) : W.cell? ⟨b, 16, none⟩ = some sb := blk_cell h rfl
theorem vs3 (h : W.heap[b]? = some (BV f mf off so sb)) (x : Bool) : (W.setCell ⟨b, 3, none⟩ (.bool x)).heap[b]? = some (BV f x off so sb) := blk_set h 3 _
theorem vs4 (h : W.heap[b]? = some (BV f mf off so sb)) (x : Int) : (W.setCell ⟨b, 4, none⟩ (.int .i64 x)).heap[b]? = some (BV f mf x so sb) := blk_set h 4 _
theorem vs15 (h : W.heap[b]? = some (BV f mf off so sb)) (x : Value) : (W.setCell ⟨b, 15, none⟩ x).heap[b]? = some (BV f mf off x sb) := blk_set h 15 _
theorem vs16 (h : W.heap[b]? = some (BV f mf off so sb)) (x : Value) : (W.setCell ⟨b, 16, none⟩ x).heap[b]? = some (BV f mf off so x) := blk_set h 16 _
end
def zeroV : List Value := [.int .u8 0, .int .u16 0, .bool false, .bool false, .int .i64 0, .int .u8 0, .int .u8 0, .int .u8 0, .int .u8 0, .int .u8 0, .int .u8 0, .int .u8 0, .int .u8 0, .int .u8 0, .int .u8 0, .slice none 0 0, .slice none 0 0]
theorem vb_new (W : World) (f : Fd) (mf : Bool) (off : Int) {so sb : Value} (h1 : so.oneCell' = true) (h2 : sb.oneCell' = true) :
    ∃ W', (Instr.storeAt 27 (.pointer (some ⟨W.heap.size, 0, none⟩)) (VV f mf off so sb)).run Try.prog (W.alloc (.cells zeroV.toArray 27)) = .ok () W' ∧ W'.heap[W.heap.size]? = some (BV f mf off so sb) ∧ Below W.heap.size W W' ∧ W'.heap.size = W.heap.size + 1 := by
  have hb := blk_new W (.cells zeroV.toArray 27)
  have hs : ∀ j, j < (vC f mf off so sb).length → ((W.alloc (.cells zeroV.toArray 27)).cell? ⟨W.heap.size, 0 + j, none⟩).isSome = true := fun j hj => by
    have hj' : j < zeroV.length := hj
    rw [Nat.zero_add, blk_cell hb (List.getElem?_eq_getElem hj')]
    rfl
  have hO : Only W.heap.size (W.alloc (.cells zeroV.toArray 27)) ((W.alloc (.cells zeroV.toArray 27)).setCells W.heap.size 0 (vC f mf off so sb)) := Only.sets _ _ _ (Only.refl _ _)
  refine ⟨_, agg_store Try.sizeOf27 (vC_len ..) (vC_one f mf off h1 h2) hs (blk_open hb), ?_, ((Below.refl _ W).alloc (Nat.le_refl _) _).trans ((hO.below (Nat.le_refl _)).mono (by simp)), by rw [hO.size]; simp⟩
  rw [blk_sets (vC f mf off so sb) 0 zeroV _ hb, setsL_all zeroV (vC f mf off so sb) rfl]
theorem vb_lens {w : World} {f : Fd} {mf : Bool} {off : Int} {so sb : Value} {o b : List Int} (h1 : RowC w so o) (h2 : RowC w sb b) (hb : -9223372036854775808 ≤ off ∧ off ≤ 9223372036854775807) : Lens (vC f mf off so sb) off o.length b.length := by
  obtain ⟨_, l1, a1, c1, rfl, _⟩ := h1
  obtain ⟨_, l2, a2, c2, rfl, _⟩ := h2
  exact ⟨rfl, rfl, ⟨_, _, rfl⟩, ⟨_, _, rfl⟩, hb, l1, l2⟩

theorem armLI {F : Fence} {n : Nat} {P : Program} {w : World} {ops : Array Oper} {rest : List Oper} {o : Oper} {a : Act} {Q : Exit → Act → World → Prop} (p : Operand) (t : TypeId) (hop : o.op = Op.load t p) (hg : o.guard = none) {vp v : Value} (hp : a.eval p = vp) (hrun : (Instr.loadAt t vp).run P w = .ok v w) (hK : wpListIn F n P ops Q rest (a.put o.dst v) w) : wpListIn F n P ops Q (o :: rest) a w := by
  refine wpListIn_plain hg fun K hK' => ?_
  unfold Oper.wpIn
  refine ⟨by simp [Oper.about, hop], ?_⟩
  rw [Oper.semAt_plain F _ _ (by rw [hop]; intro c hc'; cases hc')]
  simp [execOp, hop, hp, hrun, Result.andThen]
  exact hK' _ _ hK
theorem armSI {F : Fence} {n : Nat} {P : Program} {w w2 : World} {ops : Array Oper} {rest : List Oper} {o : Oper} {a : Act} {Q : Exit → Act → World → Prop} (p x : Operand) (t : TypeId) (hop : o.op = Op.store t p x) (hg : o.guard = none) {vp vx : Value} (hp : a.eval p = vp) (hx : a.eval x = vx) (hrun : (Instr.storeAt t vp vx).run P w = .ok () w2) (hK : wpListIn F n P ops Q rest (a.put o.dst (.tuple #[])) w2) : wpListIn F n P ops Q (o :: rest) a w := by
  refine wpListIn_plain hg fun K hK' => ?_
  unfold Oper.wpIn
  refine ⟨by simp [Oper.about, hop], ?_⟩
  rw [Oper.semAt_plain F _ _ (by rw [hop]; intro c hc'; cases hc')]
  simp [execOp, hop, hp, hx, hrun, Result.andThen]
  exact hK' _ _ hK
theorem ex_slice {P : Program} {o : Oper} {a : Act} {W : World} (t : TypeId) (x : Operand) (lo hi : Option Operand) (hop : o.op = Op.slice t x lo hi none) {vx v : Value} {vlo vhi : Option Value} (hx : a.eval x = vx) (hlo : lo.map a.eval = vlo) (hhi : hi.map a.eval = vhi) (hrun : (Instr.sliceAt t vx vlo vhi none).run P W = .ok v W) : (execOp a.eval o).run P W = .ok (.value v) W := by
  simp [execOp, hop, hx, hlo, hhi, hrun, Result.andThen]
theorem st_bool {W : World} {b j : Nat} {c : List Value} {t : TypeId} (h : W.heap[b]? = some (.cells c.toArray t)) (hj : j < c.length) (x : Bool) : (Instr.storeAt 4 (.pointer (some ⟨b, j, none⟩)) (.bool x)).run Try.prog W = .ok () (W.setCell ⟨b, j, none⟩ (.bool x)) := by
  have h1 : W.cell? ⟨b, j, none⟩ = some (c[j]'hj) := blk_cell h (by simp)
  have h2 := blk_open h j
  simp [Instr.storeAt, go_sem, h1, h2]
theorem st_int {W : World} {b j : Nat} {c : List Value} {t : TypeId} (h : W.heap[b]? = some (.cells c.toArray t)) (hj : j < c.length) (x : Int) : (Instr.storeAt 3 (.pointer (some ⟨b, j, none⟩)) (.int .i64 x)).run Try.prog W = .ok () (W.setCell ⟨b, j, none⟩ (.int .i64 x)) := by
  have h1 : W.cell? ⟨b, j, none⟩ = some (c[j]'hj) := blk_cell h (by simp)
  have h2 := blk_open h j
  simp [Instr.storeAt, go_sem, h1, h2]
theorem st_row {W : World} {b j : Nat} {c : List Value} {t : TypeId} (h : W.heap[b]? = some (.cells c.toArray t)) (hj : j < c.length) {v : Value} (hv : ∃ x n m, v = .slice x n m) : (Instr.storeAt 25 (.pointer (some ⟨b, j, none⟩)) v).run Try.prog W = .ok () (W.setCell ⟨b, j, none⟩ v) := by
  obtain ⟨x, n, m, rfl⟩ := hv
  have h1 : W.cell? ⟨b, j, none⟩ = some (c[j]'hj) := blk_cell h (by simp)
  have h2 := blk_open h j
  simp [Instr.storeAt, go_sem, h1, h2]
theorem BS.slc {S : Nat → Prop} {w : World} {v : Value} {zs : List Int} (h : BS S w v zs) : ∃ x n m, v = .slice x n m := by
  obtain ⟨_, _, a, cap, e, _⟩ := h.row
  exact ⟨_, _, _, e⟩

theorem wp_loadA {P : Program} {o : Oper} {a : Act} {d : Option Nat} {w : World} {K : Act → World → Prop} {Q : Exit → Act → World → Prop} (p : Operand) (t : TypeId) (hop : o.op = Op.load t p) (hd : o.dst = d) {vp v : Value} (hp : a.eval p = vp) (hrun : (Instr.loadAt t vp).run P w = .ok v w) (hK : K (a.put d v) w) : o.wp P a w K Q := by
  subst hd
  unfold Oper.wp
  simp [execOp, hop, hp, hrun, Result.andThen]
  exact hK
theorem ld_int {W : World} {p : Addr} {x : Int} (h : W.cell? p = some (.int .i64 x)) : (Instr.loadAt 3 (.pointer (some p))).run Try.prog W = .ok (.int .i64 x) W := by
  simp [Instr.loadAt, go_sem, h]
theorem ld_row {W : World} {p : Addr} {v : Value} (h : W.cell? p = some v) (hv : ∃ x n m, v = .slice x n m) : (Instr.loadAt 25 (.pointer (some p))).run Try.prog W = .ok v W := by
  obtain ⟨x, n, m, rfl⟩ := hv
  simp [Instr.loadAt, go_sem, h]
theorem ex_div8 {o : Oper} {a : Act} {W : World} (p : Operand) {t : TypeId} (hop : o.op = Op.binOp .quo 3 p (.const (.int .i64 8)) t) {x : Nat} (hp : a.eval p = .int .i64 (x : Nat)) (hx : x ≤ 100000) : (execOp a.eval o).run Try.prog W = .ok (.value (.int .i64 (x / 8 : Nat))) W := by
  have e1 : Int.tdiv (x : Int) 8 = ((x / 8 : Nat) : Int) := rfl
  have e2 := wrapi64 ((x / 8 : Nat) : Int) (by omega)
  have hc : a.eval (.const (.int .i64 8)) = .int .i64 8 := rfl
  generalize a.eval = ev at *
  simp [execOp, hop, hp, hc, go_sem, e1]
  exact wrapi64 _ (by omega)

/-- A fragment, but for what all have alike. -/
structure Fg where
  off : Int
  mf : Bool
  opts : List Int
  body : List Int
def room (mtu no : Nat) : Nat := (mtu - 20 - no) / 8 * 8
theorem room_le (mtu no : Nat) : room mtu no ≤ mtu - 20 - no := by unfold room; omega
theorem room_ge {mtu no : Nat} (h : 68 ≤ mtu) (hn : no ≤ 40) : 8 ≤ room mtu no := by unfold room; omega
theorem room_8 (mtu no : Nat) : room mtu no / 8 * 8 = room mtu no := by unfold room; omega
def frs (mtu : Nat) (later : List Int) (mf : Bool) : Nat → Int → List Int → List Int → List Fg
  | 0, off, o, b => [⟨off, mf, o, b⟩]
  | n + 1, off, o, b => if 20 + o.length + b.length ≤ mtu then [⟨off, mf, o, b⟩] else ⟨off, true, o, b.take (room mtu o.length)⟩ :: frs mtu later mf n (off + (room mtu o.length / 8 : Nat)) later (b.drop (room mtu o.length))
theorem frs_fits {mtu : Nat} {later : List Int} {mf : Bool} {n : Nat} {off : Int} {o b : List Int} (h : 20 + o.length + b.length ≤ mtu) : frs mtu later mf n off o b = [⟨off, mf, o, b⟩] := by
  cases n with
  | zero => rfl
  | succ n => rw [frs, if_pos h]
theorem frs_step {mtu : Nat} {later : List Int} {mf : Bool} {n : Nat} {off : Int} {o b : List Int} (h : ¬ 20 + o.length + b.length ≤ mtu) (hm : 68 ≤ mtu) (ho : o.length ≤ 40) (hn : b.length ≤ n) :
    ∃ n', (b.drop (room mtu o.length)).length ≤ n' ∧ frs mtu later mf n off o b = ⟨off, true, o, b.take (room mtu o.length)⟩ :: frs mtu later mf n' (off + (room mtu o.length / 8 : Nat)) later (b.drop (room mtu o.length)) := by
  cases n with
  | zero => omega
  | succ n =>
    have := room_ge hm ho
    exact ⟨n, by rw [List.length_drop]; omega, by rw [frs, if_neg h]⟩
theorem frs_pos (mtu : Nat) (later : List Int) (mf : Bool) (n : Nat) (off : Int) (o b : List Int) : 0 < (frs mtu later mf n off o b).length := by
  cases n with
  | zero => simp [frs]
  | succ n => rw [frs]; split <;> simp
/-- What is yielded. -/
def FragX (f : Fd) (L : List Fg) (k : Nat) (x : Value) (O : Nat → Prop) (A : World) : Prop :=
  ∃ g so sb, L[k]? = some g ∧ x = VV f g.mf g.off so sb ∧ BS (fun b => ¬ O b) A so g.opts ∧ BS (fun b => ¬ O b) A sb g.body
def bodyLen (W : World) (b : Nat) : Nat := match W.cell? ⟨b, 16, none⟩ with | some v => lenV v | none => 0
theorem bodyLen_of {W : World} {b : Nat} {f : Fd} {mf : Bool} {off : Int} {so sb : Value} (h : W.heap[b]? = some (BV f mf off so sb)) : bodyLen W b = lenV sb := by rw [bodyLen, vb16 h]
theorem BS.same {S : Nat → Prop} {A B : World} {v : Value} {zs : List Int} (h : BS S A v zs) (hs : A.heap.size ≤ B.heap.size) (hO : ∀ b, S b → B.heap[b]? = A.heap[b]?) : BS S B v zs := by
  refine ⟨?_, h.loc⟩
  obtain ⟨hf, hle, a, cap, rfl, hc, hz⟩ := h.row
  refine ⟨hf, hle, a, cap, rfl, hc, ?_⟩
  rcases hz with hz | ⟨b, off, rfl, hlt, hcell⟩
  · exact .inl hz
  · rcases h.loc with hl | ⟨b', off', n, k, e, hS⟩
    · exact .inl hl
    · cases e
      have hb := hO b hS
      exact .inr ⟨b, off, rfl, Nat.lt_of_lt_of_le hlt hs, fun j hj => by rw [← hcell j hj]; simp [World.cell?, hb]⟩

end Go.Proofs.Ytackllcfnlhkpaa
