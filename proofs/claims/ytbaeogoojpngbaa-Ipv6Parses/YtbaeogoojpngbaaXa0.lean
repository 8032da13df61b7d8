/-
  IPv6 datagrams in fragments: what was written for package split, once more.
-/
import Derived.Test.YtbaeogoojpngbaaVa2
import Derived.Test.YtbaeogoojpngbaaPb3
import Derived.OrdersIn
import Derived.Maps.OwnIn
import Derived.Maps.AppendAt
import Derived.Recover
import Derived.WalkLawsBesides
namespace Go.Proofs.Ytbaeogoojpngbaa
open Go Go.RowKit
set_option linter.unusedVariables false
set_option linter.unusedSimpArgs false

abbrev Opts := List (Int × List Int)
def oK (os : Opts) (j : Nat) : Int := (os[j]?.getD (0, [])).1
def oD (os : Opts) (j : Nat) : List Int := (os[j]?.getD (0, [])).2
def oTot (os : Opts) : Nat → Nat
  | 0 => 0
  | k + 1 => oTot os k + (2 + (oD os k).length)
/-- Options that came in or were made. -/
structure OptsAt (n₀ : Nat) (W : World) (v : Value) (os : Opts) : Prop where
  fit : ∀ j, 0 ≤ oK os j ∧ oK os j < 256
  len : os.length ≤ 140737488351232
  val : ∃ a cap, v = .slice a os.length cap ∧ (os.length = 0 ∨ ∃ b off, a = some ⟨b, off, none⟩ ∧ b < n₀ ∧ ∀ j, j < os.length → W.cell? ⟨b, off + j * 2, none⟩ = some (.int .u8 (oK os j)) ∧ ∃ s, W.cell? ⟨b, off + j * 2 + 1, none⟩ = some s ∧ BytesAt n₀ W s (oD os j))
theorem OptsAt.later {A B : World} {v : Value} {os : Opts} (h : OptsAt A.heap.size A v os) (hb : Below A.heap.size A B) : OptsAt B.heap.size B v os := by
  obtain ⟨h1, hl, a, cap, hv, hz⟩ := h
  refine ⟨h1, hl, a, cap, hv, hz.imp id ?_⟩
  rintro ⟨b, off, rfl, hlt, hc⟩
  refine ⟨b, off, rfl, by have := hb.size; omega, fun j hj => ?_⟩
  obtain ⟨c0, s, c1, hs⟩ := hc j hj
  exact ⟨(hb.cell (p := ⟨b, off + j * 2, none⟩) hlt).trans c0, s, (hb.cell (p := ⟨b, off + j * 2 + 1, none⟩) hlt).trans c1, hs.later hb⟩
theorem box_store {ty : TypeId} {n : Nat} {w : World} {R : Nat} {c : List Value} (hs : ∀ w, (Go.sizeOf ty).run Try.prog w = .ok n w) (h : w.heap[R]? = some (.cells c.toArray ty)) (hl : c.length = n) (V : List Value) (hV : V.length = n) (h1 : ∀ v ∈ V, v.oneCell' = true) :
    ∃ w', (Instr.storeAt ty (.pointer (some ⟨R, 0, none⟩)) (.agg V.toArray)).run Try.prog w = .ok () w' ∧ w'.heap[R]? = some (.cells V.toArray ty) ∧ Only R w w' := by
  refine ⟨_, agg_store hs hV h1 (fun j hj => ?_) (fun j => blk_open h j), ?_, Only.sets _ _ _ (Only.refl _ _)⟩
  · rw [Nat.zero_add, blk_cell h (j := j) (v := c[j]'(by omega)) (by simp)]
    rfl
  · rw [blk_sets V 0 c w h, setsL_all _ _ (by omega)]
theorem box_new {ty : TypeId} {n : Nat} (hs : ∀ w, (Go.sizeOf ty).run Try.prog w = .ok n w) (w : World) (c : List Value) (hl : c.length = n) (V : List Value) (hV : V.length = n) (h1 : ∀ v ∈ V, v.oneCell' = true) :
    ∃ w', (Instr.storeAt ty (.pointer (some ⟨w.heap.size, 0, none⟩)) (.agg V.toArray)).run Try.prog (w.alloc (.cells c.toArray ty)) = .ok () w' ∧ w'.heap[w.heap.size]? = some (.cells V.toArray ty) ∧ Below w.heap.size w w' := by
  obtain ⟨w', h, hb, ho⟩ := box_store hs (blk_new w (.cells c.toArray ty)) hl V hV h1
  exact ⟨w', h, hb, ((Below.refl _ w).alloc (Nat.le_refl _) _).trans (ho.below (Nat.le_refl _))⟩
theorem wp_call {P : Program} {o : Oper} {a : Act} {d : Option Nat} {w : World} {K : Act → World → Prop} {Q : Exit → Act → World → Prop} {R : Value → World → Prop} (f : FuncId) (vs : Array Value) (hd : o.dst = d)
    (hrun : (execOp a.eval o).run P w = .ok (.enter f vs) w) (hc : Calls P f vs w fun e w' => ∃ v, e = .returned v ∧ R v w') (hK : ∀ v w2, R v w2 → K (a.put d v) w2) : o.wp P a w K Q := by
  subst hd
  unfold Oper.wp
  rw [hrun]
  refine hc.mono ?_
  rintro e w' ⟨v, rfl, hr⟩
  exact hK v w' hr
theorem ex_loadA {P : Program} {o : Oper} {a : Act} {W : World} (k : Operand) (t : TypeId) {vp v : Value} (hop : o.op = Op.load t k) (hk : a.eval k = vp) (h : (Instr.loadAt t vp).run P W = .ok v W) : (execOp a.eval o).run P W = .ok (.value v) W := by
  simp [execOp, hop, hk, h, Result.andThen]
theorem ex_moveA {P : Program} {o : Oper} {a : Act} {W : World} (p : Operand) (hop : o.op = Op.move p) {v : Value} (hp : a.eval p = v) : (execOp a.eval o).run P W = .ok (.value v) W := by
  generalize a.eval = ev at *
  simp [execOp, hop, hp, go_sem]
theorem wp_storeA {P : Program} {o : Oper} {a : Act} {w w2 : World} {K : Act → World → Prop} {Q : Exit → Act → World → Prop} (p x : Operand) (t : TypeId) (hop : o.op = Op.store t p x) (hd : o.dst = none) {vp vx : Value} (hp : a.eval p = vp) (hx : a.eval x = vx) (hrun : (Instr.storeAt t vp vx).run P w = .ok () w2) (hK : K a w2) : o.wp P a w K Q := by
  have hK' : K (a.put o.dst (.tuple #[])) w2 := by rw [hd]; exact hK
  unfold Oper.wp
  simp [execOp, hop, hp, hx, hrun, Result.andThen]
  exact hK'
theorem wp_allocA {P : Program} {o : Oper} {a : Act} {d : Option Nat} {w : World} {K : Act → World → Prop} {Q : Exit → Act → World → Prop} (t : TypeId) (hop : o.op = Op.alloc t) (hd : o.dst = d) {v : Value} {w2 : World} (hrun : (execOp a.eval o).run P w = .ok (.value v) w2) (hK : K (a.put d v) w2) : o.wp P a w K Q := by
  subst hd
  unfold Oper.wp
  rw [hrun]
  exact hK
theorem ex_loadC {o : Oper} {a : Act} {W : World} (k : Nat) {p : Addr} {x : Int} (hop : o.op = Op.load 3 (.tmp k)) (hk : a.eval (.tmp k) = .pointer (some p)) (hc : W.cell? p = some (.int .i64 x)) :
    (execOp a.eval o).run Try.prog W = .ok (.value (.int .i64 x)) W := by
  generalize a.eval = ev at *
  simp [execOp, hop, hk, go_sem, hc]
theorem region_mid {P : Program} {id : Nat} {ops : Array Oper} {Q : Exit → Act → World → Prop} {a : Act} {w : World} (M : Act → Act → World → Prop) (h : (Code.region id ops true).wp P (fun e a' w' => match e with | .normal => M a a' w' | _ => False) a w) (hM : ∀ a' w', M a a' w' → Q .normal a' w') : (Code.region id ops true).wp P Q a w :=
  wp_mono h (fun e a' w' hm => by cases e <;> first | exact hM a' w' hm | exact hm.elim)
theorem BS.one {S : Nat → Prop} {w : World} {v : Value} {zs : List Int} (h : BS S w v zs) : v.oneCell' = true := by
  obtain ⟨_, _, a, cap, rfl, _⟩ := h.row
  rfl
theorem armLI {F : Fence} {n : Nat} {P : Program} {w : World} {ops : Array Oper} {rest : List Oper} {o : Oper} {a : Act} {Q : Exit → Act → World → Prop} (p : Operand) (t : TypeId) (hop : o.op = Op.load t p) (hg : o.guard = none) {vp v : Value} (hp : a.eval p = vp) (hrun : (Instr.loadAt t vp).run P w = .ok v w) (hK : wpListIn F n P ops Q rest (a.put o.dst v) w) : wpListIn F n P ops Q (o :: rest) a w := by
  refine wpListIn_plain hg fun K hK' => ?_
  unfold Oper.wpIn
  refine ⟨by simp [Oper.about, hop], ?_⟩
  rw [Oper.semAt_plain F _ _ (by rw [hop]; intro c hc'; cases hc')]
  simp [execOp, hop, hp, hrun, Result.andThen]
  exact hK' _ _ hK
theorem armSI {F : Fence} {n : Nat} {P : Program} {w w2 : World} {ops : Array Oper} {rest : List Oper} {o : Oper} {a : Act} {Q : Exit → Act → World → Prop} (p x : Operand) (t : TypeId) (hop : o.op = Op.store t p x) (hg : o.guard = none) {vp vx : Value} (hp : a.eval p = vp) (hx : a.eval x = vx) (hrun : (Instr.storeAt t vp vx).run P w = .ok () w2) (hK : wpListIn F n P ops Q rest (a.put o.dst (.tuple #[])) w2) : wpListIn F n P ops Q (o :: rest) a w := by
  refine wpListIn_plain hg fun K hK' => ?_
  unfold Oper.wpIn
  refine ⟨by simp [Oper.about, hop], ?_⟩
  rw [Oper.semAt_plain F _ _ (by rw [hop]; intro c hc'; cases hc')]
  simp [execOp, hop, hp, hx, hrun, Result.andThen]
  exact hK' _ _ hK
theorem ex_slice {P : Program} {o : Oper} {a : Act} {W : World} (t : TypeId) (x : Operand) (lo hi : Option Operand) (hop : o.op = Op.slice t x lo hi none) {vx v : Value} {vlo vhi : Option Value} (hx : a.eval x = vx) (hlo : lo.map a.eval = vlo) (hhi : hi.map a.eval = vhi) (hrun : (Instr.sliceAt t vx vlo vhi none).run P W = .ok v W) : (execOp a.eval o).run P W = .ok (.value v) W := by
  simp [execOp, hop, hx, hlo, hhi, hrun, Result.andThen]
theorem st_bool {W : World} {b j : Nat} {c : List Value} {t : TypeId} (h : W.heap[b]? = some (.cells c.toArray t)) (hj : j < c.length) (x : Bool) : (Instr.storeAt 4 (.pointer (some ⟨b, j, none⟩)) (.bool x)).run Try.prog W = .ok () (W.setCell ⟨b, j, none⟩ (.bool x)) := by
  have h1 : W.cell? ⟨b, j, none⟩ = some (c[j]'hj) := blk_cell h (by simp)
  have h2 := blk_open h j
  simp [Instr.storeAt, go_sem, h1, h2]
theorem st_int {W : World} {b j : Nat} {c : List Value} {t : TypeId} (h : W.heap[b]? = some (.cells c.toArray t)) (hj : j < c.length) (x : Int) : (Instr.storeAt 3 (.pointer (some ⟨b, j, none⟩)) (.int .i64 x)).run Try.prog W = .ok () (W.setCell ⟨b, j, none⟩ (.int .i64 x)) := by
  have h1 : W.cell? ⟨b, j, none⟩ = some (c[j]'hj) := blk_cell h (by simp)
  have h2 := blk_open h j
  simp [Instr.storeAt, go_sem, h1, h2]
theorem st_row {W : World} {b j : Nat} {c : List Value} {t : TypeId} (h : W.heap[b]? = some (.cells c.toArray t)) (hj : j < c.length) {v : Value} (hv : ∃ x n m, v = .slice x n m) : (Instr.storeAt 26 (.pointer (some ⟨b, j, none⟩)) v).run Try.prog W = .ok () (W.setCell ⟨b, j, none⟩ v) := by
  obtain ⟨x, n, m, rfl⟩ := hv
  have h1 : W.cell? ⟨b, j, none⟩ = some (c[j]'hj) := blk_cell h (by simp)
  have h2 := blk_open h j
  simp [Instr.storeAt, go_sem, h1, h2]
theorem BS.slc {S : Nat → Prop} {w : World} {v : Value} {zs : List Int} (h : BS S w v zs) : ∃ x n m, v = .slice x n m := by
  obtain ⟨_, _, a, cap, e, _⟩ := h.row
  exact ⟨_, _, _, e⟩
theorem wp_loadA {P : Program} {o : Oper} {a : Act} {d : Option Nat} {w : World} {K : Act → World → Prop} {Q : Exit → Act → World → Prop} (p : Operand) (t : TypeId) (hop : o.op = Op.load t p) (hd : o.dst = d) {vp v : Value} (hp : a.eval p = vp) (hrun : (Instr.loadAt t vp).run P w = .ok v w) (hK : K (a.put d v) w) : o.wp P a w K Q := by
  subst hd
  unfold Oper.wp
  simp [execOp, hop, hp, hrun, Result.andThen]
  exact hK
theorem ld_int {W : World} {p : Addr} {x : Int} (h : W.cell? p = some (.int .i64 x)) : (Instr.loadAt 3 (.pointer (some p))).run Try.prog W = .ok (.int .i64 x) W := by
  simp [Instr.loadAt, go_sem, h]
theorem ld_row {W : World} {p : Addr} {v : Value} (h : W.cell? p = some v) (hv : ∃ x n m, v = .slice x n m) : (Instr.loadAt 26 (.pointer (some p))).run Try.prog W = .ok v W := by
  obtain ⟨x, n, m, rfl⟩ := hv
  simp [Instr.loadAt, go_sem, h]
theorem ex_div8 {o : Oper} {a : Act} {W : World} (p : Operand) {t : TypeId} (hop : o.op = Op.binOp .quo 3 p (.const (.int .i64 8)) t) {x : Nat} (hp : a.eval p = .int .i64 (x : Nat)) (hx : x ≤ 100000) : (execOp a.eval o).run Try.prog W = .ok (.value (.int .i64 (x / 8 : Nat))) W := by
  have e1 : Int.tdiv (x : Int) 8 = ((x / 8 : Nat) : Int) := rfl
  have e2 := wrapi64 ((x / 8 : Nat) : Int) (by omega)
  have hc : a.eval (.const (.int .i64 8)) = .int .i64 8 := rfl
  generalize a.eval = ev at *
  simp [execOp, hop, hp, hc, go_sem, e1]
  exact wrapi64 _ (by omega)
theorem BS.same {S : Nat → Prop} {A B : World} {v : Value} {zs : List Int} (h : BS S A v zs) (hs : A.heap.size ≤ B.heap.size) (hO : ∀ b, S b → B.heap[b]? = A.heap[b]?) : BS S B v zs := by
  refine ⟨?_, h.loc⟩
  obtain ⟨hf, hle, a, cap, rfl, hc, hz⟩ := h.row
  refine ⟨hf, hle, a, cap, rfl, hc, ?_⟩
  rcases hz with hz | ⟨b, off, rfl, hlt, hcell⟩
  · exact .inl hz
  · rcases h.loc with hl | ⟨b', off', n, k, e, hS⟩
    · exact .inl hl
    · cases e
      have hb := hO b hS
      exact .inr ⟨b, off, rfl, Nat.lt_of_lt_of_le hlt hs, fun j hj => by rw [← hcell j hj]; simp [World.cell?, hb]⟩


theorem rowsIn_round {l n : Nat} {P : Program} {row : String} {args : Array Value} {w : World} {R : Value → World → Prop} (h : Rows P row args w R) : RowsIn (Fence.wide.inRound l) n P row args w R :=
  fun c cs _ => let ⟨v, w', r, s⟩ := h c cs; ⟨v, w', r, stepsIn_wide.2 s⟩
theorem wp_round {l n : Nat} {P : Program} {o : Oper} {a : Act} {w : World} {K K' : Act → World → Prop} {Q : Exit → Act → World → Prop} (hd : ∀ c, o.op ≠ .defer c) (hK : ∀ a w, K a w → K' a w) (h : o.wp P a w K Q) : o.wpIn (Fence.wide.inRound l) n P a w K' Q := by
  unfold Oper.wp at h
  refine ⟨fun f _ => trivial, ?_⟩
  rw [Oper.semAt_plain _ _ _ hd]
  generalize (execOp a.eval o).run P w = r at *
  cases r with
  | ok x w' =>
    cases x <;> simp only [Oper.uponIn, Oper.upon] at h ⊢
    all_goals first
      | exact hK _ _ h
      | exact h.elim
      | exact ⟨fun h => by simp [Fence.wide] at h, CallsIn.inRound l (callsIn_wide.2 (h.mono fun e w'' he => by cases e <;> first | exact hK _ _ he | exact he))⟩
      | exact ⟨fun h => by simp [Fence.wide] at h, rowsIn_round (h.mono fun v w'' he => hK _ _ he)⟩
  | halt x w' => cases x <;> simp only [Oper.uponIn, Oper.upon] at h ⊢ <;> first | exact h | exact h.elim
theorem wpOps_round {l n : Nat} {P : Program} {ops : Array Oper} {Q : Exit → Act → World → Prop} (hd : ∀ o ∈ ops.toList, ∀ c, o.op ≠ .defer c) (hQ : ¬ LetsOut Q) : ∀ (sched : List Nat) (a : Act) (w : World), wpOps P ops Q sched a w → wpOpsIn (Fence.wide.inRound l) n P ops Q sched a w
  | [], a, w, h => h
  | i :: rest, a, w, h => by
    unfold wpOps at h
    unfold wpOpsIn
    cases ho : ops[i]? with
    | none => rw [ho] at h; exact wpOps_round hd hQ rest a w h
    | some o =>
      rw [ho] at h
      simp only at h ⊢
      have hm : o ∈ ops.toList := by
        have := Array.mem_of_getElem? ho
        simpa using this
      by_cases hw : Region.wanted o (yielded ops a.tmps) = true
      · rw [if_pos hw] at h ⊢
        rcases h with h | h
        · exact wp_round (hd o hm) (fun a w => wpOps_round hd hQ rest a w) h
        · exact absurd h.2 hQ
      · rw [if_neg hw] at h ⊢
        exact ⟨fun _ _ => trivial, wpOps_round hd hQ rest _ w h⟩
/-- A region that draws, in a round, by hand: what is so behind it. -/
theorem region_round {l n : Nat} {P : Program} {id : Nat} {ops : Array Oper} {Q : Exit → Act → World → Prop} {a : Act} {w : World} (M : Act → Act → World → Prop) (S : World → Prop) (hm : P.follows .mixedOrders = true) (hd : ∀ o ∈ ops.toList, ∀ c, o.op ≠ .defer c)
    (h : wpAnyH P .any ops (fun e a' w' => match e with | .normal => M a a' w' | _ => False) S ops.size (Array.replicate ops.size false) a { w with drawn := w.drawn + 1 }) (hM : ∀ a' w', M a a' w' → Q .normal a' w') :
    (Code.region id ops true).wpIn (Fence.wide.inRound l) n P Q a w := by
  have hout : ¬ LetsOut (fun (e : Exit) (a' : Act) (w' : World) => match e with | .normal => M a a' w' | _ => False) := by rintro ⟨_, _, h⟩; exact h
  have key : (Code.region id ops true).wpIn (Fence.wide.inRound l) n P (fun e a' w' => match e with | .normal => M a a' w' | _ => False) a w := by
    refine wpIn_region_draw fun t => wpOps_round hd hout _ _ _ ?_
    simp only [Region.schedule, hm, Bool.true_or, if_true]
    exact wpAny_sound ops.size t _ a _ (wpAny_of_held _ _ _ _ h)
  refine wpIn_mono key ?_
  intro e a' w' hq
  cases e <;> first | exact hM a' w' hq | exact hq.elim

theorem CopyAt.bs {B b k : Nat} {W : World} {zs : List Int} (h : CopyAt B W b k zs) (hf : Fit zs) (hl : zs.length ≤ 140737488351232) : BS (fun c => B ≤ c) W (.slice (some ⟨b, 0, none⟩) zs.length k) zs := by
  refine ⟨⟨hf, hl, _, k, rfl, h.cap, ?_⟩, .inr ⟨b, 0, _, _, rfl, h.lo⟩⟩
  rcases h.own with rfl | ho
  · exact .inl rfl
  · exact .inr ⟨b, 0, rfl, h.lt, fun j hj => by rw [Nat.zero_add]; exact ho.cell j hj⟩
set_option maxHeartbeats 1000000 in
set_option maxRecDepth 100000 in
theorem Clone_bs (v : Value) (zs : List Int) (w : World) (h : RowC w v zs) :
    Calls Try.prog 50 #[v] w fun e w' => ∃ u, e = .returned u ∧ (BS (fun b => w.heap.size ≤ b) w' u zs ∧ Below w.heap.size w w') := by
  obtain ⟨hf, hl, a, cap, rfl, hc, hv⟩ := id h
  cases a with
  | none =>
    have h0 : zs = [] := by
      rcases hv with hv | ⟨b, off, e, _⟩
      · exact List.length_eq_zero_iff.1 hv
      · cases e
    subst h0
    have hB := Below.refl w.heap.size w
    have hN : BS (fun b => w.heap.size ≤ b) w (.slice none 0 0) [] := ⟨.empty w, .inl rfl⟩
    have hq := Go.Lib.run_eql_slice_nil (P := Try.prog) w 26 5 none 0 cap 0 0 Try.underlying26
    clear h hf hl hv hc
    go_enter Try.func50, Try.ntmps50
    go_wp2
    go_ret
    exact ⟨_, rfl, hN, hB⟩
  | some x =>
    have hB0 := (Below.refl w.heap.size w).alloc (Nat.le_refl _) (.cells #[] 5)
    obtain ⟨b2, k2, w2, hrun, hb2, hcp⟩ := copy_run h.bytes hB0 (Nat.le_refl w.heap.size) (by simp) 26
    have hbl := hB0.trans (hb2.mono hB0.size)
    have hbs := hcp.bs hf hl
    have H0 : Hid _ := hrun
    have HBS : Hid _ := hbs
    have hq := Go.Lib.run_eql_slice_nil (P := Try.prog) w 26 5 (some x) zs.length cap 0 0 Try.underlying26
    clear h hf hl hv hrun hb2 hB0 hc hcp hbs
    go_enter Try.func50, Try.ntmps50
    go_wp2_with (at_builtin; refine wpList_append_run rfl _ _ _ _ rfl rfl rfl H0.out ?_; clear H0)
    go_ret
    exact ⟨_, rfl, HBS.out, hbl⟩
theorem own_same {w w' : World} {base size n : Nat} {e : TypeId} {v : Value} {xs : List Value} (h : w.ownsRow base e size v n xs) (hb : ∀ b, v.ownBlock = some b → w'.heap[b]? = w.heap[b]?) : w'.ownsRow base e size v n xs := by
  refine ⟨h.1, ?_⟩
  rcases h.2 with h2 | ⟨g, cap, cur, rfl, h1, h2, h3⟩
  · exact .inl h2
  · exact .inr ⟨g, cap, cur, rfl, h1, (hb g rfl).trans h2, h3⟩
theorem own_lt {w : World} {base size n : Nat} {e : TypeId} {v : Value} {xs : List Value} (h : w.ownsRow base e size v n xs) {b : Nat} (hb : v.ownBlock = some b) : base ≤ b ∧ b < w.heap.size := by
  rcases h.2 with ⟨rfl, _⟩ | ⟨g, cap, cur, rfl, h1, h2, h3⟩
  · simp [Value.ownBlock] at hb
  · simp [Value.ownBlock] at hb
    subst hb
    exact ⟨h1, (Array.getElem?_eq_some_iff.1 h2).1⟩
theorem drop_at {α : Type} {L : List α} {k : Nat} {x : α} {r : List α} (h : L.drop k = x :: r) : L[k]? = some x ∧ L.drop (k + 1) = r ∧ k < L.length := by
  have h1 : (L.drop k)[0]? = some x := by rw [h]; rfl
  rw [List.getElem?_drop, Nat.add_zero] at h1
  refine ⟨h1, ?_, (List.getElem?_eq_some_iff.1 h1).1⟩
  rw [← List.drop_drop, h]
  rfl
/-- A region that begins with a recover, and holds no other. -/
theorem wpS_region_rec {P : Program} {Q : Exit → Act → List Frame → World → Prop} {a : Act} {cs cs' : List Frame} {w : World} {id : Nat} {o : Oper} {l : List Oper} {v : Value}
    (hw : Region.wanted o (yielded (o :: l).toArray a.tmps) = true) (hop : (execOp a.eval o).run P w = .ok .recover w) (hrec : (recoverD cs).getD (.nilIface, cs) = (v, cs'))
    (h : wpList P (o :: l).toArray (fun e a' w' => Q e a' cs' w') l (a.put o.dst v) w) : (Code.region id (o :: l).toArray false).wpS P Q a cs w := by
  intro b k hb hr
  have ho : ((o :: l).toArray)[0]? = some o := by simp
  have hg := stepG_op (P := P) (b := b) (a := a) (k := k) (cs := cs) (w := w) (rest := List.range' 1 l.length) ho hw
  have hfin : ∀ v, (b.at a (.inRegion (o :: l).toArray (0 :: List.range' 1 l.length) :: k)).finish v = b.at (a.put o.dst v) (.inRegion (o :: l).toArray (List.range' 1 l.length) :: k) := by
    intro v; rw [Frame.finish_at, ho]; rfl
  have hk : (b.at a (.inRegion (o :: l).toArray (0 :: List.range' 1 l.length) :: k)).kind = .deferred := hb
  have htr := tryRecover_deferred hk cs
  rw [← wpOps_eq_wpList l 1 (fun j => by rw [Nat.add_comm]; simp)] at h
  obtain ⟨e, a', w', hq, harr⟩ := wp_ops _ _ _ h b k cs'
  refine ⟨e, a', cs', w', hq, .of_steps (.head (step_region) (.one (step_lone_go ?_))) harr⟩
  have hrg : List.range (o :: l).toArray.size = 0 :: List.range' 1 l.length := by
    rw [List.range_eq_range']
    simp [List.range'_succ]
  rw [hrg, hg, ← hfin]
  simp only [Frame.at] at htr ⊢
  cases hc : recoverD cs with
  | none =>
    rw [hc] at hrec htr
    simp only [Option.getD_none, Prod.mk.injEq] at hrec
    obtain ⟨rfl, rfl⟩ := hrec
    simp [stepG.apply, hop, htr]
  | some p =>
    rw [hc] at hrec htr
    simp only [Option.getD_some] at hrec
    subst hrec
    simp [stepG.apply, hop, htr]
theorem Only.putObj {A : World} {l : Nat} (o : Obj) : Only l A (A.putObj l o) := ⟨rfl, rfl, rfl, by simp, fun k hk => World.putObj_heap_other hk⟩

end Go.Proofs.Ytbaeogoojpngbaa
