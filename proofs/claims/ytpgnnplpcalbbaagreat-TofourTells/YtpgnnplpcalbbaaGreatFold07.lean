/-
  IPv6 datagrams in fragments: what was written for package split, once more.
  IPv6 datagrams in memory; Check and Size of package ipv6.
  Check and Size of package ipv6.
-/
import Derived.Test.YtpgnnplpcalbbaaGreatFold06
import Derived.Test.YtpgnnplpcalbbaaGreatFold00
import Derived.OrdersIn
import Derived.Maps.OwnIn
import Derived.Maps.AppendAt
import Derived.Recover
import Derived.WalkLawsBesides
set_option linter.unusedVariables false
set_option linter.unusedSimpArgs false
namespace Go.Proofs.YtpgnnplpcalbbaaGreat.V6
open Go Go.RowKit
abbrev Opts := List (Int × List Int)
def oK (os : Opts) (j : Nat) : Int := (os[j]?.getD (0, [])).1
def oD (os : Opts) (j : Nat) : List Int := (os[j]?.getD (0, [])).2
def oTot (os : Opts) : Nat → Nat
  | 0 => 0
  | k + 1 => oTot os k + (2 + (oD os k).length)
/-- Options that came in or were made. -/
structure OptsAt (n₀ : Nat) (W : World) (v : Value) (os : Opts) : Prop where
  fit : ∀ j, 0 ≤ oK os j ∧ oK os j < 256
  len : os.length ≤ 140737488351232
  val : ∃ a cap, v = .slice a os.length cap ∧ (os.length = 0 ∨ ∃ b off, a = some ⟨b, off, none⟩ ∧ b < n₀ ∧ ∀ j, j < os.length → W.cell? ⟨b, off + j * 2, none⟩ = some (.int .u8 (oK os j)) ∧ ∃ s, W.cell? ⟨b, off + j * 2 + 1, none⟩ = some s ∧ BytesAt n₀ W s (oD os j))
theorem OptsAt.later {A B : World} {v : Value} {os : Opts} (h : OptsAt A.heap.size A v os) (hb : Below A.heap.size A B) : OptsAt B.heap.size B v os := by
  obtain ⟨h1, hl, a, cap, hv, hz⟩ := h
  refine ⟨h1, hl, a, cap, hv, hz.imp id ?_⟩
  rintro ⟨b, off, rfl, hlt, hc⟩
  refine ⟨b, off, rfl, by have := hb.size; omega, fun j hj => ?_⟩
  obtain ⟨c0, s, c1, hs⟩ := hc j hj
  exact ⟨(hb.cell (p := ⟨b, off + j * 2, none⟩) hlt).trans c0, s, (hb.cell (p := ⟨b, off + j * 2 + 1, none⟩) hlt).trans c1, hs.later hb⟩
theorem box_store {ty : TypeId} {n : Nat} {w : World} {R : Nat} {c : List Value} (hs : ∀ w, (Go.sizeOf ty).run Tryz.prog w = .ok n w) (h : w.heap[R]? = some (.cells c.toArray ty)) (hl : c.length = n) (V : List Value) (hV : V.length = n) (h1 : ∀ v ∈ V, v.oneCell' = true) :
    ∃ w', (Instr.storeAt ty (.pointer (some ⟨R, 0, none⟩)) (.agg V.toArray)).run Tryz.prog w = .ok () w' ∧ w'.heap[R]? = some (.cells V.toArray ty) ∧ Only R w w' := by
  refine ⟨_, agg_store hs hV h1 (fun j hj => ?_) (fun j => blk_open h j), ?_, Only.sets _ _ _ (Only.refl _ _)⟩
  · rw [Nat.zero_add, blk_cell h (j := j) (v := c[j]'(by omega)) (by simp)]
    rfl
  · rw [blk_sets V 0 c w h, setsL_all _ _ (by omega)]
theorem box_new {ty : TypeId} {n : Nat} (hs : ∀ w, (Go.sizeOf ty).run Tryz.prog w = .ok n w) (w : World) (c : List Value) (hl : c.length = n) (V : List Value) (hV : V.length = n) (h1 : ∀ v ∈ V, v.oneCell' = true) :
    ∃ w', (Instr.storeAt ty (.pointer (some ⟨w.heap.size, 0, none⟩)) (.agg V.toArray)).run Tryz.prog (w.alloc (.cells c.toArray ty)) = .ok () w' ∧ w'.heap[w.heap.size]? = some (.cells V.toArray ty) ∧ Below w.heap.size w w' := by
  obtain ⟨w', h, hb, ho⟩ := box_store hs (blk_new w (.cells c.toArray ty)) hl V hV h1
  exact ⟨w', h, hb, ((Below.refl _ w).alloc (Nat.le_refl _) _).trans (ho.below (Nat.le_refl _))⟩
theorem wp_call {P : Program} {o : Oper} {a : Act} {d : Option Nat} {w : World} {K : Act → World → Prop} {Q : Exit → Act → World → Prop} {R : Value → World → Prop} (f : FuncId) (vs : Array Value) (hd : o.dst = d)
    (hrun : (execOp a.eval o).run P w = .ok (.enter f vs) w) (hc : Calls P f vs w fun e w' => ∃ v, e = .returned v ∧ R v w') (hK : ∀ v w2, R v w2 → K (a.put d v) w2) : o.wp P a w K Q := by
  subst hd
  unfold Oper.wp
  rw [hrun]
  refine hc.mono ?_
  rintro e w' ⟨v, rfl, hr⟩
  exact hK v w' hr
theorem ex_loadA {P : Program} {o : Oper} {a : Act} {W : World} (k : Operand) (t : TypeId) {vp v : Value} (hop : o.op = Op.load t k) (hk : a.eval k = vp) (h : (Instr.loadAt t vp).run P W = .ok v W) : (execOp a.eval o).run P W = .ok (.value v) W := by
  simp [execOp, hop, hk, h, Result.andThen]
theorem ex_moveA {P : Program} {o : Oper} {a : Act} {W : World} (p : Operand) (hop : o.op = Op.move p) {v : Value} (hp : a.eval p = v) : (execOp a.eval o).run P W = .ok (.value v) W := by
  generalize a.eval = ev at *
  simp [execOp, hop, hp, go_sem]
theorem wp_storeA {P : Program} {o : Oper} {a : Act} {w w2 : World} {K : Act → World → Prop} {Q : Exit → Act → World → Prop} (p x : Operand) (t : TypeId) (hop : o.op = Op.store t p x) (hd : o.dst = none) {vp vx : Value} (hp : a.eval p = vp) (hx : a.eval x = vx) (hrun : (Instr.storeAt t vp vx).run P w = .ok () w2) (hK : K a w2) : o.wp P a w K Q := by
  have hK' : K (a.put o.dst (.tuple #[])) w2 := by rw [hd]; exact hK
  unfold Oper.wp
  simp [execOp, hop, hp, hx, hrun, Result.andThen]
  exact hK'
theorem wp_allocA {P : Program} {o : Oper} {a : Act} {d : Option Nat} {w : World} {K : Act → World → Prop} {Q : Exit → Act → World → Prop} (t : TypeId) (hop : o.op = Op.alloc t) (hd : o.dst = d) {v : Value} {w2 : World} (hrun : (execOp a.eval o).run P w = .ok (.value v) w2) (hK : K (a.put d v) w2) : o.wp P a w K Q := by
  subst hd
  unfold Oper.wp
  rw [hrun]
  exact hK
theorem ex_loadC {o : Oper} {a : Act} {W : World} (k : Nat) {p : Addr} {x : Int} (hop : o.op = Op.load 3 (.tmp k)) (hk : a.eval (.tmp k) = .pointer (some p)) (hc : W.cell? p = some (.int .i64 x)) :
    (execOp a.eval o).run Tryz.prog W = .ok (.value (.int .i64 x)) W := by
  generalize a.eval = ev at *
  simp [execOp, hop, hk, go_sem, hc]
theorem region_mid {P : Program} {id : Nat} {ops : Array Oper} {Q : Exit → Act → World → Prop} {a : Act} {w : World} (M : Act → Act → World → Prop) (h : (Code.region id ops true).wp P (fun e a' w' => match e with | .normal => M a a' w' | _ => False) a w) (hM : ∀ a' w', M a a' w' → Q .normal a' w') : (Code.region id ops true).wp P Q a w :=
  wp_mono h (fun e a' w' hm => by cases e <;> first | exact hM a' w' hm | exact hm.elim)
theorem _root_.Go.Proofs.YtpgnnplpcalbbaaGreat.BS.one {S : Nat → Prop} {w : World} {v : Value} {zs : List Int} (h : BS S w v zs) : v.oneCell' = true := by
  obtain ⟨_, _, a, cap, rfl, _⟩ := h.row
  rfl
theorem armLI {F : Fence} {n : Nat} {P : Program} {w : World} {ops : Array Oper} {rest : List Oper} {o : Oper} {a : Act} {Q : Exit → Act → World → Prop} (p : Operand) (t : TypeId) (hop : o.op = Op.load t p) (hg : o.guard = none) {vp v : Value} (hp : a.eval p = vp) (hrun : (Instr.loadAt t vp).run P w = .ok v w) (hK : wpListIn F n P ops Q rest (a.put o.dst v) w) : wpListIn F n P ops Q (o :: rest) a w := by
  refine wpListIn_plain hg fun K hK' => ?_
  unfold Oper.wpIn
  refine ⟨by simp [Oper.about, hop], ?_⟩
  rw [Oper.semAt_plain F _ _ (by rw [hop]; intro c hc'; cases hc')]
  simp [execOp, hop, hp, hrun, Result.andThen]
  exact hK' _ _ hK
theorem armSI {F : Fence} {n : Nat} {P : Program} {w w2 : World} {ops : Array Oper} {rest : List Oper} {o : Oper} {a : Act} {Q : Exit → Act → World → Prop} (p x : Operand) (t : TypeId) (hop : o.op = Op.store t p x) (hg : o.guard = none) {vp vx : Value} (hp : a.eval p = vp) (hx : a.eval x = vx) (hrun : (Instr.storeAt t vp vx).run P w = .ok () w2) (hK : wpListIn F n P ops Q rest (a.put o.dst (.tuple #[])) w2) : wpListIn F n P ops Q (o :: rest) a w := by
  refine wpListIn_plain hg fun K hK' => ?_
  unfold Oper.wpIn
  refine ⟨by simp [Oper.about, hop], ?_⟩
  rw [Oper.semAt_plain F _ _ (by rw [hop]; intro c hc'; cases hc')]
  simp [execOp, hop, hp, hx, hrun, Result.andThen]
  exact hK' _ _ hK
theorem ex_slice {P : Program} {o : Oper} {a : Act} {W : World} (t : TypeId) (x : Operand) (lo hi : Option Operand) (hop : o.op = Op.slice t x lo hi none) {vx v : Value} {vlo vhi : Option Value} (hx : a.eval x = vx) (hlo : lo.map a.eval = vlo) (hhi : hi.map a.eval = vhi) (hrun : (Instr.sliceAt t vx vlo vhi none).run P W = .ok v W) : (execOp a.eval o).run P W = .ok (.value v) W := by
  simp [execOp, hop, hx, hlo, hhi, hrun, Result.andThen]
theorem st_bool {W : World} {b j : Nat} {c : List Value} {t : TypeId} (h : W.heap[b]? = some (.cells c.toArray t)) (hj : j < c.length) (x : Bool) : (Instr.storeAt 4 (.pointer (some ⟨b, j, none⟩)) (.bool x)).run Tryz.prog W = .ok () (W.setCell ⟨b, j, none⟩ (.bool x)) := by
  have h1 : W.cell? ⟨b, j, none⟩ = some (c[j]'hj) := blk_cell h (by simp)
  have h2 := blk_open h j
  simp [Instr.storeAt, go_sem, h1, h2]
theorem st_int {W : World} {b j : Nat} {c : List Value} {t : TypeId} (h : W.heap[b]? = some (.cells c.toArray t)) (hj : j < c.length) (x : Int) : (Instr.storeAt 3 (.pointer (some ⟨b, j, none⟩)) (.int .i64 x)).run Tryz.prog W = .ok () (W.setCell ⟨b, j, none⟩ (.int .i64 x)) := by
  have h1 : W.cell? ⟨b, j, none⟩ = some (c[j]'hj) := blk_cell h (by simp)
  have h2 := blk_open h j
  simp [Instr.storeAt, go_sem, h1, h2]
theorem st_row {W : World} {b j : Nat} {c : List Value} {t : TypeId} (h : W.heap[b]? = some (.cells c.toArray t)) (hj : j < c.length) {v : Value} (hv : ∃ x n m, v = .slice x n m) : (Instr.storeAt 25 (.pointer (some ⟨b, j, none⟩)) v).run Tryz.prog W = .ok () (W.setCell ⟨b, j, none⟩ v) := by
  obtain ⟨x, n, m, rfl⟩ := hv
  have h1 : W.cell? ⟨b, j, none⟩ = some (c[j]'hj) := blk_cell h (by simp)
  have h2 := blk_open h j
  simp [Instr.storeAt, go_sem, h1, h2]
theorem _root_.Go.Proofs.YtpgnnplpcalbbaaGreat.BS.slc {S : Nat → Prop} {w : World} {v : Value} {zs : List Int} (h : BS S w v zs) : ∃ x n m, v = .slice x n m := by
  obtain ⟨_, _, a, cap, e, _⟩ := h.row
  exact ⟨_, _, _, e⟩
theorem wp_loadA {P : Program} {o : Oper} {a : Act} {d : Option Nat} {w : World} {K : Act → World → Prop} {Q : Exit → Act → World → Prop} (p : Operand) (t : TypeId) (hop : o.op = Op.load t p) (hd : o.dst = d) {vp v : Value} (hp : a.eval p = vp) (hrun : (Instr.loadAt t vp).run P w = .ok v w) (hK : K (a.put d v) w) : o.wp P a w K Q := by
  subst hd
  unfold Oper.wp
  simp [execOp, hop, hp, hrun, Result.andThen]
  exact hK
theorem ld_int {W : World} {p : Addr} {x : Int} (h : W.cell? p = some (.int .i64 x)) : (Instr.loadAt 3 (.pointer (some p))).run Tryz.prog W = .ok (.int .i64 x) W := by
  simp [Instr.loadAt, go_sem, h]
theorem ld_row {W : World} {p : Addr} {v : Value} (h : W.cell? p = some v) (hv : ∃ x n m, v = .slice x n m) : (Instr.loadAt 25 (.pointer (some p))).run Tryz.prog W = .ok v W := by
  obtain ⟨x, n, m, rfl⟩ := hv
  simp [Instr.loadAt, go_sem, h]
theorem ex_div8 {o : Oper} {a : Act} {W : World} (p : Operand) {t : TypeId} (hop : o.op = Op.binOp .quo 3 p (.const (.int .i64 8)) t) {x : Nat} (hp : a.eval p = .int .i64 (x : Nat)) (hx : x ≤ 100000) : (execOp a.eval o).run Tryz.prog W = .ok (.value (.int .i64 (x / 8 : Nat))) W := by
  have e1 : Int.tdiv (x : Int) 8 = ((x / 8 : Nat) : Int) := rfl
  have e2 := wrapi64 ((x / 8 : Nat) : Int) (by omega)
  have hc : a.eval (.const (.int .i64 8)) = .int .i64 8 := rfl
  generalize a.eval = ev at *
  simp [execOp, hop, hp, hc, go_sem, e1]
  exact wrapi64 _ (by omega)
theorem _root_.Go.Proofs.YtpgnnplpcalbbaaGreat.BS.same {S : Nat → Prop} {A B : World} {v : Value} {zs : List Int} (h : BS S A v zs) (hs : A.heap.size ≤ B.heap.size) (hO : ∀ b, S b → B.heap[b]? = A.heap[b]?) : BS S B v zs := by
  refine ⟨?_, h.loc⟩
  obtain ⟨hf, hle, a, cap, rfl, hc, hz⟩ := h.row
  refine ⟨hf, hle, a, cap, rfl, hc, ?_⟩
  rcases hz with hz | ⟨b, off, rfl, hlt, hcell⟩
  · exact .inl hz
  · rcases h.loc with hl | ⟨b', off', n, k, e, hS⟩
    · exact .inl hl
    · cases e
      have hb := hO b hS
      exact .inr ⟨b, off, rfl, Nat.lt_of_lt_of_le hlt hs, fun j hj => by rw [← hcell j hj]; simp [World.cell?, hb]⟩
theorem rowsIn_round {l n : Nat} {P : Program} {row : String} {args : Array Value} {w : World} {R : Value → World → Prop} (h : Rows P row args w R) : RowsIn (Fence.wide.inRound l) n P row args w R :=
  fun c cs _ => let ⟨v, w', r, s⟩ := h c cs; ⟨v, w', r, stepsIn_wide.2 s⟩
theorem wp_round {l n : Nat} {P : Program} {o : Oper} {a : Act} {w : World} {K K' : Act → World → Prop} {Q : Exit → Act → World → Prop} (hd : ∀ c, o.op ≠ .defer c) (hK : ∀ a w, K a w → K' a w) (h : o.wp P a w K Q) : o.wpIn (Fence.wide.inRound l) n P a w K' Q := by
  unfold Oper.wp at h
  refine ⟨fun f _ => trivial, ?_⟩
  rw [Oper.semAt_plain _ _ _ hd]
  generalize (execOp a.eval o).run P w = r at *
  cases r with
  | ok x w' =>
    cases x <;> simp only [Oper.uponIn, Oper.upon] at h ⊢
    all_goals first
      | exact hK _ _ h
      | exact h.elim
      | exact ⟨fun h => by simp [Fence.wide] at h, CallsIn.inRound l (callsIn_wide.2 (h.mono fun e w'' he => by cases e <;> first | exact hK _ _ he | exact he))⟩
      | exact ⟨fun h => by simp [Fence.wide] at h, rowsIn_round (h.mono fun v w'' he => hK _ _ he)⟩
  | halt x w' => cases x <;> simp only [Oper.uponIn, Oper.upon] at h ⊢ <;> first | exact h | exact h.elim
theorem wpOps_round {l n : Nat} {P : Program} {ops : Array Oper} {Q : Exit → Act → World → Prop} (hd : ∀ o ∈ ops.toList, ∀ c, o.op ≠ .defer c) (hQ : ¬ LetsOut Q) : ∀ (sched : List Nat) (a : Act) (w : World), wpOps P ops Q sched a w → wpOpsIn (Fence.wide.inRound l) n P ops Q sched a w
  | [], a, w, h => h
  | i :: rest, a, w, h => by
    unfold wpOps at h
    unfold wpOpsIn
    cases ho : ops[i]? with
    | none => rw [ho] at h; exact wpOps_round hd hQ rest a w h
    | some o =>
      rw [ho] at h
      simp only at h ⊢
      have hm : o ∈ ops.toList := by
        have := Array.mem_of_getElem? ho
        simpa using this
      by_cases hw : Region.wanted o (yielded ops a.tmps) = true
      · rw [if_pos hw] at h ⊢
        rcases h with h | h
        · exact wp_round (hd o hm) (fun a w => wpOps_round hd hQ rest a w) h
        · exact absurd h.2 hQ
      · rw [if_neg hw] at h ⊢
        exact ⟨fun _ _ => trivial, wpOps_round hd hQ rest _ w h⟩
/-- A region that draws, in a round, by hand: what is so behind it. -/
theorem region_round {l n : Nat} {P : Program} {id : Nat} {ops : Array Oper} {Q : Exit → Act → World → Prop} {a : Act} {w : World} (M : Act → Act → World → Prop) (S : World → Prop) (hm : P.follows .mixedOrders = true) (hd : ∀ o ∈ ops.toList, ∀ c, o.op ≠ .defer c)
    (h : wpAnyH P .any ops (fun e a' w' => match e with | .normal => M a a' w' | _ => False) S ops.size (Array.replicate ops.size false) a { w with drawn := w.drawn + 1 }) (hM : ∀ a' w', M a a' w' → Q .normal a' w') :
    (Code.region id ops true).wpIn (Fence.wide.inRound l) n P Q a w := by
  have hout : ¬ LetsOut (fun (e : Exit) (a' : Act) (w' : World) => match e with | .normal => M a a' w' | _ => False) := by rintro ⟨_, _, h⟩; exact h
  have key : (Code.region id ops true).wpIn (Fence.wide.inRound l) n P (fun e a' w' => match e with | .normal => M a a' w' | _ => False) a w := by
    refine wpIn_region_draw fun t => wpOps_round hd hout _ _ _ ?_
    simp only [Region.schedule, hm, Bool.true_or, if_true]
    exact wpAny_sound ops.size t _ a _ (wpAny_of_held _ _ _ _ h)
  refine wpIn_mono key ?_
  intro e a' w' hq
  cases e <;> first | exact hM a' w' hq | exact hq.elim
theorem _root_.Go.Proofs.YtpgnnplpcalbbaaGreat.CopyAt.bs {B b k : Nat} {W : World} {zs : List Int} (h : CopyAt B W b k zs) (hf : Fit zs) (hl : zs.length ≤ 140737488351232) : BS (fun c => B ≤ c) W (.slice (some ⟨b, 0, none⟩) zs.length k) zs := by
  refine ⟨⟨hf, hl, _, k, rfl, h.cap, ?_⟩, .inr ⟨b, 0, _, _, rfl, h.lo⟩⟩
  rcases h.own with rfl | ho
  · exact .inl rfl
  · exact .inr ⟨b, 0, rfl, h.lt, fun j hj => by rw [Nat.zero_add]; exact ho.cell j hj⟩
set_option maxHeartbeats 1000000 in
set_option maxRecDepth 100000 in
theorem Clone_bs (v : Value) (zs : List Int) (w : World) (h : RowC w v zs) :
    Calls Tryz.prog 129 #[v] w fun e w' => ∃ u, e = .returned u ∧ (BS (fun b => w.heap.size ≤ b) w' u zs ∧ Below w.heap.size w w') := by
  obtain ⟨hf, hl, a, cap, rfl, hc, hv⟩ := id h
  cases a with
  | none =>
    have h0 : zs = [] := by
      rcases hv with hv | ⟨b, off, e, _⟩
      · exact List.length_eq_zero_iff.1 hv
      · cases e
    subst h0
    have hB := Below.refl w.heap.size w
    have hN : BS (fun b => w.heap.size ≤ b) w (.slice none 0 0) [] := ⟨.empty w, .inl rfl⟩
    have hq := Go.Lib.run_eql_slice_nil (P := Tryz.prog) w 25 5 none 0 cap 0 0 Tryz.underlying25
    clear h hf hl hv hc
    go_enter Tryz.func129, Tryz.ntmps129
    go_wp2
    go_ret
    exact ⟨_, rfl, hN, hB⟩
  | some x =>
    have hB0 := (Below.refl w.heap.size w).alloc (Nat.le_refl _) (.cells #[] 5)
    obtain ⟨b2, k2, w2, hrun, hb2, hcp⟩ := copy_run h.bytes hB0 (Nat.le_refl w.heap.size) (by simp) 25
    have hbl := hB0.trans (hb2.mono hB0.size)
    have hbs := hcp.bs hf hl
    have H0 : Hid _ := hrun
    have HBS : Hid _ := hbs
    have hq := Go.Lib.run_eql_slice_nil (P := Tryz.prog) w 25 5 (some x) zs.length cap 0 0 Tryz.underlying25
    clear h hf hl hv hrun hb2 hB0 hc hcp hbs
    go_enter Tryz.func129, Tryz.ntmps129
    go_wp2_with (at_builtin; refine wpList_append_run rfl _ _ _ _ rfl rfl rfl H0.out ?_; clear H0)
    go_ret
    exact ⟨_, rfl, HBS.out, hbl⟩
theorem own_same {w w' : World} {base size n : Nat} {e : TypeId} {v : Value} {xs : List Value} (h : w.ownsRow base e size v n xs) (hb : ∀ b, v.ownBlock = some b → w'.heap[b]? = w.heap[b]?) : w'.ownsRow base e size v n xs := by
  refine ⟨h.1, ?_⟩
  rcases h.2 with h2 | ⟨g, cap, cur, rfl, h1, h2, h3⟩
  · exact .inl h2
  · exact .inr ⟨g, cap, cur, rfl, h1, (hb g rfl).trans h2, h3⟩
theorem own_lt {w : World} {base size n : Nat} {e : TypeId} {v : Value} {xs : List Value} (h : w.ownsRow base e size v n xs) {b : Nat} (hb : v.ownBlock = some b) : base ≤ b ∧ b < w.heap.size := by
  rcases h.2 with ⟨rfl, _⟩ | ⟨g, cap, cur, rfl, h1, h2, h3⟩
  · simp [Value.ownBlock] at hb
  · simp [Value.ownBlock] at hb
    subst hb
    exact ⟨h1, (Array.getElem?_eq_some_iff.1 h2).1⟩
theorem drop_at {α : Type} {L : List α} {k : Nat} {x : α} {r : List α} (h : L.drop k = x :: r) : L[k]? = some x ∧ L.drop (k + 1) = r ∧ k < L.length := by
  have h1 : (L.drop k)[0]? = some x := by rw [h]; rfl
  rw [List.getElem?_drop, Nat.add_zero] at h1
  refine ⟨h1, ?_, (List.getElem?_eq_some_iff.1 h1).1⟩
  rw [← List.drop_drop, h]
  rfl
/-- A region that begins with a recover, and holds no other. -/
theorem wpS_region_rec {P : Program} {Q : Exit → Act → List Frame → World → Prop} {a : Act} {cs cs' : List Frame} {w : World} {id : Nat} {o : Oper} {l : List Oper} {v : Value}
    (hw : Region.wanted o (yielded (o :: l).toArray a.tmps) = true) (hop : (execOp a.eval o).run P w = .ok .recover w) (hrec : (recoverD cs).getD (.nilIface, cs) = (v, cs'))
    (h : wpList P (o :: l).toArray (fun e a' w' => Q e a' cs' w') l (a.put o.dst v) w) : (Code.region id (o :: l).toArray false).wpS P Q a cs w := by
  intro b k hb hr
  have ho : ((o :: l).toArray)[0]? = some o := by simp
  have hg := stepG_op (P := P) (b := b) (a := a) (k := k) (cs := cs) (w := w) (rest := List.range' 1 l.length) ho hw
  have hfin : ∀ v, (b.at a (.inRegion (o :: l).toArray (0 :: List.range' 1 l.length) :: k)).finish v = b.at (a.put o.dst v) (.inRegion (o :: l).toArray (List.range' 1 l.length) :: k) := by
    intro v; rw [Frame.finish_at, ho]; rfl
  have hk : (b.at a (.inRegion (o :: l).toArray (0 :: List.range' 1 l.length) :: k)).kind = .deferred := hb
  have htr := tryRecover_deferred hk cs
  rw [← wpOps_eq_wpList l 1 (fun j => by rw [Nat.add_comm]; simp)] at h
  obtain ⟨e, a', w', hq, harr⟩ := wp_ops _ _ _ h b k cs'
  refine ⟨e, a', cs', w', hq, .of_steps (.head (step_region) (.one (step_lone_go ?_))) harr⟩
  have hrg : List.range (o :: l).toArray.size = 0 :: List.range' 1 l.length := by
    rw [List.range_eq_range']
    simp [List.range'_succ]
  rw [hrg, hg, ← hfin]
  simp only [Frame.at] at htr ⊢
  cases hc : recoverD cs with
  | none =>
    rw [hc] at hrec htr
    simp only [Option.getD_none, Prod.mk.injEq] at hrec
    obtain ⟨rfl, rfl⟩ := hrec
    simp [stepG.apply, hop, htr]
  | some p =>
    rw [hc] at hrec htr
    simp only [Option.getD_some] at hrec
    subst hrec
    simp [stepG.apply, hop, htr]
theorem _root_.Go.Proofs.YtpgnnplpcalbbaaGreat.Only.putObj {A : World} {l : Nat} (o : Obj) : Only l A (A.putObj l o) := ⟨rfl, rfl, rfl, by simp, fun k hk => World.putObj_heap_other hk⟩
end Go.Proofs.YtpgnnplpcalbbaaGreat.V6
namespace Go.Proofs.YtpgnnplpcalbbaaGreat.V6
open Go Go.RowKit
/-- The cells of a datagram that are looked at one by one. -/
structure L6 (c : List Value) (cls lab hop : Int) (vh : Value) (fr : Bool) (id off : Int) (more : Bool) (proto : Int) (vb : Value) : Prop where
  len : c.length = 42
  one : ∀ v ∈ c, v.oneCell' = true
  c0 : c[0]? = some (.int .u8 cls)
  c1 : c[1]? = some (.int .u32 lab)
  c2 : c[2]? = some (.int .u8 hop)
  c35 : c[35]? = some vh
  c36 : c[36]? = some (.bool fr)
  c37 : c[37]? = some (.int .u32 id)
  c38 : c[38]? = some (.int .i64 off)
  c39 : c[39]? = some (.bool more)
  c40 : c[40]? = some (.int .u8 proto)
  c41 : c[41]? = some vb
def isH (k : Int) : Bool := (k == 0) || (k == 43) || (k == 60)
set_option maxHeartbeats 400000 in
theorem isHead_calls (k : Int) (w : World) : Calls Tryz.prog 204 #[.int .u8 k] w fun e w' => e = .returned (.bool (isH k)) ∧ w' = w := by
  unfold isH
  go_enter Tryz.func204, Tryz.ntmps204
  go_wp2
  all_goals
    go_ret
    exact ⟨by simp_all, rfl⟩
set_option maxHeartbeats 400000 in
theorem extra_calls (k : Int) (w : World) : Calls Tryz.prog 208 #[.int .u8 k] w fun e w' => e = .returned (.bool (isH k)) ∧ w' = w := by
  unfold isH
  go_enter Tryz.func208, Tryz.ntmps208
  go_wp2
  all_goals
    go_ret
    exact ⟨by simp_all, rfl⟩
def kindB (k : Int) (j : Nat) : Bool := isH k && ((k != 0) || decide (j = 0))
set_option maxHeartbeats 400000 in
theorem kindMayBe_calls (k : Int) (j : Nat) (w : World) : Calls Tryz.prog 203 #[.int .u8 k, .int .i64 j] w fun e w' => e = .returned (.bool (kindB k j)) ∧ w' = w := by
  unfold kindB
  have hj : ((j : Int) == 0) = decide (j = 0) := by rw [Bool.eq_iff_iff]; simp
  have H : Hid _ := isHead_calls k w
  generalize isH k = b at *
  cases b
  all_goals
    go_enter Tryz.func203, Tryz.ntmps203
    go_wp2_with fail
    refine Calls.mono H.out ?_
    rintro _ w1 ⟨rfl, hw⟩
    obtain rfl := hw.symm
    clear hw
    go_wp2
    all_goals
      go_ret
      exact ⟨by simp_all, rfl⟩
def headOk (hs : Opts) (j : Nat) : Bool := kindB (oK hs j) j && decide ((2 + (oD hs j).length) % 8 = 0) && decide ((oD hs j).length ≤ 2046)
def allH (hs : Opts) (k : Nat) : Prop := ∀ j, j < k → headOk hs j = true
def headsB (hs : Opts) : Prop := hs.length ≤ 8 ∧ allH hs hs.length
theorem allH_succ {hs : Opts} {k : Nat} (h : allH hs k) (hk : headOk hs k = true) : allH hs (k + 1) := fun j hj => by
  by_cases e : j = k
  · subst e; exact hk
  · exact h j (by omega)
set_option maxHeartbeats 1000000 in
set_option maxRecDepth 100000 in
theorem headsMayBe_calls (v : Value) (hs : Opts) (w : World) (h : OptsAt w.heap.size w v hs) :
    Calls Tryz.prog 134 #[v] w fun e w' => ∃ b, e = .returned (.bool b) ∧ (b = true ↔ headsB hs) ∧ Below w.heap.size w w' := by
  obtain ⟨hfit, hlen, a, cap, rfl, hz⟩ := h
  by_cases h8 : 8 < hs.length
  · have q : decide ((8 : Int) < (hs.length : Int)) = true := by simp; omega
    have HN : Hid (¬ headsB hs) := fun c => by have := c.1; omega
    clear hz
    go_enter Tryz.func134, Tryz.ntmps134
    go_wp2
    go_ret
    exact ⟨_, rfl, by simp; exact HN.out, Below.refl _ _⟩
  · have q : decide ((8 : Int) < (hs.length : Int)) = false := by simp; omega
    go_enter Tryz.func134, Tryz.ntmps134
    go_wp2
    go_loopw [11] (fun i wr => ∃ k : Nat, k ≤ hs.length ∧ i = .int .i64 k ∧ allH hs k ∧ Below w.heap.size w wr) (fun i _ => hs.length - (intOf i).toNat)
    case atStart => exact ⟨0, Nat.zero_le _, rfl, fun j hj => absurd hj (by omega), Below.refl _ _⟩
    case round =>
      obtain ⟨k, hk, rfl, hall, hB⟩ := hrel
      by_cases hlt : k < hs.length
      · have hz' := hz
        rcases hz' with hz' | ⟨b, off, rfl, hbn, hc⟩
        · omega
        obtain ⟨c0, s, c1, hs'⟩ := hc k hlt
        obtain ⟨_, hdl, sa, sc, rfl, _⟩ := hs'
        have x0 := (hB.cell (p := ⟨b, off + k * 2, none⟩) hbn).trans c0
        have x1 := (hB.cell (p := ⟨b, off + k * 2 + 1, none⟩) hbn).trans c1
        have hno : headOk hs k = false → ¬ headsB hs := fun hf c => by have := c.2 k hlt; rw [hf] at this; cases this
        have hgo : headOk hs k = true → allH hs (k + 1) := fun hg => allH_succ hall hg
        have hok : headOk hs k = (kindB (oK hs k) k && decide ((2 + (oD hs k).length) % 8 = 0) && decide ((oD hs k).length ≤ 2046)) := rfl
        have HNO : Hid _ := hno
        have HGO : Hid _ := hgo
        have HOK : Hid _ := hok
        have hA := hB.alloc hB.size (.cells #[.int .u8 (oK hs k), .slice sa (oD hs k).length sc] 110)
        have HA : Hid _ := hA
        have HKB : Hid (∀ W, Calls Tryz.prog 203 #[.int .u8 (oK hs k), .int .i64 k] W fun e w' => e = .returned (.bool (kindB (oK hs k) k)) ∧ w' = W) := fun W => kindMayBe_calls _ k W
        have n1 : (wr.alloc (.cells #[.int .u8 (oK hs k), .slice sa (oD hs k).length sc] 110)).cell? ⟨wr.heap.size, 1, none⟩ = some (.slice sa (oD hs k).length sc) := by rw [World.cell?_alloc_new]; rfl
        have v1 : IntKind.i64.wrap (2 + ((oD hs k).length : Int)) = 2 + ((oD hs k).length : Int) := wrapi64 _ (by omega)
        clear hno hgo hok hc hz c0 c1 hB hall hA
        generalize headOk hs k = ok at *
        generalize kindB (oK hs k) k = kb at *
        generalize oK hs k = K at *
        generalize (oD hs k).length = D at *
        go_wp2_with fail
        refine Calls.mono (HKB.out _) ?_
        rintro _ w2 ⟨rfl, hw2⟩
        obtain rfl := hw2.symm
        clear hw2
        cases kb
        · have HN : Hid (¬ headsB hs) := HNO.out (by rw [HOK.out]; rfl)
          go_wp2
          go_ret
          exact ⟨_, rfl, by simp; exact HN.out, HA.out⟩
        · by_cases h1 : (2 + D) % 8 = 0
          · have q1 : ((2 + (D : Int)) % 8 != 0) = false := by simp; omega
            by_cases h2 : D ≤ 2046
            · have q2 : decide ((2048 : Int) < 2 + (D : Int)) = false := by simp; omega
              have HG : Hid (allH hs (k + 1)) := HGO.out (by rw [HOK.out]; simp [h1, h2])
              clear h1 h2
              go_wp2
              exact ⟨⟨k + 1, by omega, by simp, HG.out, HA.out⟩, by simp [intOf]; omega⟩
            · have q2 : decide ((2048 : Int) < 2 + (D : Int)) = true := by simp; omega
              have HN : Hid (¬ headsB hs) := HNO.out (by rw [HOK.out]; simp [h2])
              clear h1 h2
              go_wp2
              go_ret
              exact ⟨_, rfl, by simp; exact HN.out, HA.out⟩
          · have q1 : ((2 + (D : Int)) % 8 != 0) = true := by simp; omega
            have HN : Hid (¬ headsB hs) := HNO.out (by rw [HOK.out]; simp [h1])
            clear h1
            go_wp2
            go_ret
            exact ⟨_, rfl, by simp; exact HN.out, HA.out⟩
      · obtain rfl : k = hs.length := by omega
        have HY : Hid (headsB hs) := ⟨by omega, hall⟩
        have HB : Hid _ := hB
        clear hz hB hall
        go_wp2
        go_ret
        exact ⟨_, rfl, by simp; exact HY.out, HB.out⟩
end Go.Proofs.YtpgnnplpcalbbaaGreat.V6
namespace Go.Proofs.YtpgnnplpcalbbaaGreat.V6
open Go Go.RowKit
def endB (fr : Bool) (id off : Int) (more : Bool) (proto : Int) : Bool :=
  if fr then decide (0 ≤ off) && decide (off ≤ 8191) else (id == 0) && (off == 0) && !more && !isH proto && (proto != 44)
section
variable {c : List Value} {cls lab hop : Int} {vh : Value} {fr : Bool} {id off : Int} {more : Bool} {proto : Int} {vb : Value}
set_option maxHeartbeats 1000000 in
set_option maxRecDepth 100000 in
theorem endMayBe_calls (w : World) (h : L6 c cls lab hop vh fr id off more proto vb) :
    Calls Tryz.prog 135 #[.agg c.toArray] w fun e w' => e = .returned (.bool (endB fr id off more proto)) ∧ Below w.heap.size w w' := by
  have hb0 := blk_new w (.cells c.toArray 36)
  have HB : Hid _ := (Below.refl w.heap.size w).alloc (Nat.le_refl _) (.cells c.toArray 36)
  have k36 := blk_cell hb0 h.c36
  have k37 := blk_cell hb0 h.c37
  have k38 := blk_cell hb0 h.c38
  have k39 := blk_cell hb0 h.c39
  have k40 := blk_cell hb0 h.c40
  have HH : Hid (∀ W, Calls Tryz.prog 204 #[.int .u8 proto] W fun e w' => e = .returned (.bool (isH proto)) ∧ w' = W) := fun W => isHead_calls proto W
  clear hb0 h
  unfold endB
  generalize isH proto = ih at *
  generalize hW : w.alloc (.cells c.toArray 36) = W0 at *
  go_enter Tryz.func135, Tryz.ntmps135
  cases fr
  · go_wp2_with fail
    all_goals first
      | (refine Calls.mono (HH.out _) ?_
         rintro _ w2 ⟨rfl, hw2⟩
         obtain rfl := hw2.symm
         clear hw2
         cases ih
         all_goals
           go_wp2
           all_goals
             go_ret
             exact ⟨by simp_all, HB.out⟩)
      | (go_ret
         exact ⟨by simp_all, HB.out⟩)
  · go_wp2
    all_goals
      go_ret
      exact ⟨by simp_all <;> (intros; omega), HB.out⟩
set_option maxHeartbeats 1000000 in
set_option maxRecDepth 100000 in
theorem ahead_calls (w : World) (h : L6 c cls lab hop vh fr id off more proto vb) (hs : Opts) (hh : OptsAt w.heap.size w vh hs) (hb : ∀ k, k ≤ hs.length → oTot hs k ≤ 100000) :
    Calls Tryz.prog 136 #[.agg c.toArray] w fun e w' => e = .returned (.int .i64 (40 + (oTot hs hs.length : Int) + (if fr then 8 else 0))) ∧ Below w.heap.size w w' := by
  have hb0 := blk_new w (.cells c.toArray 36)
  have hB0 := (Below.refl w.heap.size w).alloc (Nat.le_refl _) (.cells c.toArray 36)
  have k35 := blk_cell hb0 h.c35
  have H36 : Hid _ := blk_cell hb0 h.c36
  have hlt0 : w.heap.size < (w.alloc (.cells c.toArray 36)).heap.size := by simp
  obtain ⟨hfit, hlen, a, cap, rfl, hz⟩ := hh
  clear hb0 h
  generalize hW : w.alloc (.cells c.toArray 36) = W0 at *
  go_enter Tryz.func136, Tryz.ntmps136
  go_wp2
  go_loopw [3, 9] (fun x i wr => ∃ k : Nat, k ≤ hs.length ∧ i = .int .i64 k ∧ x = .int .i64 (40 + (oTot hs k : Int)) ∧ Below W0.heap.size W0 wr) (fun _ i _ => hs.length - (intOf i).toNat)
  case atStart => exact ⟨0, Nat.zero_le _, rfl, by simp [oTot], Below.refl _ _⟩
  case round =>
    obtain ⟨k, hk, rfl, rfl, hB⟩ := hrel
    by_cases hlt : k < hs.length
    · have hz' := hz
      rcases hz' with hz' | ⟨b, off, rfl, hbn, hc⟩
      · omega
      obtain ⟨c0, s, c1, hs'⟩ := hc k hlt
      obtain ⟨_, hdl, sa, sc, rfl, _⟩ := hs'
      have hBw := hB0.trans (hB.mono hB0.size)
      have x0 := (hBw.cell (p := ⟨b, off + k * 2, none⟩) hbn).trans c0
      have x1 := (hBw.cell (p := ⟨b, off + k * 2 + 1, none⟩) hbn).trans c1
      have hT1 : (((oTot hs (k + 1) : Nat) : Int)) = (oTot hs k : Int) + (2 + ((oD hs k).length : Int)) := by simp only [oTot]; omega
      have hbk := hb (k + 1) hlt
      have HT : Hid _ := hT1
      have HA : Hid _ := hB.alloc hB.size (.cells #[.int .u8 (oK hs k), .slice sa (oD hs k).length sc] 110)
      have n1 : (wr.alloc (.cells #[.int .u8 (oK hs k), .slice sa (oD hs k).length sc] 110)).cell? ⟨wr.heap.size, 1, none⟩ = some (.slice sa (oD hs k).length sc) := by rw [World.cell?_alloc_new]; rfl
      have v1 : IntKind.i64.wrap (2 + ((oD hs k).length : Int)) = 2 + ((oD hs k).length : Int) := wrapi64 _ (by omega)
      have v2 : IntKind.i64.wrap (40 + (oTot hs k : Int) + (2 + ((oD hs k).length : Int))) = 40 + (oTot hs k : Int) + (2 + ((oD hs k).length : Int)) := wrapi64 _ (by omega)
      generalize hT1e : oTot hs (k + 1) = T1 at *
      have HT1E : Hid _ := hT1e
      clear hT1e hc hz c0 c1 hB hBw hT1 hbk
      generalize oTot hs k = T at *
      generalize oK hs k = K at *
      generalize (oD hs k).length = D at *
      go_wp2
      exact ⟨⟨k + 1, by omega, by simp, by rw [HT1E.out, HT.out]; simp; omega, HA.out⟩, by simp [intOf]; omega⟩
    · obtain rfl : k = hs.length := by omega
      have k36 := (hB.cell (p := ⟨w.heap.size, 36, none⟩) hlt0).trans H36.out
      have hbk := hb hs.length (Nat.le_refl _)
      have HB : Hid (Below w.heap.size w wr) := hB0.trans (hB.mono hB0.size)
      clear hz hB
      generalize hTe : oTot hs hs.length = T at *
      have HTE : Hid _ := hTe
      clear hTe
      have v2 : IntKind.i64.wrap (40 + (T : Int) + 8) = 40 + (T : Int) + 8 := wrapi64 _ (by omega)
      cases fr
      all_goals
        go_wp2
        go_ret
        exact ⟨by rw [HTE.out]; simp, HB.out⟩
end
theorem allH_tot {hs : Opts} : ∀ {k : Nat}, allH hs k → oTot hs k ≤ 2048 * k
  | 0, _ => by simp [oTot]
  | k + 1, h => by
    have := allH_tot (hs := hs) (k := k) (fun j hj => h j (by omega))
    have h2 := h k (by omega)
    simp [headOk] at h2
    simp only [oTot]
    omega
def ok6 (lab : Int) (hs : Opts) (fr : Bool) (id off : Int) (more : Bool) (proto : Int) : Prop := lab ≤ 1048575 ∧ headsB hs ∧ endB fr id off more proto = true
def ahead6 (hs : Opts) (fr : Bool) : Nat := 40 + oTot hs hs.length + (if fr then 8 else 0)
/-- What Check answers. -/
def Chk6 (lab : Int) (hs : Opts) (fr : Bool) (id off : Int) (more : Bool) (proto : Int) (nb : Nat) (er : Int) : Prop :=
  (¬ ok6 lab hs fr id off more proto ∧ er = 54) ∨ (ok6 lab hs fr id off more proto ∧ 65535 + 40 < ahead6 hs fr + nb ∧ er = 2) ∨ (ok6 lab hs fr id off more proto ∧ ahead6 hs fr + nb ≤ 65535 + 40 ∧ er = 0)
theorem Chk6.unique {lab : Int} {hs : Opts} {fr : Bool} {id off : Int} {more : Bool} {proto : Int} {nb : Nat} {er er' : Int} (h : Chk6 lab hs fr id off more proto nb er) (h' : Chk6 lab hs fr id off more proto nb er') : er = er' := by
  rcases h with ⟨a, rfl⟩ | ⟨a, b, rfl⟩ | ⟨a, b, rfl⟩ <;> rcases h' with ⟨a', rfl⟩ | ⟨a', b', rfl⟩ | ⟨a', b', rfl⟩
  · rfl
  · exact absurd a' a
  · exact absurd a' a
  · exact absurd a a'
  · rfl
  · omega
  · exact absurd a a'
  · omega
  · rfl
section
variable {c : List Value} {cls lab hop : Int} {vh : Value} {fr : Bool} {id off : Int} {more : Bool} {proto : Int} {vb : Value}
set_option maxHeartbeats 1000000 in
set_option maxRecDepth 100000 in
theorem Check_calls (w : World) (h : L6 c cls lab hop vh fr id off more proto vb) (hs : Opts) (hh : OptsAt w.heap.size w vh hs) (body : List Int) (hbd : BytesAt w.heap.size w vb body) (hlab : 0 ≤ lab ∧ lab ≤ 4294967295) :
    Calls Tryz.prog 63 #[.agg c.toArray] w fun e w' => ∃ er, e = .returned (.int .i64 er) ∧ Chk6 lab hs fr id off more proto body.length er ∧ Below w.heap.size w w' := by
  have hb0 := blk_new w (.cells c.toArray 36)
  have hB0 := (Below.refl w.heap.size w).alloc (Nat.le_refl _) (.cells c.toArray 36)
  generalize hW0 : w.alloc (.cells c.toArray 36) = W0 at *
  have hLA : ∀ x : Hi W0, (Instr.loadAt 36 (.pointer (some ⟨w.heap.size, 0, none⟩))).run Tryz.prog x.W = .ok (.agg c.toArray) x.W := fun x => agg_load Tryz.isAgg36 Tryz.sizeOf36 h.len (CellsAt.of_blk (Hi.blk hb0 x))
  have K1 : Hid (∀ x : Hi W0, x.W.cell? ⟨w.heap.size, 1, none⟩ = some (.int .u32 lab)) := fun x => blk_cell (Hi.blk hb0 x) h.c1
  have K35 : Hid (∀ x : Hi W0, x.W.cell? ⟨w.heap.size, 35, none⟩ = some vh) := fun x => blk_cell (Hi.blk hb0 x) h.c35
  have K41 : Hid (∀ x : Hi W0, x.W.cell? ⟨w.heap.size, 41, none⟩ = some vb) := fun x => blk_cell (Hi.blk hb0 x) h.c41
  have HLA : Hid _ := hLA
  have HHM : Hid (∀ x : Hi W0, _) := fun x => headsMayBe_calls vh hs x.W (hh.later (hB0.trans (x.below.mono hB0.size)))
  have HEM : Hid (∀ x : Hi W0, _) := fun x => endMayBe_calls x.W h
  have HAH : Hid (headsB hs → ∀ x : Hi W0, _) := fun hb x => ahead_calls x.W h hs (hh.later (hB0.trans (x.below.mono hB0.size))) (fun k hk => by
    have := allH_tot (hs := hs) (k := k) (fun j hj => hb.2 j (by omega))
    have := hb.1
    omega)
  have HBW : Hid (∀ x : Hi W0, Below w.heap.size w x.W) := fun x => hB0.trans (x.below.mono hB0.size)
  obtain ⟨_, hbl, ba, bc, rfl, _⟩ := hbd
  obtain ⟨_, _, hva, hvc, hvh, _⟩ := hh
  subst hvh
  have k1 : W0.cell? ⟨w.heap.size, 1, none⟩ = some (.int .u32 lab) := K1.out (Hi.refl _)
  clear hb0 hLA
  have HN : Hid (1048575 < lab → ¬ ok6 lab hs fr id off more proto) := fun a b => by have := b.1; omega
  have HN2 : Hid (¬ headsB hs → ¬ ok6 lab hs fr id off more proto) := fun a b => a b.2.1
  go_enter Tryz.func63, Tryz.ntmps63
  by_cases hl : 1048575 < lab
  · have q : decide ((1048575 : Int) < lab) = true := by simp [hl]
    go_wp2_with fail
    go_ret
    exact ⟨_, rfl, .inl ⟨HN.out hl, rfl⟩, HBW.out (Hi.refl _)⟩
  · have q : decide ((1048575 : Int) < lab) = false := by simpa using hl
    have k35 : W0.cell? ⟨w.heap.size, 35, none⟩ = some (.slice hva hs.length hvc) := K35.out (Hi.refl _)
    go_wp2_with fail
    refine Calls.mono (HHM.out (Hi.refl _)) ?_
    rintro _ w1 ⟨hm, rfl, hiff, hb1⟩
    cases hm
    · go_wp2_with fail
      go_ret
      exact ⟨_, rfl, .inl ⟨HN2.out (fun c => by have := hiff.2 c; cases this), rfl⟩, HBW.out ((Hi.refl _).more hb1)⟩
    · have hhb := hiff.1 rfl
      have HL1 : Hid ((Instr.loadAt 36 (.pointer (some ⟨w.heap.size, 0, none⟩))).run Tryz.prog w1 = .ok (.agg c.toArray) w1) := HLA.out ((Hi.refl _).more hb1)
      go_wp2_with ((with_reducible show wpList _ _ _ _ _ _); refine arm_load rfl (.tmp 1) 36 rfl rfl HL1.out ?_)
      refine Calls.mono (HEM.out ((Hi.refl _).more hb1)) ?_
      rintro _ w2 ⟨rfl, hb2⟩
      have x2E : Hid (∃ x : Hi W0, x.W = w2) := ⟨((Hi.refl _).more hb1).more hb2, rfl⟩
      cases hE : endB fr id off more proto
      · go_wp2_with fail
        go_ret
        exact ⟨_, rfl, .inl ⟨(fun c => by have := c.2.2; rw [hE] at this; cases this), rfl⟩, HBW.out (((Hi.refl _).more hb1).more hb2)⟩
      · have hok : ok6 lab hs fr id off more proto := ⟨by omega, hhb, hE⟩
        obtain ⟨x2, rfl⟩ : ∃ x : Hi W0, w2 = x.W := ⟨((Hi.refl _).more hb1).more hb2, rfl⟩
        have ha := HAH.out hhb
        have hA : 40 ≤ ahead6 hs fr ∧ ahead6 hs fr ≤ 100000 := by
          have := allH_tot (hs := hs) (k := hs.length) hhb.2
          have := hhb.1
          unfold ahead6
          split <;> omega
        have hAe : (40 + (oTot hs hs.length : Int) + (if fr = true then 8 else 0)) = (ahead6 hs fr : Int) := by
          unfold ahead6
          split <;> simp
        rw [hAe] at ha
        have HA : Hid _ := ha
        have HC : Hid (∀ er, _ → Chk6 lab hs fr id off more proto body.length er) := fun er (he : (65535 + 40 < ahead6 hs fr + body.length ∧ er = 2) ∨ (ahead6 hs fr + body.length ≤ 65535 + 40 ∧ er = 0)) => he.elim (fun h => .inr (.inl ⟨hok, h.1, h.2⟩)) (fun h => .inr (.inr ⟨hok, h.1, h.2⟩))
        have k41 := K41.out
        clear ha hAe HAH HHM HEM K1 K35 K41 hb1 hb2 hiff hhb HL1 HN HN2 hok hE k1 k35 q x2E
        have HC2 : Hid (65535 + 40 < ahead6 hs fr + body.length → Chk6 lab hs fr id off more proto body.length 2) := fun h => HC.out 2 (.inl ⟨h, rfl⟩)
        have HC0 : Hid (¬ (65535 + 40 < ahead6 hs fr + body.length) → Chk6 lab hs fr id off more proto body.length 0) := fun h => HC.out 0 (.inr ⟨by omega, rfl⟩)
        clear HC
        generalize hCC : Chk6 lab hs fr id off more proto body.length = CC at *
        have HCE : Hid (∀ e, CC e → Chk6 lab hs fr id off more proto body.length e) := fun e h => by rw [hCC]; exact h
        clear hCC
        generalize ahead6 hs fr = A at HA hA HC2 HC0
        generalize body.length = nb at hbl k41 HC2 HC0
        have v1 : IntKind.i64.wrap ((A : Int) + nb) = A + nb := wrapi64 _ (by omega)
        have v2 : IntKind.i64.wrap ((A : Int) + nb - 40) = A + nb - 40 := wrapi64 _ (by omega)
        by_cases hlong : 65535 + 40 < A + nb
        · have q : decide ((65535 : Int) < (A : Int) + nb - 40) = true := by simp; omega
          have HCC : Hid (CC 2) := HC2.out hlong
          go_wp2_with fail
          refine wp_region_up (by kernel_rfl) (by kernel_rfl) ?_
          repeat (first
            | go_big_quiet_skip
            | (go_big_quiet_want; refine hi_load (.tmp 1) 36 rfl rfl HLA.out ?_; simp only [Act.put, List.setIfInBounds_toArray, List.set_cons_zero, List.set_cons_succ]; go_big_quiet_on)
            | (go_big_quiet_want; go_big_quiet_op; first | go_big_quiet_on | go_big_quiet_call (first | (go_at_call 136; exact Hi.calls (HA.out _)))))
          refine wpQuiet_nil ?_
          intro _ hw
          obtain ⟨y, rfl⟩ := hw
          go_wp2
          go_ret
          exact ⟨_, rfl, HCE.out _ HCC.out, HBW.out y⟩
        · have q : decide ((65535 : Int) < (A : Int) + nb - 40) = false := by simp; omega
          have HCC : Hid (CC 0) := HC0.out hlong
          go_wp2_with fail
          refine wp_region_up (by kernel_rfl) (by kernel_rfl) ?_
          repeat (first
            | go_big_quiet_skip
            | (go_big_quiet_want; refine hi_load (.tmp 1) 36 rfl rfl HLA.out ?_; simp only [Act.put, List.setIfInBounds_toArray, List.set_cons_zero, List.set_cons_succ]; go_big_quiet_on)
            | (go_big_quiet_want; go_big_quiet_op; first | go_big_quiet_on | go_big_quiet_call (first | (go_at_call 136; exact Hi.calls (HA.out _)))))
          refine wpQuiet_nil ?_
          intro _ hw
          obtain ⟨y, rfl⟩ := hw
          go_wp2
          go_ret
          exact ⟨_, rfl, HCE.out _ HCC.out, HBW.out y⟩
end
end Go.Proofs.YtpgnnplpcalbbaaGreat.V6
