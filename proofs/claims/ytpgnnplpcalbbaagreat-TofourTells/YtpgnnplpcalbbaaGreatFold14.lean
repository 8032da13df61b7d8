/-
  A row of heads of one's own; calls that panic in a drawn region.
  fragHead of package ipv6.
  head of package ipv6.
-/
import Derived.Test.YtpgnnplpcalbbaaGreatFold13
import Derived.Maps.AppendAt
import Derived.Great.BuildSlice
set_option linter.unusedVariables false
set_option linter.unusedSimpArgs false
namespace Go.Proofs.YtpgnnplpcalbbaaGreat.V6
open Go Go.RowKit Go.Shelf
/-- The cells of a row of heads. -/
def cellsL : Opts → List Value → List Value
  | [], _ => []
  | o :: os, ds => .int .u8 o.1 :: ds.headD undef :: cellsL os ds.tail
theorem cellsL_length : ∀ (os : Opts) (ds : List Value), (cellsL os ds).length = os.length * 2
  | [], _ => rfl
  | o :: os, ds => by simp [cellsL, cellsL_length os ds.tail]; omega
theorem cellsL_push : ∀ (os : Opts) (ds : List Value) (K : Int) (D : List Int) (u : Value), ds.length = os.length → cellsL (os ++ [(K, D)]) (ds ++ [u]) = cellsL os ds ++ [.int .u8 K, u]
  | [], [], K, D, u, _ => rfl
  | o :: os, d :: ds, K, D, u, h => by
    have := cellsL_push os ds K D u (by simpa using h)
    simp [cellsL, this]
theorem cellsL_at : ∀ (os : Opts) (ds : List Value) (j : Nat), j < os.length → (cellsL os ds)[j * 2]? = some (.int .u8 (oK os j)) ∧ (cellsL os ds)[j * 2 + 1]? = some (ds[j]?.getD undef)
  | o :: os, ds, 0, _ => by cases ds <;> simp [cellsL, oK]
  | o :: os, ds, j + 1, h => by
    have := cellsL_at os ds.tail j (by simpa using h)
    rw [show (j + 1) * 2 = j * 2 + 1 + 1 by omega, show j * 2 + 1 + 1 + 1 = (j * 2 + 1) + 1 + 1 by omega]
    refine ⟨?_, ?_⟩
    · simp only [cellsL, List.getElem?_cons_succ]
      rw [this.1]
      simp [oK]
    · simp only [cellsL, List.getElem?_cons_succ]
      rw [this.2]
      cases ds <;> simp
theorem infoH : ∃ i, Tryz.prog.info? 110 = some i ∧ i.zero = some (.agg #[.int .u8 0, .slice none 0 0]) ∧ i.size = 2 ∧ i.bytes = 32 := by
  have : (Tryz.prog.info? 110).map (fun i => (i.zero, i.size, i.bytes)) = some (some (.agg #[.int .u8 0, .slice none 0 0]), 2, 32) := by kernel_rfl
  obtain ⟨i, h1, h2⟩ := Option.map_eq_some_iff.1 this
  injection h2 with h2 h3
  injection h3 with h3 h4
  exact ⟨i, h1, h2, h3, h4⟩
/-- A row of heads of one's own: all its blocks lie from 'base' on. -/
structure HRow (base : Nat) (W : World) (v : Value) (os : Opts) (ds : List Value) : Prop where
  own : W.ownsRow base 110 2 v os.length (cellsL os ds)
  dl : ds.length = os.length
  fit : ∀ j, 0 ≤ oK os j ∧ oK os j < 256
  dat : ∀ j, j < os.length → BS (fun b => base ≤ b ∧ v.ownBlock ≠ some b) W (ds[j]?.getD undef) (oD os j)
section
variable {base : Nat} {W W' : World} {v : Value} {os : Opts} {ds : List Value} {O : Nat → Prop}
theorem HRow.sep (h : HRow base W v os ds) (hs : Sep O W W') (hO : ∀ b, base ≤ b → ¬ O b) : HRow base W' v os ds :=
  ⟨own_same h.own (fun b hb => hs.same b (own_lt h.own hb).2 (hO b (own_lt h.own hb).1)), h.dl, h.fit, fun j hj => (h.dat j hj).sep hs (fun b hb => hO b hb.1)⟩
theorem HRow.on (h : HRow base W v os ds) (hb : Below W.heap.size W W') : HRow base W' v os ds := h.sep (O := fun _ => False) (Sep.of_below hb) (fun _ _ h => h)
theorem HRow.nil (base : Nat) (W : World) : HRow base W (.slice none 0 0) [] [] :=
  ⟨World.ownsRow_nil _ _ _ _, rfl, (fun j => by simp [oK]), (fun j hj => by simp at hj)⟩
theorem HRow.slc (h : HRow base W v os ds) : ∃ a cap, v = .slice a os.length cap := by
  rcases h.own.2 with ⟨rfl, h0⟩ | ⟨g, cap, cur, rfl, _⟩
  · rw [h0]; exact ⟨_, _, rfl⟩
  · exact ⟨_, _, rfl⟩
theorem HRow.hs (h : HRow base W v os ds) (hl : os.length ≤ 140737488351232) : HS (fun b => base ≤ b) W v os := by
  refine ⟨h.fit, hl, ?_⟩
  rcases h.own.2 with ⟨rfl, h0⟩ | ⟨g, cap, cur, rfl, hb, hg, _⟩
  · exact ⟨none, 0, by rw [h0], .inl h0⟩
  · refine ⟨_, cap, rfl, .inr ⟨g, 0, rfl, (Array.getElem?_eq_some_iff.1 hg).1, hb, fun j hj => ?_⟩⟩
    have hc := cellsL_at os ds j hj
    have c0 := h.own.cells (g := g) rfl _ _ hc.1
    have c1 := h.own.cells (g := g) rfl _ _ hc.2
    rw [Go.WideShapes.add_plain] at c0 c1
    exact ⟨by simpa using c0, _, by simpa [Nat.add_assoc] using c1, (h.dat j hj).mono (fun b _ hb => hb.1)⟩
theorem HRow.push (h : HRow base W v os ds) (hb : base ≤ W.heap.size) (hl : os.length ≤ 100000) {K : Int} {u : Value} {D : List Int} (hK : 0 ≤ K ∧ K < 256) (hu : BS (fun b => base ≤ b ∧ v.ownBlock ≠ some b) W u D) (ty : TypeId) :
    ∃ v' W', (Builtin.append_ #[34, 34] ty #[v, .slice (some ⟨W.heap.size, 0, none⟩) 1 1]).run Tryz.prog (W.alloc (hBox K u)) = .ok v' W' ∧ HRow base W' v' (os ++ [(K, D)]) (ds ++ [u]) ∧ Sep (fun b => base ≤ b) W W' := by
  obtain ⟨i, hi, hz, hsz, hby⟩ := infoH
  have hB1 := (Below.refl W.heap.size W).alloc (Nat.le_refl _) (hBox K u)
  have ho1 : (W.alloc (hBox K u)).ownsRow base 110 2 v os.length (cellsL os ds) := own_same h.own (fun b hb' => hB1.block b (own_lt h.own hb').2)
  obtain ⟨v', w', hrun, hown, hgr, _, hat⟩ := run_append_own_at (P := Tryz.prog) (W.alloc (hBox K u)) base 34 ty 110 i (.agg #[.int .u8 0, .slice none 0 0]) 2 32 Tryz.underlying34 hi hz hsz hby rfl (by decide) v os.length (cellsL os ds) ho1 ⟨W.heap.size, 0, none⟩ 1 1 [.int .u8 K, u] rfl
    (fun j x hj => by
      rw [Go.WideShapes.add_plain]
      have := CellsAt.of_blk (blk_new W (hBox K u)) j x hj
      simpa using this) (fun x hx => by
      simp only [List.mem_cons, List.not_mem_nil, or_false] at hx
      rcases hx with rfl | rfl
      · rfl
      · exact hu.one) (by unfold maxLen; omega) (by omega) (by simp; omega)
  have hs1 : Sep (fun b => v.ownBlock = some b) (W.alloc (hBox K u)) w' := ⟨hgr.os, hgr.tape, hgr.output, hgr.size, fun b hb' hn => hgr.block b hb' (fun e => hn e.symm)⟩
  have hsep : Sep (fun b => v.ownBlock = some b) W w' := (Sep.of_below hB1).trans hs1
  have hnew : ∀ {z : Value} {Z : List Int}, BS (fun b => base ≤ b ∧ v.ownBlock ≠ some b) W z Z → BS (fun b => base ≤ b ∧ v'.ownBlock ≠ some b) w' z Z := fun {z Z} hz => by
    have h1 := hz.mono (S' := fun b => (base ≤ b ∧ v.ownBlock ≠ some b) ∧ b < W.heap.size) (fun b hb' hh => ⟨hh, hb'⟩)
    refine (h1.sep hsep (fun b hb' e => hb'.1.2 e)).mono (fun b _ hh => ⟨hh.1.1, fun e => ?_⟩)
    rw [World.size_alloc] at hat
    rcases hat with hat | hat
    · rw [hat] at e; exact hh.1.2 e
    · rw [hat] at e; injection e with e; omega
  refine ⟨v', w', hrun, ⟨?_, by simp [h.dl], fun j => ?_, fun j hj => ?_⟩, hsep.mono (fun b _ e => (own_lt h.own e).1)⟩
  · rw [cellsL_push os ds K D u h.dl, List.length_append]
    exact hown
  · by_cases hj : j < os.length
    · have := h.fit j
      simpa [oK, List.getElem?_append, hj] using this
    · by_cases e : j = os.length
      · subst e; simpa [oK] using hK
      · have : (os ++ [(K, D)])[j]? = none := List.getElem?_eq_none (by simp; omega)
        simp [oK, this]
  · have hdl := h.dl
    by_cases hj2 : j < os.length
    · have e1 : (ds ++ [u])[j]? = ds[j]? := List.getElem?_append_left (by omega)
      have e2 : oD (os ++ [(K, D)]) j = oD os j := by simp [oD, List.getElem?_append, hj2]
      rw [e1, e2]
      exact hnew (h.dat j hj2)
    · obtain rfl : j = os.length := by simp at hj; omega
      have e1 : (ds ++ [u])[os.length]? = some u := by rw [← hdl]; simp
      have e2 : oD (os ++ [(K, D)]) os.length = D := by simp [oD]
      rw [e1, e2]
      exact hnew hu
end
theorem bsH_run (W : World) (K : Int) (u : Value) (hu : u.oneCell' = true) : (Instr.buildSlice 34 1 #[(0, .agg #[.int .u8 K, u])]).run Tryz.prog W = .ok (.slice (some ⟨W.heap.size, 0, none⟩) 1 1) (W.alloc (hBox K u)) := by
  obtain ⟨i, hi, hz, hsz, hby⟩ := infoH
  refine run_buildSlice W 34 110 1 #[(0, .agg #[.int .u8 K, u])] [.int .u8 K, u].toArray i (.agg #[.int .u8 0, .slice none 0 0]) Tryz.underlying34 hi hz (by rw [hsz]; omega) (by rw [hsz]; omega) ?_
  have := Go.Great.fill_whole (s := 2) (by omega) [.agg #[.int .u8 K, u]] ((Array.range (1 * i.size)).map ((Value.agg #[.int .u8 0, .slice none 0 0]).cells[· % (Value.agg #[.int .u8 0, .slice none 0 0]).cells.size]!)) (fun v hv => by simp at hv; rw [hv]; simp [Value.cells]) (by simp [hsz])
  rw [hsz] at this ⊢
  simpa [Value.cells] using this
theorem wp_buildA {P : Program} {o : Oper} {a : Act} {d : Option Nat} {w w2 : World} {K : Act → World → Prop} {Q : Exit → Act → World → Prop} (x : Operand) (t : TypeId) (hop : o.op = Op.buildSlice t 1 #[(0, x)]) (hd : o.dst = d) {vx v : Value} (hx : a.eval x = vx) (hrun : (Instr.buildSlice t 1 #[(0, vx)]).run P w = .ok v w2) (hK : K (a.put d v) w2) : o.wp P a w K Q := by
  subst hd
  unfold Oper.wp
  simp [execOp, hop, hx, hrun, Result.andThen]
  exact hK
theorem st_heads {W : World} {b j : Nat} {c : List Value} {t : TypeId} (h : W.heap[b]? = some (.cells c.toArray t)) (hj : j < c.length) {v : Value} (hv : ∃ x n m, v = .slice x n m) : (Instr.storeAt 34 (.pointer (some ⟨b, j, none⟩)) v).run Tryz.prog W = .ok () (W.setCell ⟨b, j, none⟩ v) := by
  obtain ⟨x, n, m, rfl⟩ := hv
  have h1 : W.cell? ⟨b, j, none⟩ = some (c[j]'hj) := blk_cell h (by simp)
  have h2 := blk_open h j
  simp [Instr.storeAt, go_sem, h1, h2]
/-- A call that panics. -/
theorem wp_callP {P : Program} {o : Oper} {a : Act} {w : World} {K : Act → World → Prop} {Q : Exit → Act → World → Prop} {ps : List PanicEntry} (f : FuncId) (vs : Array Value)
    (hrun : (execOp a.eval o).run P w = .ok (.enter f vs) w) (hc : Calls P f vs w fun e w' => e = .panicked ps ∧ w' = w) (hK : Q (.panic ps) a w) : o.wp P a w K Q := by
  unfold Oper.wp
  rw [hrun]
  refine hc.mono ?_
  rintro e w' ⟨rfl, rfl⟩
  exact hK
/-- A region that ends, or panics. -/
theorem region_end {P : Program} {id : Nat} {ops : Array Oper} {Q : Exit → Act → World → Prop} {a : Act} {w : World} (M : Act → Act → World → Prop) (N : List PanicEntry → Act → World → Prop) (h : (Code.region id ops true).wp P (fun e a' w' => match e with | .normal => M a a' w' | .panic c => N c a' w' | _ => False) a w) (hM : ∀ a' w', M a a' w' → Q .normal a' w') (hN : ∀ c a' w', N c a' w' → Q (.panic c) a' w') : (Code.region id ops true).wp P Q a w :=
  wp_mono h (fun e a' w' hm => by cases e <;> first | exact hM a' w' hm | exact hN _ a' w' hm | exact hm.elim)
theorem ex_geqI {o : Oper} {a : Act} {W : World} (p q : Operand) {t : TypeId} (hop : o.op = Op.binOp .geq 3 p q t) {x y : Int} (hp : a.eval p = .int .i64 x) (hq : a.eval q = .int .i64 y) {b : Bool} (hb : decide (y ≤ x) = b) : (execOp a.eval o).run Tryz.prog W = .ok (.value (.bool b)) W := by
  generalize a.eval = ev at *
  simp [execOp, hop, hp, hq, go_sem, hb]
theorem ex_lssI {o : Oper} {a : Act} {W : World} (p q : Operand) {t : TypeId} (hop : o.op = Op.binOp .lss 3 p q t) {x y : Int} (hp : a.eval p = .int .i64 x) (hq : a.eval q = .int .i64 y) {b : Bool} (hb : decide (x < y) = b) : (execOp a.eval o).run Tryz.prog W = .ok (.value (.bool b)) W := by
  generalize a.eval = ev at *
  simp [execOp, hop, hp, hq, go_sem, hb]
end Go.Proofs.YtpgnnplpcalbbaaGreat.V6
namespace Go.Proofs.YtpgnnplpcalbbaaGreat.V6
open Go Go.RowKit
section
variable {S : Nat → Prop} {W : World} {R : Nat} {rest : List Int} {at' : Nat} {c : List Value} {nx : Int} {left : Value}
set_option maxHeartbeats 2000000 in
set_option maxRecDepth 100000 in
theorem fragHead_short (h : RB S W R rest at' c nx left) (hl : rest.length < 8) : Calls Tryz.prog 238 #[.pointer (some ⟨R, 0, none⟩)] W fun e w' => e = .panicked [fltP at' 50] ∧ Below W.heap.size W w' := by
  obtain ⟨_, _, la, lc, e, _⟩ := h.byt.row
  subst e
  obtain ⟨nl, hnl⟩ : ∃ nl, rest.length = nl := ⟨_, rfl⟩
  rw [hnl] at h hl
  have HBX : Hid (W.heap[R]? = some (RBox (.slice la nl lc) at' c nx)) := h.box
  have hdec : decide ((8 : Int) ≤ (nl : Int)) = false := by simp; omega
  clear h hl
  go_enter Tryz.func238, Tryz.ntmps238
  go_wp2_with fail
  refine region_end (fun _ _ _ => False) (fun c b w' => c = [fltP at' 50] ∧ w' = W.drew ∧ b.defers = []) ?_ (fun _ _ h => h.elim) ?_
  · skip
    refine wp_region_held (S := fun X => X.heap[R]? = some (RBox (.slice la nl lc) at' c nx)) (by kernel_rfl) ?_
    show wpAnyH _ _ _ _ _ 13 (Array.replicate 13 false) _ _
    have hs0 : W.drew.heap[R]? = some (RBox (.slice la nl lc) at' c nx) := HBX.out
    refine take_one (i := 0) (d := some 3) (v := .pointer (some ⟨R, 0, none⟩)) rfl rfl rfl (by kernel_rfl) (by kernel_rfl) (by kernel_rfl) (fun _ _ d _ _ h => ⟨h.1, h.2.1, by cases d <;> exact h.2.2⟩) (fun W hS => by kernel_rfl) hs0 ?_
    simp only [Act.put, List.setIfInBounds_toArray, List.set_cons_zero, List.set_cons_succ]
    refine take_one (i := 1) (d := some 4) (v := .pointer (some ⟨R, 0, none⟩)) rfl rfl rfl (by kernel_rfl) (by kernel_rfl) (by kernel_rfl) (fun _ _ d _ _ h => ⟨h.1, h.2.1, by cases d <;> exact h.2.2⟩) (fun W hS => by kernel_rfl) hs0 ?_
    simp only [Act.put, List.setIfInBounds_toArray, List.set_cons_zero, List.set_cons_succ]
    refine take_one (i := 2) (d := some 5) (v := .pointer (some ⟨R, 0, none⟩)) rfl rfl rfl (by kernel_rfl) (by kernel_rfl) (by kernel_rfl) (fun _ _ d _ _ h => ⟨h.1, h.2.1, by cases d <;> exact h.2.2⟩) (fun W hS => by kernel_rfl) hs0 ?_
    simp only [Act.put, List.setIfInBounds_toArray, List.set_cons_zero, List.set_cons_succ]
    refine take_one (i := 3) (d := some 6) (v := .pointer (some ⟨R, 0, none⟩)) rfl rfl rfl (by kernel_rfl) (by kernel_rfl) (by kernel_rfl) (fun _ _ d _ _ h => ⟨h.1, h.2.1, by cases d <;> exact h.2.2⟩) (fun W hS => by kernel_rfl) hs0 ?_
    simp only [Act.put, List.setIfInBounds_toArray, List.set_cons_zero, List.set_cons_succ]
    refine take_one (i := 4) (d := some 7) (v := .slice la nl lc) rfl rfl rfl (by kernel_rfl) (by kernel_rfl) (by kernel_rfl) (fun _ _ d _ _ h => ⟨h.1, h.2.1, by cases d <;> exact h.2.2⟩) (fun W hS => ex_load 6 rfl rfl (blk_cell hS (j := 0) rfl) ⟨_, _, _, rfl⟩) hs0 ?_
    simp only [Act.put, List.setIfInBounds_toArray, List.set_cons_zero, List.set_cons_succ]
    refine take_one (i := 5) (d := some 8) (v := .int .i64 (nl : Int)) rfl rfl rfl (by kernel_rfl) (by kernel_rfl) (by kernel_rfl) (fun _ _ d _ _ h => ⟨h.1, h.2.1, by cases d <;> exact h.2.2⟩) (fun W hS => by kernel_rfl) hs0 ?_
    simp only [Act.put, List.setIfInBounds_toArray, List.set_cons_zero, List.set_cons_succ]
    refine take_one (i := 6) (d := some 9) (v := .bool false) rfl rfl rfl (by kernel_rfl) (by kernel_rfl) (by kernel_rfl) (fun _ _ d _ _ h => ⟨h.1, h.2.1, by cases d <;> exact h.2.2⟩) (fun W hS => ex_geqI (.tmp 8) (.const (.int .i64 8)) rfl rfl rfl hdec) hs0 ?_
    simp only [Act.put, List.setIfInBounds_toArray, List.set_cons_zero, List.set_cons_succ]
    refine take_one (i := 7) (d := some 10) (v := .pointer (some ⟨R, 0, none⟩)) rfl rfl rfl (by kernel_rfl) (by kernel_rfl) (by kernel_rfl) (fun _ _ d _ _ h => ⟨h.1, h.2.1, by cases d <;> exact h.2.2⟩) (fun W hS => by kernel_rfl) hs0 ?_
    simp only [Act.put, List.setIfInBounds_toArray, List.set_cons_zero, List.set_cons_succ]
    refine take_one (i := 8) (d := some 11) (v := .pointer (some ⟨R, 0, none⟩)) rfl rfl rfl (by kernel_rfl) (by kernel_rfl) (by kernel_rfl) (fun _ _ d _ _ h => ⟨h.1, h.2.1, by cases d <;> exact h.2.2⟩) (fun W hS => by kernel_rfl) hs0 ?_
    simp only [Act.put, List.setIfInBounds_toArray, List.set_cons_zero, List.set_cons_succ]
    refine take_one (i := 9) (d := some 12) (v := .pointer (some ⟨R, 0, none⟩)) rfl rfl rfl (by kernel_rfl) (by kernel_rfl) (by kernel_rfl) (fun _ _ d _ _ h => ⟨h.1, h.2.1, by cases d <;> exact h.2.2⟩) (fun W hS => by kernel_rfl) hs0 ?_
    simp only [Act.put, List.setIfInBounds_toArray, List.set_cons_zero, List.set_cons_succ]
    refine take_one (i := 10) (d := some 13) (v := .pointer (some ⟨R, 1, none⟩)) rfl rfl rfl (by kernel_rfl) (by kernel_rfl) (by kernel_rfl) (fun _ _ d _ _ h => ⟨h.1, h.2.1, by cases d <;> exact h.2.2⟩) (fun W hS => by kernel_rfl) hs0 ?_
    simp only [Act.put, List.setIfInBounds_toArray, List.set_cons_zero, List.set_cons_succ]
    refine take_one (i := 11) (d := some 14) (v := .int .i64 (at' : Int)) rfl rfl rfl (by kernel_rfl) (by kernel_rfl) (by kernel_rfl) (fun _ _ d _ _ h => ⟨h.1, h.2.1, by cases d <;> exact h.2.2⟩) (fun W hS => ex_loadA (.tmp 13) 3 rfl rfl (ld_int (blk_cell hS (j := 1) rfl))) hs0 ?_
    simp only [Act.put, List.setIfInBounds_toArray, List.set_cons_zero, List.set_cons_succ]
    refine all_one (i := 12) (by kernel_rfl) rfl rfl ?_
    refine wp_callP 193 _ (by kernel_rfl) (must_bad at' 50 _) ⟨rfl, rfl, rfl⟩
  · rintro c a' w' ⟨rfl, rfl, hd⟩
    exact ⟨hd, rfl, (Below.refl _ W).drew⟩
theorem and_one (x : Int) (h : 0 ≤ x ∧ x < 65536) : bits .and .u16 x 1 = x % 2 := by
  obtain ⟨n, rfl⟩ := Int.eq_ofNat_of_zero_le h.1
  rw [show (1 : Int) = ((1 : Nat) : Int) from rfl, u16_and_nat n 1 (by omega) (by omega), show (1 : Nat) = 2 ^ 1 - 1 from rfl, Nat.and_two_pow_sub_one_eq_mod]
  omega
variable {f : F6} {g : G6} {vh vb : Value}
theorem vC36 (x : Bool) : (vC f g vh vb).set 36 (.bool x) = vC f { g with fr := x } vh vb := vC_set 1 _
theorem vC37 (x : Int) : (vC f g vh vb).set 37 (.int .u32 x) = vC f { g with id := x } vh vb := vC_set 2 _
theorem vC38 (x : Int) : (vC f g vh vb).set 38 (.int .i64 x) = vC f { g with off := x } vh vb := vC_set 3 _
theorem vC39 (x : Bool) : (vC f g vh vb).set 39 (.bool x) = vC f { g with more := x } vh vb := vC_set 4 _
set_option maxHeartbeats 4000000 in
set_option maxRecDepth 100000 in
theorem fragHead_long (h : RB S W R rest at' (vC f g vh vb) nx left) (hl : 8 ≤ rest.length) (hlim : at' + 8 ≤ 1000000000000000) : Calls Tryz.prog 238 #[.pointer (some ⟨R, 0, none⟩)] W fun e w' => ∃ left', e = .returned (.tuple #[]) ∧ RB S w' R (rest.drop 8) (at' + 8) (vC f ⟨true, gz rest 4 * 16777216 + gz rest 5 * 65536 + gz rest 6 * 256 + gz rest 7, gz rest 2 * 32 + gz rest 3 / 8, decide (gz rest 3 % 2 = 1)⟩ vh vb) (gz rest 0) left' ∧ Only R W w' := by
  obtain ⟨_, _, la, lc, e, _⟩ := h.byt.row
  subst e
  have f2 := gz_fit h.byt.row.fit 2
  have f3 := gz_fit h.byt.row.fit 3
  have f0 := gz_fit h.byt.row.fit 0
  have gd : ∀ k j, gz (rest.drop k) j = gz rest (k + j) := fun k j => by unfold gz; rw [List.getElem?_drop]
  have HGD : Hid _ := gd
  obtain ⟨N2, hN2⟩ : ∃ N2, gz rest 2 * 256 + gz rest 3 = N2 := ⟨_, rfl⟩
  have hN2r : 0 ≤ N2 ∧ N2 < 65536 := by omega
  have hand := and_one N2 hN2r
  have HO8 : Hid (gz rest 2 * 32 + gz rest 3 / 8 = N2 / 8) := by show _ = _; omega
  have HMO : Hid (decide (gz rest 3 % 2 = 1) = (N2 % 2 != 0)) := by
    show _ = _
    have e : gz rest 3 % 2 = N2 % 2 := by omega
    rw [e]
    by_cases q : N2 % 2 = 1
    · simp [q]
    · have : N2 % 2 = 0 := by omega
      simp [this]
  rw [HO8.out, HMO.out]
  have HN2 : Hid _ := hN2
  obtain ⟨nl, hnl⟩ : ∃ nl, rest.length = nl := ⟨_, rfl⟩
  have HNL : Hid _ := hnl
  rw [hnl] at h hl
  have HBX : Hid (W.heap[R]? = some (RBox (.slice la nl lc) at' (vC f g vh vb) nx)) := h.box
  have HR0 : Hid (RB S W.drew R rest at' (vC f g vh vb) nx (.slice la nl lc)) := h.on ((Below.refl _ W).drew)
  have hdec : decide ((8 : Int) ≤ (nl : Int)) = true := by simp; omega
  have HL : Hid _ := hl
  have HLIM : Hid _ := hlim
  obtain ⟨K0, hK0⟩ : ∃ K, gz rest 0 = K := ⟨_, rfl⟩
  have HK0 : Hid _ := hK0
  rw [hK0]
  obtain ⟨ID, hID⟩ : ∃ K, gz rest 4 * 16777216 + gz rest 5 * 65536 + gz rest 6 * 256 + gz rest 7 = K := ⟨_, rfl⟩
  have HID : Hid _ := hID
  rw [hID]
  clear h hl gd hN2 f2 f3 f0 hnl hK0 hID hlim
  go_enter Tryz.func238, Tryz.ntmps238
  go_wp2_with fail
  refine region_end (fun a0 a' w' => a' = (((((((((((((a0.put (some 3) (.pointer (some ⟨R, 0, none⟩))).put (some 4) (.pointer (some ⟨R, 0, none⟩))).put (some 5) (.pointer (some ⟨R, 0, none⟩))).put (some 6) (.pointer (some ⟨R, 0, none⟩))).put (some 7) (.slice la nl lc)).put (some 8) (.int .i64 (nl : Int))).put (some 9) (.bool true)).put (some 10) (.pointer (some ⟨R, 0, none⟩))).put (some 11) (.pointer (some ⟨R, 0, none⟩))).put (some 12) (.pointer (some ⟨R, 0, none⟩))).put (some 13) (.pointer (some ⟨R, 1, none⟩))).put (some 14) (.int .i64 (at' : Int))).put (some 15) (.tuple #[])) ∧ w' = W.drew) (fun _ _ _ => False) ?_ ?_ (fun _ _ _ h => h.elim)
  · skip
    refine wp_region_held (S := fun X => X.heap[R]? = some (RBox (.slice la nl lc) at' (vC f g vh vb) nx)) (by kernel_rfl) ?_
    show wpAnyH _ _ _ _ _ 13 (Array.replicate 13 false) _ _
    have hs0 : W.drew.heap[R]? = some (RBox (.slice la nl lc) at' (vC f g vh vb) nx) := HBX.out
    refine take_one (i := 0) (d := some 3) (v := .pointer (some ⟨R, 0, none⟩)) rfl rfl rfl (by kernel_rfl) (by kernel_rfl) (by kernel_rfl) (fun _ _ _ _ _ h => h.elim) (fun W hS => by kernel_rfl) hs0 ?_
    simp only [Act.put, List.setIfInBounds_toArray, List.set_cons_zero, List.set_cons_succ]
    refine take_one (i := 1) (d := some 4) (v := .pointer (some ⟨R, 0, none⟩)) rfl rfl rfl (by kernel_rfl) (by kernel_rfl) (by kernel_rfl) (fun _ _ _ _ _ h => h.elim) (fun W hS => by kernel_rfl) hs0 ?_
    simp only [Act.put, List.setIfInBounds_toArray, List.set_cons_zero, List.set_cons_succ]
    refine take_one (i := 2) (d := some 5) (v := .pointer (some ⟨R, 0, none⟩)) rfl rfl rfl (by kernel_rfl) (by kernel_rfl) (by kernel_rfl) (fun _ _ _ _ _ h => h.elim) (fun W hS => by kernel_rfl) hs0 ?_
    simp only [Act.put, List.setIfInBounds_toArray, List.set_cons_zero, List.set_cons_succ]
    refine take_one (i := 3) (d := some 6) (v := .pointer (some ⟨R, 0, none⟩)) rfl rfl rfl (by kernel_rfl) (by kernel_rfl) (by kernel_rfl) (fun _ _ _ _ _ h => h.elim) (fun W hS => by kernel_rfl) hs0 ?_
    simp only [Act.put, List.setIfInBounds_toArray, List.set_cons_zero, List.set_cons_succ]
    refine take_one (i := 4) (d := some 7) (v := .slice la nl lc) rfl rfl rfl (by kernel_rfl) (by kernel_rfl) (by kernel_rfl) (fun _ _ _ _ _ h => h.elim) (fun W hS => ex_load 6 rfl rfl (blk_cell hS (j := 0) rfl) ⟨_, _, _, rfl⟩) hs0 ?_
    simp only [Act.put, List.setIfInBounds_toArray, List.set_cons_zero, List.set_cons_succ]
    refine take_one (i := 5) (d := some 8) (v := .int .i64 (nl : Int)) rfl rfl rfl (by kernel_rfl) (by kernel_rfl) (by kernel_rfl) (fun _ _ _ _ _ h => h.elim) (fun W hS => by kernel_rfl) hs0 ?_
    simp only [Act.put, List.setIfInBounds_toArray, List.set_cons_zero, List.set_cons_succ]
    refine take_one (i := 6) (d := some 9) (v := .bool true) rfl rfl rfl (by kernel_rfl) (by kernel_rfl) (by kernel_rfl) (fun _ _ _ _ _ h => h.elim) (fun W hS => ex_geqI (.tmp 8) (.const (.int .i64 8)) rfl rfl rfl hdec) hs0 ?_
    simp only [Act.put, List.setIfInBounds_toArray, List.set_cons_zero, List.set_cons_succ]
    refine take_one (i := 7) (d := some 10) (v := .pointer (some ⟨R, 0, none⟩)) rfl rfl rfl (by kernel_rfl) (by kernel_rfl) (by kernel_rfl) (fun _ _ _ _ _ h => h.elim) (fun W hS => by kernel_rfl) hs0 ?_
    simp only [Act.put, List.setIfInBounds_toArray, List.set_cons_zero, List.set_cons_succ]
    refine take_one (i := 8) (d := some 11) (v := .pointer (some ⟨R, 0, none⟩)) rfl rfl rfl (by kernel_rfl) (by kernel_rfl) (by kernel_rfl) (fun _ _ _ _ _ h => h.elim) (fun W hS => by kernel_rfl) hs0 ?_
    simp only [Act.put, List.setIfInBounds_toArray, List.set_cons_zero, List.set_cons_succ]
    refine take_one (i := 9) (d := some 12) (v := .pointer (some ⟨R, 0, none⟩)) rfl rfl rfl (by kernel_rfl) (by kernel_rfl) (by kernel_rfl) (fun _ _ _ _ _ h => h.elim) (fun W hS => by kernel_rfl) hs0 ?_
    simp only [Act.put, List.setIfInBounds_toArray, List.set_cons_zero, List.set_cons_succ]
    refine take_one (i := 10) (d := some 13) (v := .pointer (some ⟨R, 1, none⟩)) rfl rfl rfl (by kernel_rfl) (by kernel_rfl) (by kernel_rfl) (fun _ _ _ _ _ h => h.elim) (fun W hS => by kernel_rfl) hs0 ?_
    simp only [Act.put, List.setIfInBounds_toArray, List.set_cons_zero, List.set_cons_succ]
    refine take_one (i := 11) (d := some 14) (v := .int .i64 (at' : Int)) rfl rfl rfl (by kernel_rfl) (by kernel_rfl) (by kernel_rfl) (fun _ _ _ _ _ h => h.elim) (fun W hS => ex_loadA (.tmp 13) 3 rfl rfl (ld_int (blk_cell hS (j := 1) rfl))) hs0 ?_
    simp only [Act.put, List.setIfInBounds_toArray, List.set_cons_zero, List.set_cons_succ]
    refine all_one (i := 12) (by kernel_rfl) rfl rfl ?_
    refine wp_call (d := some 15) (R := fun v X => v = .tuple #[] ∧ X = W.drew) 193 _ rfl (by kernel_rfl) ((must_good at' 50 _).mono (fun e X hx => ⟨_, hx.1, rfl, hx.2⟩)) ?_
    rintro v X ⟨rfl, rfl⟩
    refine ⟨hs0, ?_⟩
    simp only [Act.put, List.setIfInBounds_toArray, List.set_cons_zero, List.set_cons_succ]
    refine wpAnyH_done (by kernel_rfl) ?_ _
    exact ⟨rfl, rfl⟩
  rintro a' w' ⟨rfl, rfl⟩
  simp only [Act.put, List.setIfInBounds_toArray, List.set_cons_zero, List.set_cons_succ]
  have HO1 : Hid _ := octet_calls HR0.out (by rw [HNL.out]; have := HL.out; omega) (by have := HLIM.out; omega)
  rw [HK0.out] at HO1
  have HWD : Hid (Only R W W.drew) := (Only.refl R W).drew
  clear hdec HR0 HBX
  obtain ⟨W1, hW1⟩ : ∃ W1, W.drew = W1 := ⟨_, rfl⟩
  rw [hW1] at HO1 HWD ⊢
  clear hW1
  go_wp2_with fail
  refine Calls.mono HO1.out ?_
  rintro e w1 ⟨l1, rfl, hr1, ho1⟩
  obtain ⟨w2, hst2, hr2, hon2⟩ : ∃ w2, (Instr.storeAt 5 (.pointer (some ⟨R, 44, none⟩)) (.int .u8 K0)).run Tryz.prog w1 = .ok () w2 ∧ RB S w2 R (rest.drop 1) (at' + 1) (vC f g vh vb) K0 l1 ∧ Only R w1 w2 := ⟨_, st_u8 hr1.box (j := 44) (by rw [rC_len, vC_len]; decide) K0, hr1.next K0 (n := 42) vC_len, (Only.refl _ w1).set 44 _⟩
  have HS2 : Hid _ := hst2
  have HON2 : Hid (Only R W w2) := HWD.out.trans (ho1.trans hon2)
  have HO2 : Hid _ := octet_calls hr2 (by rw [List.length_drop, HNL.out]; have := HL.out; omega) (by have := HLIM.out; omega)
  rw [List.drop_drop] at HO2
  clear hr1 ho1 hst2 hr2 hon2 HO1 HWD
  go_wp2_with first
    | ((with_reducible show wpList _ _ _ ({ dst := _, op := Op.store 5 (Operand.tmp 22) _, type := _, pos := _, after := _, guard := _ } :: _) _ _); refine armS (.tmp 22) (.tmp 20) 5 rfl rfl rfl rfl HS2.out ?_; try simp only [Act.put])
  refine Calls.mono HO2.out ?_
  rintro e w3 ⟨l3, rfl, hr3, ho3⟩
  have HON3 : Hid (Only R W w3) := HON2.out.trans ho3
  have HW3 : Hid _ := word_calls hr3 (by rw [List.length_drop, HNL.out]; have := HL.out; omega) (by have := HLIM.out; omega)
  rw [List.drop_drop, HGD.out, HGD.out, HN2.out] at HW3
  clear hr3 ho3 HO2 HON2 HS2
  go_wp2_with fail
  refine Calls.mono HW3.out ?_
  rintro e w4 ⟨l4, rfl, hr4, ho4⟩
  obtain ⟨w5, hst5, hr5, hon5⟩ : ∃ w5, (Instr.storeAt 4 (.pointer (some ⟨R, 38, none⟩)) (.bool true)).run Tryz.prog w4 = .ok () w5 ∧ RB S w5 R (rest.drop 4) (at' + 4) (vC f { g with fr := true } vh vb) K0 l4 ∧ Only R w4 w5 := ⟨_, st_bool hr4.box (j := 38) (by rw [rC_len, vC_len]; decide) true, by have := hr4.put (j := 36) (by rw [vC_len]; decide) (.bool true); rw [vC36] at this; exact this, (Only.refl _ w4).set 38 _⟩
  obtain ⟨w6, hst6, hr6, hon6⟩ : ∃ w6, (Instr.storeAt 3 (.pointer (some ⟨R, 40, none⟩)) (.int .i64 (N2 / 8))).run Tryz.prog w5 = .ok () w6 ∧ RB S w6 R (rest.drop 4) (at' + 4) (vC f { g with fr := true, off := N2 / 8 } vh vb) K0 l4 ∧ Only R w5 w6 := ⟨_, st_int hr5.box (j := 40) (by rw [rC_len, vC_len]; decide) (N2 / 8), by have := hr5.put (j := 38) (by rw [vC_len]; decide) (.int .i64 (N2 / 8)); rw [vC38] at this; exact this, (Only.refl _ w5).set 40 _⟩
  obtain ⟨w7, hst7, hr7, hon7⟩ : ∃ w7, (Instr.storeAt 4 (.pointer (some ⟨R, 41, none⟩)) (.bool (N2 % 2 != 0))).run Tryz.prog w6 = .ok () w7 ∧ RB S w7 R (rest.drop 4) (at' + 4) (vC f { g with fr := true, off := N2 / 8, more := (N2 % 2 != 0) } vh vb) K0 l4 ∧ Only R w6 w7 := ⟨_, st_bool hr6.box (j := 41) (by rw [rC_len, vC_len]; decide) _, by have := hr6.put (j := 39) (by rw [vC_len]; decide) (.bool (N2 % 2 != 0)); rw [vC39] at this; exact this, (Only.refl _ w6).set 41 _⟩
  have HS5 : Hid _ := hst5
  have HS6 : Hid _ := hst6
  have HS7 : Hid _ := hst7
  have HON7 : Hid (Only R W w7) := HON3.out.trans (ho4.trans (hon5.trans (hon6.trans hon7)))
  have HLG : Hid _ := long_calls hr7 (by rw [List.length_drop, HNL.out]; have := HL.out; omega) (by have := HLIM.out; omega)
  rw [List.drop_drop, HGD.out, HGD.out, HGD.out, HGD.out, HID.out] at HLG
  clear hr4 ho4 hst5 hr5 hon5 hst6 hr6 hon6 hst7 hr7 hon7 HW3 HON3
  go_wp2_with first
    | ((with_reducible show wpList _ _ _ ({ dst := _, op := Op.store 4 (Operand.tmp 42) _, type := _, pos := _, after := _, guard := _ } :: _) _ _); refine armS (.tmp 42) (.const (.bool true)) 4 rfl rfl rfl rfl HS5.out ?_; try simp only [Act.put])
    | ((with_reducible show wpList _ _ _ ({ dst := _, op := Op.store 3 (Operand.tmp 45) _, type := _, pos := _, after := _, guard := _ } :: _) _ _); refine armS (.tmp 45) (.tmp 36) 3 rfl rfl rfl rfl HS6.out ?_; try simp only [Act.put])
    | ((with_reducible show wpList _ _ _ ({ dst := _, op := Op.store 4 (Operand.tmp 48) _, type := _, pos := _, after := _, guard := _ } :: _) _ _); refine armS (.tmp 48) (.tmp 39) 4 rfl rfl rfl rfl HS7.out ?_; try simp only [Act.put])
  refine Calls.mono HLG.out ?_
  rintro e w8 ⟨l8, rfl, hr8, ho8⟩
  obtain ⟨w9, hst9, hr9, hon9⟩ : ∃ w9, (Instr.storeAt 33 (.pointer (some ⟨R, 39, none⟩)) (.int .u32 ID)).run Tryz.prog w8 = .ok () w9 ∧ RB S w9 R (rest.drop 8) (at' + 8) (vC f ⟨true, ID, N2 / 8, (N2 % 2 != 0)⟩ vh vb) K0 l8 ∧ Only R w8 w9 := ⟨_, st_u32 hr8.box (j := 39) (by rw [rC_len, vC_len]; decide) ID, by have := hr8.put (j := 37) (by rw [vC_len]; decide) (.int .u32 ID); rw [vC37] at this; exact this, (Only.refl _ w8).set 39 _⟩
  have HS9 : Hid _ := hst9
  have HR9 : Hid (RB S w9 R (rest.drop 8) (at' + 8) (vC f ⟨true, ID, N2 / 8, (N2 % 2 != 0)⟩ vh vb) K0 l8) := hr9
  have HON9 : Hid (Only R W w9) := HON7.out.trans (ho8.trans hon9)
  clear hr8 ho8 hst9 hr9 hon9 HLG HON7 HS5 HS6 HS7
  go_wp2_with first
    | ((with_reducible show wpList _ _ _ ({ dst := _, op := Op.store 33 (Operand.tmp 56) _, type := _, pos := _, after := _, guard := _ } :: _) _ _); refine armS (.tmp 56) (.tmp 53) 33 rfl rfl rfl rfl HS9.out ?_; try simp only [Act.put])
  go_end0
  exact ⟨l8, rfl, HR9.out, HON9.out⟩
end
end Go.Proofs.YtpgnnplpcalbbaaGreat.V6
namespace Go.Proofs.YtpgnnplpcalbbaaGreat.V6
open Go Go.RowKit
section
variable {S O : Nat → Prop} {W W' : World} {R : Nat} {rest : List Int} {at' : Nat} {c : List Value} {nx : Int} {left : Value} {f : F6} {g : G6} {vh vb : Value} {hs : Opts} {ds : List Value} {bs : Nat}
theorem RB.sep (h : RB S W R rest at' c nx left) (hs : Sep O W W') (hR : ¬ O R) (hS : ∀ b, S b → ¬ O b) : RB S W' R rest at' c nx left :=
  ⟨hs.blk h.box hR, h.byt.sep hs hS, h.ne, h.hi⟩
theorem RB.k44 (h : RB S W R rest at' c nx left) (hc : c.length = 42) : W.cell? ⟨R, 44, none⟩ = some (.int .u8 nx) := by
  have e : (c ++ [Value.int .u8 nx])[42]? = some (.int .u8 nx) := by
    rw [List.getElem?_append_right (by rw [hc]; exact Nat.le_refl _), hc]
    rfl
  exact blk_cell h.box e
theorem box_k44 {l : Value} (h : W.heap[R]? = some (RBox l at' (vC f g vh vb) nx)) : W.cell? ⟨R, 44, none⟩ = some (.int .u8 nx) := by
  have e : (vC f g vh vb ++ [Value.int .u8 nx])[42]? = some (.int .u8 nx) := by
    rw [List.getElem?_append_right (by rw [vC_len]; exact Nat.le_refl _), vC_len]
    rfl
  exact blk_cell h e
theorem vC35 (x : Value) : (vC f g vh vb).set 35 x = vC f g x vb := vC_set 0 _
set_option maxHeartbeats 8000000 in
set_option maxRecDepth 100000 in
theorem head_calls (h : RB S W R rest at' (vC f g vh vb) nx left) (hS : ∀ b, S b → b < R) (hrow : HRow bs W vh hs ds) (hbs : R < bs ∧ bs ≤ W.heap.size) (hn8 : hs.length ≤ 8) (hlim : at' + 3000 ≤ 1000000000000000) (hnx : 0 ≤ nx ∧ nx < 256) (X : Ending → World → Prop)
    (x1 : rest.length < 8 → ∀ w', Below W.heap.size W w' → X (.panicked [fltP at' 50]) w')
    (x2 : 8 ≤ rest.length → rest.length < szH rest → ∀ w', Below W.heap.size W w' → X (.panicked [fltP at' 50]) w')
    (x3 : 8 ≤ rest.length → szH rest ≤ rest.length → ¬ (hs.length < 8 ∧ kindB nx hs.length = true) → ∀ w', Below W.heap.size W w' → X (.panicked [fltP at' 53]) w')
    (x4 : 8 ≤ rest.length → szH rest ≤ rest.length → hs.length < 8 ∧ kindB nx hs.length = true → ∀ w' left' vh' ds', RB S w' R (rest.drop (szH rest)) (at' + szH rest) (vC f g vh' vb) (gz rest 0) left' → HRow bs w' vh' (hs ++ [(nx, (rest.take (szH rest)).drop 2)]) ds' → Sep (fun b => b = R ∨ bs ≤ b) W w' → X (.returned (.tuple #[])) w') :
    Calls Tryz.prog 237 #[.pointer (some ⟨R, 0, none⟩)] W X := by
  obtain ⟨va, vc, ev⟩ := hrow.slc
  subst ev
  obtain ⟨vn, hvn⟩ : ∃ n, hs.length = n := ⟨_, rfl⟩
  have HVN : Hid (hs.length = vn ∧ vn ≤ 8) := ⟨hvn, hvn ▸ hn8⟩
  rw [hvn] at h hrow x3 x4
  have HNX : Hid (0 ≤ nx ∧ nx < 256) := hnx
  have HBS : Hid (R < bs ∧ bs ≤ W.heap.size) := hbs
  have HSR : Hid (∀ b, S b → b < R) := hS
  have HX2 : Hid _ := x2
  have HX3 : Hid _ := x3
  have HX4 : Hid _ := x4
  have HX1 : Hid _ := x1
  clear x1 x2 x3 x4 hvn hn8 hnx hS hbs
  by_cases h8 : rest.length < 8
  · obtain ⟨_, _, la, lc, e, _⟩ := h.byt.row
    subst e
    have HF : Hid (∀ w', Below W.heap.size W w' → X (.panicked [fltP at' 50]) w') := HX1.out h8
    obtain ⟨nl, hnl⟩ : ∃ nl, rest.length = nl := ⟨_, rfl⟩
    rw [hnl] at h h8
    have HBX : Hid (W.heap[R]? = some (RBox (.slice la nl lc) at' (vC f g (.slice va vn vc) vb) nx)) := h.box
    have hdec : decide ((8 : Int) ≤ (nl : Int)) = false := by simp; omega
    clear h h8 HX1 HX2 HX3 HX4 hrow hlim HVN HNX HSR
    go_enter Tryz.func237, Tryz.ntmps237
    go_wp2_with fail
    refine region_end (fun _ _ _ => False) (fun c b w' => c = [fltP at' 50] ∧ w' = W.drew ∧ b.defers = []) ?_ (fun _ _ h => h.elim) ?_
    · skip
      refine wp_region_held (S := fun X => X.heap[R]? = some (RBox (.slice la nl lc) at' (vC f g (.slice va vn vc) vb) nx)) (by kernel_rfl) ?_
      show wpAnyH _ _ _ _ _ 13 (Array.replicate 13 false) _ _
      have hs0 : W.drew.heap[R]? = some (RBox (.slice la nl lc) at' (vC f g (.slice va vn vc) vb) nx) := HBX.out
      refine take_one (i := 0) (d := some 5) (v := .pointer (some ⟨R, 0, none⟩)) rfl rfl rfl (by kernel_rfl) (by kernel_rfl) (by kernel_rfl) (fun _ _ d _ _ h => ⟨h.1, h.2.1, by cases d <;> exact h.2.2⟩) (fun W hS => by kernel_rfl) hs0 ?_
      simp only [Act.put, List.setIfInBounds_toArray, List.set_cons_zero, List.set_cons_succ]
      refine take_one (i := 1) (d := some 6) (v := .pointer (some ⟨R, 0, none⟩)) rfl rfl rfl (by kernel_rfl) (by kernel_rfl) (by kernel_rfl) (fun _ _ d _ _ h => ⟨h.1, h.2.1, by cases d <;> exact h.2.2⟩) (fun W hS => by kernel_rfl) hs0 ?_
      simp only [Act.put, List.setIfInBounds_toArray, List.set_cons_zero, List.set_cons_succ]
      refine take_one (i := 2) (d := some 7) (v := .pointer (some ⟨R, 0, none⟩)) rfl rfl rfl (by kernel_rfl) (by kernel_rfl) (by kernel_rfl) (fun _ _ d _ _ h => ⟨h.1, h.2.1, by cases d <;> exact h.2.2⟩) (fun W hS => by kernel_rfl) hs0 ?_
      simp only [Act.put, List.setIfInBounds_toArray, List.set_cons_zero, List.set_cons_succ]
      refine take_one (i := 3) (d := some 8) (v := .pointer (some ⟨R, 0, none⟩)) rfl rfl rfl (by kernel_rfl) (by kernel_rfl) (by kernel_rfl) (fun _ _ d _ _ h => ⟨h.1, h.2.1, by cases d <;> exact h.2.2⟩) (fun W hS => by kernel_rfl) hs0 ?_
      simp only [Act.put, List.setIfInBounds_toArray, List.set_cons_zero, List.set_cons_succ]
      refine take_one (i := 4) (d := some 9) (v := .slice la nl lc) rfl rfl rfl (by kernel_rfl) (by kernel_rfl) (by kernel_rfl) (fun _ _ d _ _ h => ⟨h.1, h.2.1, by cases d <;> exact h.2.2⟩) (fun W hS => ex_load 8 rfl rfl (blk_cell hS (j := 0) rfl) ⟨_, _, _, rfl⟩) hs0 ?_
      simp only [Act.put, List.setIfInBounds_toArray, List.set_cons_zero, List.set_cons_succ]
      refine take_one (i := 5) (d := some 10) (v := .int .i64 (nl : Int)) rfl rfl rfl (by kernel_rfl) (by kernel_rfl) (by kernel_rfl) (fun _ _ d _ _ h => ⟨h.1, h.2.1, by cases d <;> exact h.2.2⟩) (fun W hS => by kernel_rfl) hs0 ?_
      simp only [Act.put, List.setIfInBounds_toArray, List.set_cons_zero, List.set_cons_succ]
      refine take_one (i := 6) (d := some 11) (v := .bool false) rfl rfl rfl (by kernel_rfl) (by kernel_rfl) (by kernel_rfl) (fun _ _ d _ _ h => ⟨h.1, h.2.1, by cases d <;> exact h.2.2⟩) (fun W hS => ex_geqI (.tmp 10) (.const (.int .i64 8)) rfl rfl rfl hdec) hs0 ?_
      simp only [Act.put, List.setIfInBounds_toArray, List.set_cons_zero, List.set_cons_succ]
      refine take_one (i := 7) (d := some 12) (v := .pointer (some ⟨R, 0, none⟩)) rfl rfl rfl (by kernel_rfl) (by kernel_rfl) (by kernel_rfl) (fun _ _ d _ _ h => ⟨h.1, h.2.1, by cases d <;> exact h.2.2⟩) (fun W hS => by kernel_rfl) hs0 ?_
      simp only [Act.put, List.setIfInBounds_toArray, List.set_cons_zero, List.set_cons_succ]
      refine take_one (i := 8) (d := some 13) (v := .pointer (some ⟨R, 0, none⟩)) rfl rfl rfl (by kernel_rfl) (by kernel_rfl) (by kernel_rfl) (fun _ _ d _ _ h => ⟨h.1, h.2.1, by cases d <;> exact h.2.2⟩) (fun W hS => by kernel_rfl) hs0 ?_
      simp only [Act.put, List.setIfInBounds_toArray, List.set_cons_zero, List.set_cons_succ]
      refine take_one (i := 9) (d := some 14) (v := .pointer (some ⟨R, 0, none⟩)) rfl rfl rfl (by kernel_rfl) (by kernel_rfl) (by kernel_rfl) (fun _ _ d _ _ h => ⟨h.1, h.2.1, by cases d <;> exact h.2.2⟩) (fun W hS => by kernel_rfl) hs0 ?_
      simp only [Act.put, List.setIfInBounds_toArray, List.set_cons_zero, List.set_cons_succ]
      refine take_one (i := 10) (d := some 15) (v := .pointer (some ⟨R, 1, none⟩)) rfl rfl rfl (by kernel_rfl) (by kernel_rfl) (by kernel_rfl) (fun _ _ d _ _ h => ⟨h.1, h.2.1, by cases d <;> exact h.2.2⟩) (fun W hS => by kernel_rfl) hs0 ?_
      simp only [Act.put, List.setIfInBounds_toArray, List.set_cons_zero, List.set_cons_succ]
      refine take_one (i := 11) (d := some 16) (v := .int .i64 (at' : Int)) rfl rfl rfl (by kernel_rfl) (by kernel_rfl) (by kernel_rfl) (fun _ _ d _ _ h => ⟨h.1, h.2.1, by cases d <;> exact h.2.2⟩) (fun W hS => ex_loadA (.tmp 15) 3 rfl rfl (ld_int (blk_cell hS (j := 1) rfl))) hs0 ?_
      simp only [Act.put, List.setIfInBounds_toArray, List.set_cons_zero, List.set_cons_succ]
      refine all_one (i := 12) (by kernel_rfl) rfl rfl ?_
      refine wp_callP 193 _ (by kernel_rfl) (must_bad at' 50 _) ⟨rfl, rfl, rfl⟩
    · rintro c a' w' ⟨rfl, rfl, hd⟩
      exact ⟨hd, HF.out _ ((Below.refl _ W).drew)⟩
  · have h8' : 8 ≤ rest.length := by omega
    obtain ⟨lb, lo, n', lc, ev, _, hcell⟩ := h.byt.first (by omega)
    subst ev
    have f0 := gz_fit h.byt.row.fit 0
    have f1 := gz_fit h.byt.row.fit 1
    obtain ⟨G1, hG1⟩ : ∃ G, gz rest 1 = G := ⟨_, rfl⟩
    obtain ⟨G0, hG0⟩ : ∃ G, gz rest 0 = G := ⟨_, rfl⟩
    have hc1 := hcell 1 (by omega)
    rw [hG1] at hc1 f1
    rw [hG0] at f0
    obtain ⟨sz, hsz⟩ : ∃ s, szH rest = s := ⟨_, rfl⟩
    have hszG : (sz : Int) = (G1 + 1) * 8 := by
      rw [← hsz]
      unfold szH
      rw [hG1]
      omega
    have w26 : IntKind.i64.wrap (G1 + 1) = G1 + 1 := wrapi64 _ (by omega)
    have w27 : IntKind.i64.wrap ((G1 + 1) * 8) = (sz : Int) := by rw [← hszG]; exact wrapi64 _ (by omega)
    have HSZB : Hid (8 ≤ sz ∧ sz ≤ 2048) := ⟨by omega, by omega⟩
    obtain ⟨nl, hnl⟩ : ∃ nl, rest.length = nl := ⟨_, rfl⟩
    have HNL : Hid (rest.length = nl ∧ 8 ≤ nl) := ⟨hnl, by omega⟩
    rw [hsz] at HX2 HX3 HX4
    rw [hG0] at HX4
    have HG0 : Hid (gz rest 0 = G0) := hG0
    rw [hnl] at h h8'
    have HBX : Hid (W.heap[R]? = some (RBox (.slice (some ⟨lb, lo, none⟩) nl lc) at' (vC f g (.slice va vn vc) vb) nx)) := h.box
    have HR1 : Hid (RB S W.drew R rest at' (vC f g (.slice va vn vc) vb) nx (.slice (some ⟨lb, lo, none⟩) nl lc)) := h.on ((Below.refl _ W).drew)
    have HRW : Hid (HRow bs W.drew (.slice va vn vc) hs ds) := hrow.on ((Below.refl _ W).drew)
    have HB1 : Hid (Below W.heap.size W W.drew) := (Below.refl _ W).drew
    have hdec : decide ((8 : Int) ≤ (nl : Int)) = true := by simp; omega
    have hc1' : W.drew.cell? ⟨lb, lo + 1, none⟩ = some (.int .u8 G1) := hc1
    have HLIM : Hid _ := hlim
    have i1 : 1 < nl := by omega
    clear h h8 h8' HX1 hrow hlim hcell hc1 hG1 hG0 hsz hnl hszG
    go_enter Tryz.func237, Tryz.ntmps237
    go_wp2_with fail
    refine region_end (fun a0 a' w' => a' = (((((((((((((a0.put (some 5) (.pointer (some ⟨R, 0, none⟩))).put (some 6) (.pointer (some ⟨R, 0, none⟩))).put (some 7) (.pointer (some ⟨R, 0, none⟩))).put (some 8) (.pointer (some ⟨R, 0, none⟩))).put (some 9) (.slice (some ⟨lb, lo, none⟩) nl lc)).put (some 10) (.int .i64 (nl : Int))).put (some 11) (.bool true)).put (some 12) (.pointer (some ⟨R, 0, none⟩))).put (some 13) (.pointer (some ⟨R, 0, none⟩))).put (some 14) (.pointer (some ⟨R, 0, none⟩))).put (some 15) (.pointer (some ⟨R, 1, none⟩))).put (some 16) (.int .i64 (at' : Int))).put (some 17) (.tuple #[])) ∧ w' = W.drew) (fun _ _ _ => False) ?_ ?_ (fun _ _ _ h => h.elim)
    · skip
      refine wp_region_held (S := fun X => X.heap[R]? = some (RBox (.slice (some ⟨lb, lo, none⟩) nl lc) at' (vC f g (.slice va vn vc) vb) nx)) (by kernel_rfl) ?_
      show wpAnyH _ _ _ _ _ 13 (Array.replicate 13 false) _ _
      have hs0 : W.drew.heap[R]? = some (RBox (.slice (some ⟨lb, lo, none⟩) nl lc) at' (vC f g (.slice va vn vc) vb) nx) := HBX.out
      refine take_one (i := 0) (d := some 5) (v := .pointer (some ⟨R, 0, none⟩)) rfl rfl rfl (by kernel_rfl) (by kernel_rfl) (by kernel_rfl) (fun _ _ _ _ _ h => h.elim) (fun W hS => by kernel_rfl) hs0 ?_
      simp only [Act.put, List.setIfInBounds_toArray, List.set_cons_zero, List.set_cons_succ]
      refine take_one (i := 1) (d := some 6) (v := .pointer (some ⟨R, 0, none⟩)) rfl rfl rfl (by kernel_rfl) (by kernel_rfl) (by kernel_rfl) (fun _ _ _ _ _ h => h.elim) (fun W hS => by kernel_rfl) hs0 ?_
      simp only [Act.put, List.setIfInBounds_toArray, List.set_cons_zero, List.set_cons_succ]
      refine take_one (i := 2) (d := some 7) (v := .pointer (some ⟨R, 0, none⟩)) rfl rfl rfl (by kernel_rfl) (by kernel_rfl) (by kernel_rfl) (fun _ _ _ _ _ h => h.elim) (fun W hS => by kernel_rfl) hs0 ?_
      simp only [Act.put, List.setIfInBounds_toArray, List.set_cons_zero, List.set_cons_succ]
      refine take_one (i := 3) (d := some 8) (v := .pointer (some ⟨R, 0, none⟩)) rfl rfl rfl (by kernel_rfl) (by kernel_rfl) (by kernel_rfl) (fun _ _ _ _ _ h => h.elim) (fun W hS => by kernel_rfl) hs0 ?_
      simp only [Act.put, List.setIfInBounds_toArray, List.set_cons_zero, List.set_cons_succ]
      refine take_one (i := 4) (d := some 9) (v := .slice (some ⟨lb, lo, none⟩) nl lc) rfl rfl rfl (by kernel_rfl) (by kernel_rfl) (by kernel_rfl) (fun _ _ _ _ _ h => h.elim) (fun W hS => ex_load 8 rfl rfl (blk_cell hS (j := 0) rfl) ⟨_, _, _, rfl⟩) hs0 ?_
      simp only [Act.put, List.setIfInBounds_toArray, List.set_cons_zero, List.set_cons_succ]
      refine take_one (i := 5) (d := some 10) (v := .int .i64 (nl : Int)) rfl rfl rfl (by kernel_rfl) (by kernel_rfl) (by kernel_rfl) (fun _ _ _ _ _ h => h.elim) (fun W hS => by kernel_rfl) hs0 ?_
      simp only [Act.put, List.setIfInBounds_toArray, List.set_cons_zero, List.set_cons_succ]
      refine take_one (i := 6) (d := some 11) (v := .bool true) rfl rfl rfl (by kernel_rfl) (by kernel_rfl) (by kernel_rfl) (fun _ _ _ _ _ h => h.elim) (fun W hS => ex_geqI (.tmp 10) (.const (.int .i64 8)) rfl rfl rfl hdec) hs0 ?_
      simp only [Act.put, List.setIfInBounds_toArray, List.set_cons_zero, List.set_cons_succ]
      refine take_one (i := 7) (d := some 12) (v := .pointer (some ⟨R, 0, none⟩)) rfl rfl rfl (by kernel_rfl) (by kernel_rfl) (by kernel_rfl) (fun _ _ _ _ _ h => h.elim) (fun W hS => by kernel_rfl) hs0 ?_
      simp only [Act.put, List.setIfInBounds_toArray, List.set_cons_zero, List.set_cons_succ]
      refine take_one (i := 8) (d := some 13) (v := .pointer (some ⟨R, 0, none⟩)) rfl rfl rfl (by kernel_rfl) (by kernel_rfl) (by kernel_rfl) (fun _ _ _ _ _ h => h.elim) (fun W hS => by kernel_rfl) hs0 ?_
      simp only [Act.put, List.setIfInBounds_toArray, List.set_cons_zero, List.set_cons_succ]
      refine take_one (i := 9) (d := some 14) (v := .pointer (some ⟨R, 0, none⟩)) rfl rfl rfl (by kernel_rfl) (by kernel_rfl) (by kernel_rfl) (fun _ _ _ _ _ h => h.elim) (fun W hS => by kernel_rfl) hs0 ?_
      simp only [Act.put, List.setIfInBounds_toArray, List.set_cons_zero, List.set_cons_succ]
      refine take_one (i := 10) (d := some 15) (v := .pointer (some ⟨R, 1, none⟩)) rfl rfl rfl (by kernel_rfl) (by kernel_rfl) (by kernel_rfl) (fun _ _ _ _ _ h => h.elim) (fun W hS => by kernel_rfl) hs0 ?_
      simp only [Act.put, List.setIfInBounds_toArray, List.set_cons_zero, List.set_cons_succ]
      refine take_one (i := 11) (d := some 16) (v := .int .i64 (at' : Int)) rfl rfl rfl (by kernel_rfl) (by kernel_rfl) (by kernel_rfl) (fun _ _ _ _ _ h => h.elim) (fun W hS => ex_loadA (.tmp 15) 3 rfl rfl (ld_int (blk_cell hS (j := 1) rfl))) hs0 ?_
      simp only [Act.put, List.setIfInBounds_toArray, List.set_cons_zero, List.set_cons_succ]
      refine all_one (i := 12) (by kernel_rfl) rfl rfl ?_
      refine wp_call (d := some 17) (R := fun v X => v = .tuple #[] ∧ X = W.drew) 193 _ rfl (by kernel_rfl) ((must_good at' 50 _).mono (fun e X hx => ⟨_, hx.1, rfl, hx.2⟩)) ?_
      rintro v X ⟨rfl, rfl⟩
      refine ⟨hs0, ?_⟩
      simp only [Act.put, List.setIfInBounds_toArray, List.set_cons_zero, List.set_cons_succ]
      refine wpAnyH_done (by kernel_rfl) ?_ _
      exact ⟨rfl, rfl⟩
    rintro a' w' ⟨rfl, rfl⟩
    simp only [Act.put, List.setIfInBounds_toArray, List.set_cons_zero, List.set_cons_succ]
    clear hdec HBX
    obtain ⟨W1, hW1⟩ : ∃ W1, W.drew = W1 := ⟨_, rfl⟩
    rw [hW1] at HR1 HRW HB1 hc1' ⊢
    clear hW1
    have k0 := HR1.out.k0
    go_wp2_with fail
    clear k0 hc1' w26 w27 i1
    have HBX1 : Hid (W1.heap[R]? = some (RBox (.slice (some ⟨lb, lo, none⟩) nl lc) at' (vC f g (.slice va vn vc) vb) nx)) := HR1.out.box
    by_cases hz : nl < sz
    · have hdec : decide ((sz : Int) ≤ (nl : Int)) = false := by simp; omega
      refine region_end (fun _ _ _ => False) (fun c b w' => c = [fltP at' 50] ∧ w' = W1.drew ∧ b.defers = []) ?_ (fun _ _ h => h.elim) ?_
      · skip
        refine wp_region_held (S := fun X => X.heap[R]? = some (RBox (.slice (some ⟨lb, lo, none⟩) nl lc) at' (vC f g (.slice va vn vc) vb) nx)) (by kernel_rfl) ?_
        show wpAnyH _ _ _ _ _ 14 (Array.replicate 14 false) _ _
        have hs0 : W1.drew.heap[R]? = some (RBox (.slice (some ⟨lb, lo, none⟩) nl lc) at' (vC f g (.slice va vn vc) vb) nx) := HBX1.out
        refine take_one (i := 0) (d := some 28) (v := .pointer (some ⟨R, 0, none⟩)) rfl rfl rfl (by kernel_rfl) (by kernel_rfl) (by kernel_rfl) (fun _ _ d _ _ h => ⟨h.1, h.2.1, by cases d <;> exact h.2.2⟩) (fun W hS => by kernel_rfl) hs0 ?_
        simp only [Act.put, List.setIfInBounds_toArray, List.set_cons_zero, List.set_cons_succ]
        refine take_one (i := 1) (d := some 29) (v := .pointer (some ⟨R, 0, none⟩)) rfl rfl rfl (by kernel_rfl) (by kernel_rfl) (by kernel_rfl) (fun _ _ d _ _ h => ⟨h.1, h.2.1, by cases d <;> exact h.2.2⟩) (fun W hS => by kernel_rfl) hs0 ?_
        simp only [Act.put, List.setIfInBounds_toArray, List.set_cons_zero, List.set_cons_succ]
        refine take_one (i := 2) (d := some 30) (v := .pointer (some ⟨R, 0, none⟩)) rfl rfl rfl (by kernel_rfl) (by kernel_rfl) (by kernel_rfl) (fun _ _ d _ _ h => ⟨h.1, h.2.1, by cases d <;> exact h.2.2⟩) (fun W hS => by kernel_rfl) hs0 ?_
        simp only [Act.put, List.setIfInBounds_toArray, List.set_cons_zero, List.set_cons_succ]
        refine take_one (i := 3) (d := some 31) (v := .pointer (some ⟨R, 0, none⟩)) rfl rfl rfl (by kernel_rfl) (by kernel_rfl) (by kernel_rfl) (fun _ _ d _ _ h => ⟨h.1, h.2.1, by cases d <;> exact h.2.2⟩) (fun W hS => by kernel_rfl) hs0 ?_
        simp only [Act.put, List.setIfInBounds_toArray, List.set_cons_zero, List.set_cons_succ]
        refine take_one (i := 4) (d := some 32) (v := .slice (some ⟨lb, lo, none⟩) nl lc) rfl rfl rfl (by kernel_rfl) (by kernel_rfl) (by kernel_rfl) (fun _ _ d _ _ h => ⟨h.1, h.2.1, by cases d <;> exact h.2.2⟩) (fun W hS => ex_load 31 rfl rfl (blk_cell hS (j := 0) rfl) ⟨_, _, _, rfl⟩) hs0 ?_
        simp only [Act.put, List.setIfInBounds_toArray, List.set_cons_zero, List.set_cons_succ]
        refine take_one (i := 5) (d := some 33) (v := .int .i64 (nl : Int)) rfl rfl rfl (by kernel_rfl) (by kernel_rfl) (by kernel_rfl) (fun _ _ d _ _ h => ⟨h.1, h.2.1, by cases d <;> exact h.2.2⟩) (fun W hS => by kernel_rfl) hs0 ?_
        simp only [Act.put, List.setIfInBounds_toArray, List.set_cons_zero, List.set_cons_succ]
        refine take_one (i := 6) (d := some 34) (v := .int .i64 (sz : Int)) rfl rfl rfl (by kernel_rfl) (by kernel_rfl) (by kernel_rfl) (fun _ _ d _ _ h => ⟨h.1, h.2.1, by cases d <;> exact h.2.2⟩) (fun W hS => by kernel_rfl) hs0 ?_
        simp only [Act.put, List.setIfInBounds_toArray, List.set_cons_zero, List.set_cons_succ]
        refine take_one (i := 7) (d := some 35) (v := .bool false) rfl rfl rfl (by kernel_rfl) (by kernel_rfl) (by kernel_rfl) (fun _ _ d _ _ h => ⟨h.1, h.2.1, by cases d <;> exact h.2.2⟩) (fun W hS => ex_geqI (.tmp 33) (.tmp 34) rfl rfl rfl hdec) hs0 ?_
        simp only [Act.put, List.setIfInBounds_toArray, List.set_cons_zero, List.set_cons_succ]
        refine take_one (i := 8) (d := some 36) (v := .pointer (some ⟨R, 0, none⟩)) rfl rfl rfl (by kernel_rfl) (by kernel_rfl) (by kernel_rfl) (fun _ _ d _ _ h => ⟨h.1, h.2.1, by cases d <;> exact h.2.2⟩) (fun W hS => by kernel_rfl) hs0 ?_
        simp only [Act.put, List.setIfInBounds_toArray, List.set_cons_zero, List.set_cons_succ]
        refine take_one (i := 9) (d := some 37) (v := .pointer (some ⟨R, 0, none⟩)) rfl rfl rfl (by kernel_rfl) (by kernel_rfl) (by kernel_rfl) (fun _ _ d _ _ h => ⟨h.1, h.2.1, by cases d <;> exact h.2.2⟩) (fun W hS => by kernel_rfl) hs0 ?_
        simp only [Act.put, List.setIfInBounds_toArray, List.set_cons_zero, List.set_cons_succ]
        refine take_one (i := 10) (d := some 38) (v := .pointer (some ⟨R, 0, none⟩)) rfl rfl rfl (by kernel_rfl) (by kernel_rfl) (by kernel_rfl) (fun _ _ d _ _ h => ⟨h.1, h.2.1, by cases d <;> exact h.2.2⟩) (fun W hS => by kernel_rfl) hs0 ?_
        simp only [Act.put, List.setIfInBounds_toArray, List.set_cons_zero, List.set_cons_succ]
        refine take_one (i := 11) (d := some 39) (v := .pointer (some ⟨R, 1, none⟩)) rfl rfl rfl (by kernel_rfl) (by kernel_rfl) (by kernel_rfl) (fun _ _ d _ _ h => ⟨h.1, h.2.1, by cases d <;> exact h.2.2⟩) (fun W hS => by kernel_rfl) hs0 ?_
        simp only [Act.put, List.setIfInBounds_toArray, List.set_cons_zero, List.set_cons_succ]
        refine take_one (i := 12) (d := some 40) (v := .int .i64 (at' : Int)) rfl rfl rfl (by kernel_rfl) (by kernel_rfl) (by kernel_rfl) (fun _ _ d _ _ h => ⟨h.1, h.2.1, by cases d <;> exact h.2.2⟩) (fun W hS => ex_loadA (.tmp 39) 3 rfl rfl (ld_int (blk_cell hS (j := 1) rfl))) hs0 ?_
        simp only [Act.put, List.setIfInBounds_toArray, List.set_cons_zero, List.set_cons_succ]
        refine all_one (i := 13) (by kernel_rfl) rfl rfl ?_
        refine wp_callP 193 _ (by kernel_rfl) (must_bad at' 50 _) ⟨rfl, rfl, rfl⟩
      · rintro c a' w' ⟨rfl, rfl, hd⟩
        exact ⟨hd, HX2.out (by rw [HNL.out.1]; exact HNL.out.2) (by rw [HNL.out.1]; exact hz) _ HB1.out.drew⟩
    · have hdec : decide ((sz : Int) ≤ (nl : Int)) = true := by simp; omega
      refine region_end (fun a0 a' w' => a' = ((((((((((((((a0.put (some 28) (.pointer (some ⟨R, 0, none⟩))).put (some 29) (.pointer (some ⟨R, 0, none⟩))).put (some 30) (.pointer (some ⟨R, 0, none⟩))).put (some 31) (.pointer (some ⟨R, 0, none⟩))).put (some 32) (.slice (some ⟨lb, lo, none⟩) nl lc)).put (some 33) (.int .i64 (nl : Int))).put (some 34) (.int .i64 (sz : Int))).put (some 35) (.bool true)).put (some 36) (.pointer (some ⟨R, 0, none⟩))).put (some 37) (.pointer (some ⟨R, 0, none⟩))).put (some 38) (.pointer (some ⟨R, 0, none⟩))).put (some 39) (.pointer (some ⟨R, 1, none⟩))).put (some 40) (.int .i64 (at' : Int))).put (some 41) (.tuple #[])) ∧ w' = W1.drew) (fun _ _ _ => False) ?_ ?_ (fun _ _ _ h => h.elim)
      · skip
        refine wp_region_held (S := fun X => X.heap[R]? = some (RBox (.slice (some ⟨lb, lo, none⟩) nl lc) at' (vC f g (.slice va vn vc) vb) nx)) (by kernel_rfl) ?_
        show wpAnyH _ _ _ _ _ 14 (Array.replicate 14 false) _ _
        have hs0 : W1.drew.heap[R]? = some (RBox (.slice (some ⟨lb, lo, none⟩) nl lc) at' (vC f g (.slice va vn vc) vb) nx) := HBX1.out
        refine take_one (i := 0) (d := some 28) (v := .pointer (some ⟨R, 0, none⟩)) rfl rfl rfl (by kernel_rfl) (by kernel_rfl) (by kernel_rfl) (fun _ _ _ _ _ h => h.elim) (fun W hS => by kernel_rfl) hs0 ?_
        simp only [Act.put, List.setIfInBounds_toArray, List.set_cons_zero, List.set_cons_succ]
        refine take_one (i := 1) (d := some 29) (v := .pointer (some ⟨R, 0, none⟩)) rfl rfl rfl (by kernel_rfl) (by kernel_rfl) (by kernel_rfl) (fun _ _ _ _ _ h => h.elim) (fun W hS => by kernel_rfl) hs0 ?_
        simp only [Act.put, List.setIfInBounds_toArray, List.set_cons_zero, List.set_cons_succ]
        refine take_one (i := 2) (d := some 30) (v := .pointer (some ⟨R, 0, none⟩)) rfl rfl rfl (by kernel_rfl) (by kernel_rfl) (by kernel_rfl) (fun _ _ _ _ _ h => h.elim) (fun W hS => by kernel_rfl) hs0 ?_
        simp only [Act.put, List.setIfInBounds_toArray, List.set_cons_zero, List.set_cons_succ]
        refine take_one (i := 3) (d := some 31) (v := .pointer (some ⟨R, 0, none⟩)) rfl rfl rfl (by kernel_rfl) (by kernel_rfl) (by kernel_rfl) (fun _ _ _ _ _ h => h.elim) (fun W hS => by kernel_rfl) hs0 ?_
        simp only [Act.put, List.setIfInBounds_toArray, List.set_cons_zero, List.set_cons_succ]
        refine take_one (i := 4) (d := some 32) (v := .slice (some ⟨lb, lo, none⟩) nl lc) rfl rfl rfl (by kernel_rfl) (by kernel_rfl) (by kernel_rfl) (fun _ _ _ _ _ h => h.elim) (fun W hS => ex_load 31 rfl rfl (blk_cell hS (j := 0) rfl) ⟨_, _, _, rfl⟩) hs0 ?_
        simp only [Act.put, List.setIfInBounds_toArray, List.set_cons_zero, List.set_cons_succ]
        refine take_one (i := 5) (d := some 33) (v := .int .i64 (nl : Int)) rfl rfl rfl (by kernel_rfl) (by kernel_rfl) (by kernel_rfl) (fun _ _ _ _ _ h => h.elim) (fun W hS => by kernel_rfl) hs0 ?_
        simp only [Act.put, List.setIfInBounds_toArray, List.set_cons_zero, List.set_cons_succ]
        refine take_one (i := 6) (d := some 34) (v := .int .i64 (sz : Int)) rfl rfl rfl (by kernel_rfl) (by kernel_rfl) (by kernel_rfl) (fun _ _ _ _ _ h => h.elim) (fun W hS => by kernel_rfl) hs0 ?_
        simp only [Act.put, List.setIfInBounds_toArray, List.set_cons_zero, List.set_cons_succ]
        refine take_one (i := 7) (d := some 35) (v := .bool true) rfl rfl rfl (by kernel_rfl) (by kernel_rfl) (by kernel_rfl) (fun _ _ _ _ _ h => h.elim) (fun W hS => ex_geqI (.tmp 33) (.tmp 34) rfl rfl rfl hdec) hs0 ?_
        simp only [Act.put, List.setIfInBounds_toArray, List.set_cons_zero, List.set_cons_succ]
        refine take_one (i := 8) (d := some 36) (v := .pointer (some ⟨R, 0, none⟩)) rfl rfl rfl (by kernel_rfl) (by kernel_rfl) (by kernel_rfl) (fun _ _ _ _ _ h => h.elim) (fun W hS => by kernel_rfl) hs0 ?_
        simp only [Act.put, List.setIfInBounds_toArray, List.set_cons_zero, List.set_cons_succ]
        refine take_one (i := 9) (d := some 37) (v := .pointer (some ⟨R, 0, none⟩)) rfl rfl rfl (by kernel_rfl) (by kernel_rfl) (by kernel_rfl) (fun _ _ _ _ _ h => h.elim) (fun W hS => by kernel_rfl) hs0 ?_
        simp only [Act.put, List.setIfInBounds_toArray, List.set_cons_zero, List.set_cons_succ]
        refine take_one (i := 10) (d := some 38) (v := .pointer (some ⟨R, 0, none⟩)) rfl rfl rfl (by kernel_rfl) (by kernel_rfl) (by kernel_rfl) (fun _ _ _ _ _ h => h.elim) (fun W hS => by kernel_rfl) hs0 ?_
        simp only [Act.put, List.setIfInBounds_toArray, List.set_cons_zero, List.set_cons_succ]
        refine take_one (i := 11) (d := some 39) (v := .pointer (some ⟨R, 1, none⟩)) rfl rfl rfl (by kernel_rfl) (by kernel_rfl) (by kernel_rfl) (fun _ _ _ _ _ h => h.elim) (fun W hS => by kernel_rfl) hs0 ?_
        simp only [Act.put, List.setIfInBounds_toArray, List.set_cons_zero, List.set_cons_succ]
        refine take_one (i := 12) (d := some 40) (v := .int .i64 (at' : Int)) rfl rfl rfl (by kernel_rfl) (by kernel_rfl) (by kernel_rfl) (fun _ _ _ _ _ h => h.elim) (fun W hS => ex_loadA (.tmp 39) 3 rfl rfl (ld_int (blk_cell hS (j := 1) rfl))) hs0 ?_
        simp only [Act.put, List.setIfInBounds_toArray, List.set_cons_zero, List.set_cons_succ]
        refine all_one (i := 13) (by kernel_rfl) rfl rfl ?_
        refine wp_call (d := some 41) (R := fun v X => v = .tuple #[] ∧ X = W1.drew) 193 _ rfl (by kernel_rfl) ((must_good at' 50 _).mono (fun e X hx => ⟨_, hx.1, rfl, hx.2⟩)) ?_
        rintro v X ⟨rfl, rfl⟩
        refine ⟨hs0, ?_⟩
        simp only [Act.put, List.setIfInBounds_toArray, List.set_cons_zero, List.set_cons_succ]
        refine wpAnyH_done (by kernel_rfl) ?_ _
        exact ⟨rfl, rfl⟩
      rintro a' w' ⟨rfl, rfl⟩
      simp only [Act.put, List.setIfInBounds_toArray, List.set_cons_zero, List.set_cons_succ]
      have HR2 : Hid (RB S W1.drew R rest at' (vC f g (.slice va vn vc) vb) nx (.slice (some ⟨lb, lo, none⟩) nl lc)) := HR1.out.on ((Below.refl _ W1).drew)
      have HRW2 : Hid (HRow bs W1.drew (.slice va vn vc) hs ds) := HRW.out.on ((Below.refl _ W1).drew)
      have HB2w : Hid (Below W.heap.size W W1.drew) := HB1.out.drew
      clear hdec HBX1 HR1 HRW HB1 HX2
      obtain ⟨W2, hW2⟩ : ∃ W2, W1.drew = W2 := ⟨_, rfl⟩
      rw [hW2] at HR2 HRW2 HB2w ⊢
      clear hW2
      have k37 : W2.cell? ⟨R, 37, none⟩ = some (.slice va vn vc) := HR2.out.at (j := 35) (vC_at 0)
      go_wp2_with fail
      clear k37
      have HBX2 : Hid (W2.heap[R]? = some (RBox (.slice (some ⟨lb, lo, none⟩) nl lc) at' (vC f g (.slice va vn vc) vb) nx)) := HR2.out.box
      by_cases hv8 : vn < 8
      · have hlt8 : decide ((vn : Int) < (8 : Int)) = true := by simp; omega
        cases hkb : kindB nx vn with
        | false =>
          refine region_end (fun _ _ _ => False) (fun c b w' => c = [fltP at' 53] ∧ w' = W2.drew ∧ b.defers = []) ?_ (fun _ _ h => h.elim) ?_
          · skip
            refine wp_region_held (S := fun X => X.heap[R]? = some (RBox (.slice (some ⟨lb, lo, none⟩) nl lc) at' (vC f g (.slice va vn vc) vb) nx)) (by kernel_rfl) ?_
            show wpAnyH _ _ _ _ _ 16 (Array.replicate 16 false) _ _
            have hs0 : W2.drew.heap[R]? = some (RBox (.slice (some ⟨lb, lo, none⟩) nl lc) at' (vC f g (.slice va vn vc) vb) nx) := HBX2.out
            refine take_one (i := 0) (d := some 48) (v := .int .i64 (vn : Int)) rfl rfl rfl (by kernel_rfl) (by kernel_rfl) (by kernel_rfl) (fun _ _ d _ _ h => ⟨h.1, h.2.1, by cases d <;> exact h.2.2⟩) (fun W hS => by kernel_rfl) hs0 ?_
            simp only [Act.put, List.setIfInBounds_toArray, List.set_cons_zero, List.set_cons_succ]
            refine take_one (i := 1) (d := some 49) (v := .bool true) rfl rfl rfl (by kernel_rfl) (by kernel_rfl) (by kernel_rfl) (fun _ _ d _ _ h => ⟨h.1, h.2.1, by cases d <;> exact h.2.2⟩) (fun W hS => ex_lssI (.tmp 48) (.const (.int .i64 8)) rfl rfl rfl hlt8) hs0 ?_
            simp only [Act.put, List.setIfInBounds_toArray, List.set_cons_zero, List.set_cons_succ]
            refine take_one (i := 2) (d := some 50) (v := .bool true) rfl rfl rfl (by kernel_rfl) (by kernel_rfl) (by kernel_rfl) (fun _ _ d _ _ h => ⟨h.1, h.2.1, by cases d <;> exact h.2.2⟩) (fun W hS => by kernel_rfl) hs0 ?_
            simp only [Act.put, List.setIfInBounds_toArray, List.set_cons_zero, List.set_cons_succ]
            refine take_w (i := 3) (d := some 51) (v := .pointer (some ⟨R, 0, none⟩)) rfl (by kernel_rfl) rfl (by kernel_rfl) (by kernel_rfl) (by kernel_rfl) (fun _ _ d _ _ h => ⟨h.1, h.2.1, by cases d <;> exact h.2.2⟩) (fun W hS => by kernel_rfl) hs0 ?_
            simp only [Act.put, List.setIfInBounds_toArray, List.set_cons_zero, List.set_cons_succ]
            refine take_w (i := 4) (d := some 52) (v := .pointer (some ⟨R, 0, none⟩)) rfl (by kernel_rfl) rfl (by kernel_rfl) (by kernel_rfl) (by kernel_rfl) (fun _ _ d _ _ h => ⟨h.1, h.2.1, by cases d <;> exact h.2.2⟩) (fun W hS => by kernel_rfl) hs0 ?_
            simp only [Act.put, List.setIfInBounds_toArray, List.set_cons_zero, List.set_cons_succ]
            refine take_w (i := 5) (d := some 53) (v := .pointer (some ⟨R, 44, none⟩)) rfl (by kernel_rfl) rfl (by kernel_rfl) (by kernel_rfl) (by kernel_rfl) (fun _ _ d _ _ h => ⟨h.1, h.2.1, by cases d <;> exact h.2.2⟩) (fun W hS => by kernel_rfl) hs0 ?_
            simp only [Act.put, List.setIfInBounds_toArray, List.set_cons_zero, List.set_cons_succ]
            refine take_w (i := 6) (d := some 54) (v := .int .u8 nx) rfl (by kernel_rfl) rfl (by kernel_rfl) (by kernel_rfl) (by kernel_rfl) (fun _ _ d _ _ h => ⟨h.1, h.2.1, by cases d <;> exact h.2.2⟩) (fun W hS => ex_loadA (.tmp 53) 5 rfl rfl (ld_u8 (box_k44 hS))) hs0 ?_
            simp only [Act.put, List.setIfInBounds_toArray, List.set_cons_zero, List.set_cons_succ]
            refine take_w (i := 7) (d := some 55) (v := .int .i64 (vn : Int)) rfl (by kernel_rfl) rfl (by kernel_rfl) (by kernel_rfl) (by kernel_rfl) (fun _ _ d _ _ h => ⟨h.1, h.2.1, by cases d <;> exact h.2.2⟩) (fun W hS => by kernel_rfl) hs0 ?_
            simp only [Act.put, List.setIfInBounds_toArray, List.set_cons_zero, List.set_cons_succ]
            refine take_one (i := 10) (d := some 58) (v := .pointer (some ⟨R, 0, none⟩)) rfl rfl rfl (by kernel_rfl) (by kernel_rfl) (by kernel_rfl) (fun _ _ d _ _ h => ⟨h.1, h.2.1, by cases d <;> exact h.2.2⟩) (fun W hS => by kernel_rfl) hs0 ?_
            simp only [Act.put, List.setIfInBounds_toArray, List.set_cons_zero, List.set_cons_succ]
            refine take_one (i := 11) (d := some 59) (v := .pointer (some ⟨R, 0, none⟩)) rfl rfl rfl (by kernel_rfl) (by kernel_rfl) (by kernel_rfl) (fun _ _ d _ _ h => ⟨h.1, h.2.1, by cases d <;> exact h.2.2⟩) (fun W hS => by kernel_rfl) hs0 ?_
            simp only [Act.put, List.setIfInBounds_toArray, List.set_cons_zero, List.set_cons_succ]
            refine take_one (i := 12) (d := some 60) (v := .pointer (some ⟨R, 0, none⟩)) rfl rfl rfl (by kernel_rfl) (by kernel_rfl) (by kernel_rfl) (fun _ _ d _ _ h => ⟨h.1, h.2.1, by cases d <;> exact h.2.2⟩) (fun W hS => by kernel_rfl) hs0 ?_
            simp only [Act.put, List.setIfInBounds_toArray, List.set_cons_zero, List.set_cons_succ]
            refine take_one (i := 13) (d := some 61) (v := .pointer (some ⟨R, 1, none⟩)) rfl rfl rfl (by kernel_rfl) (by kernel_rfl) (by kernel_rfl) (fun _ _ d _ _ h => ⟨h.1, h.2.1, by cases d <;> exact h.2.2⟩) (fun W hS => by kernel_rfl) hs0 ?_
            simp only [Act.put, List.setIfInBounds_toArray, List.set_cons_zero, List.set_cons_succ]
            refine take_one (i := 14) (d := some 62) (v := .int .i64 (at' : Int)) rfl rfl rfl (by kernel_rfl) (by kernel_rfl) (by kernel_rfl) (fun _ _ d _ _ h => ⟨h.1, h.2.1, by cases d <;> exact h.2.2⟩) (fun W hS => ex_loadA (.tmp 61) 3 rfl rfl (ld_int (blk_cell hS (j := 1) rfl))) hs0 ?_
            simp only [Act.put, List.setIfInBounds_toArray, List.set_cons_zero, List.set_cons_succ]
            refine all_w (i := 8) (by kernel_rfl) rfl (by kernel_rfl) ?_
            refine wp_call (d := some 56) (R := fun v X => v = .bool false ∧ X = W2.drew) 203 _ rfl (by kernel_rfl) ((kindMayBe_calls nx vn _).mono (fun e X hx => ⟨_, by rw [hkb] at hx; exact hx.1, rfl, hx.2⟩)) ?_
            rintro v X ⟨rfl, rfl⟩
            refine ⟨hs0, ?_⟩
            simp only [Act.put, List.setIfInBounds_toArray, List.set_cons_zero, List.set_cons_succ]
            refine take_one (i := 9) (d := some 57) (v := .bool false) rfl rfl rfl (by kernel_rfl) (by kernel_rfl) (by kernel_rfl) (fun _ _ d _ _ h => ⟨h.1, h.2.1, by cases d <;> exact h.2.2⟩) (fun W hS => by kernel_rfl) hs0 ?_
            simp only [Act.put, List.setIfInBounds_toArray, List.set_cons_zero, List.set_cons_succ]
            refine all_one (i := 15) (by kernel_rfl) rfl rfl ?_
            refine wp_callP 193 _ (by kernel_rfl) (must_bad at' 53 _) ⟨rfl, rfl, rfl⟩
          · rintro c a' w' ⟨rfl, rfl, hd⟩
            exact ⟨hd, HX3.out (by rw [HNL.out.1]; exact HNL.out.2) (by rw [HNL.out.1]; omega) (fun q => by rw [hkb] at q; exact absurd q.2 (by simp)) _ HB2w.out.drew⟩
        | true =>
          refine region_end (fun a0 a' w' => a' = ((((((((((((((((a0.put (some 48) (.int .i64 (vn : Int))).put (some 49) (.bool true)).put (some 50) (.bool true)).put (some 51) (.pointer (some ⟨R, 0, none⟩))).put (some 52) (.pointer (some ⟨R, 0, none⟩))).put (some 53) (.pointer (some ⟨R, 44, none⟩))).put (some 54) (.int .u8 nx)).put (some 55) (.int .i64 (vn : Int))).put (some 58) (.pointer (some ⟨R, 0, none⟩))).put (some 59) (.pointer (some ⟨R, 0, none⟩))).put (some 60) (.pointer (some ⟨R, 0, none⟩))).put (some 61) (.pointer (some ⟨R, 1, none⟩))).put (some 62) (.int .i64 (at' : Int))).put (some 56) (.bool true)).put (some 57) (.bool true)).put (some 63) (.tuple #[])) ∧ w' = W2.drew) (fun _ _ _ => False) ?_ ?_ (fun _ _ _ h => h.elim)
          · skip
            refine wp_region_held (S := fun X => X.heap[R]? = some (RBox (.slice (some ⟨lb, lo, none⟩) nl lc) at' (vC f g (.slice va vn vc) vb) nx)) (by kernel_rfl) ?_
            show wpAnyH _ _ _ _ _ 16 (Array.replicate 16 false) _ _
            have hs0 : W2.drew.heap[R]? = some (RBox (.slice (some ⟨lb, lo, none⟩) nl lc) at' (vC f g (.slice va vn vc) vb) nx) := HBX2.out
            refine take_one (i := 0) (d := some 48) (v := .int .i64 (vn : Int)) rfl rfl rfl (by kernel_rfl) (by kernel_rfl) (by kernel_rfl) (fun _ _ _ _ _ h => h.elim) (fun W hS => by kernel_rfl) hs0 ?_
            simp only [Act.put, List.setIfInBounds_toArray, List.set_cons_zero, List.set_cons_succ]
            refine take_one (i := 1) (d := some 49) (v := .bool true) rfl rfl rfl (by kernel_rfl) (by kernel_rfl) (by kernel_rfl) (fun _ _ _ _ _ h => h.elim) (fun W hS => ex_lssI (.tmp 48) (.const (.int .i64 8)) rfl rfl rfl hlt8) hs0 ?_
            simp only [Act.put, List.setIfInBounds_toArray, List.set_cons_zero, List.set_cons_succ]
            refine take_one (i := 2) (d := some 50) (v := .bool true) rfl rfl rfl (by kernel_rfl) (by kernel_rfl) (by kernel_rfl) (fun _ _ _ _ _ h => h.elim) (fun W hS => by kernel_rfl) hs0 ?_
            simp only [Act.put, List.setIfInBounds_toArray, List.set_cons_zero, List.set_cons_succ]
            refine take_w (i := 3) (d := some 51) (v := .pointer (some ⟨R, 0, none⟩)) rfl (by kernel_rfl) rfl (by kernel_rfl) (by kernel_rfl) (by kernel_rfl) (fun _ _ _ _ _ h => h.elim) (fun W hS => by kernel_rfl) hs0 ?_
            simp only [Act.put, List.setIfInBounds_toArray, List.set_cons_zero, List.set_cons_succ]
            refine take_w (i := 4) (d := some 52) (v := .pointer (some ⟨R, 0, none⟩)) rfl (by kernel_rfl) rfl (by kernel_rfl) (by kernel_rfl) (by kernel_rfl) (fun _ _ _ _ _ h => h.elim) (fun W hS => by kernel_rfl) hs0 ?_
            simp only [Act.put, List.setIfInBounds_toArray, List.set_cons_zero, List.set_cons_succ]
            refine take_w (i := 5) (d := some 53) (v := .pointer (some ⟨R, 44, none⟩)) rfl (by kernel_rfl) rfl (by kernel_rfl) (by kernel_rfl) (by kernel_rfl) (fun _ _ _ _ _ h => h.elim) (fun W hS => by kernel_rfl) hs0 ?_
            simp only [Act.put, List.setIfInBounds_toArray, List.set_cons_zero, List.set_cons_succ]
            refine take_w (i := 6) (d := some 54) (v := .int .u8 nx) rfl (by kernel_rfl) rfl (by kernel_rfl) (by kernel_rfl) (by kernel_rfl) (fun _ _ _ _ _ h => h.elim) (fun W hS => ex_loadA (.tmp 53) 5 rfl rfl (ld_u8 (box_k44 hS))) hs0 ?_
            simp only [Act.put, List.setIfInBounds_toArray, List.set_cons_zero, List.set_cons_succ]
            refine take_w (i := 7) (d := some 55) (v := .int .i64 (vn : Int)) rfl (by kernel_rfl) rfl (by kernel_rfl) (by kernel_rfl) (by kernel_rfl) (fun _ _ _ _ _ h => h.elim) (fun W hS => by kernel_rfl) hs0 ?_
            simp only [Act.put, List.setIfInBounds_toArray, List.set_cons_zero, List.set_cons_succ]
            refine take_one (i := 10) (d := some 58) (v := .pointer (some ⟨R, 0, none⟩)) rfl rfl rfl (by kernel_rfl) (by kernel_rfl) (by kernel_rfl) (fun _ _ _ _ _ h => h.elim) (fun W hS => by kernel_rfl) hs0 ?_
            simp only [Act.put, List.setIfInBounds_toArray, List.set_cons_zero, List.set_cons_succ]
            refine take_one (i := 11) (d := some 59) (v := .pointer (some ⟨R, 0, none⟩)) rfl rfl rfl (by kernel_rfl) (by kernel_rfl) (by kernel_rfl) (fun _ _ _ _ _ h => h.elim) (fun W hS => by kernel_rfl) hs0 ?_
            simp only [Act.put, List.setIfInBounds_toArray, List.set_cons_zero, List.set_cons_succ]
            refine take_one (i := 12) (d := some 60) (v := .pointer (some ⟨R, 0, none⟩)) rfl rfl rfl (by kernel_rfl) (by kernel_rfl) (by kernel_rfl) (fun _ _ _ _ _ h => h.elim) (fun W hS => by kernel_rfl) hs0 ?_
            simp only [Act.put, List.setIfInBounds_toArray, List.set_cons_zero, List.set_cons_succ]
            refine take_one (i := 13) (d := some 61) (v := .pointer (some ⟨R, 1, none⟩)) rfl rfl rfl (by kernel_rfl) (by kernel_rfl) (by kernel_rfl) (fun _ _ _ _ _ h => h.elim) (fun W hS => by kernel_rfl) hs0 ?_
            simp only [Act.put, List.setIfInBounds_toArray, List.set_cons_zero, List.set_cons_succ]
            refine take_one (i := 14) (d := some 62) (v := .int .i64 (at' : Int)) rfl rfl rfl (by kernel_rfl) (by kernel_rfl) (by kernel_rfl) (fun _ _ _ _ _ h => h.elim) (fun W hS => ex_loadA (.tmp 61) 3 rfl rfl (ld_int (blk_cell hS (j := 1) rfl))) hs0 ?_
            simp only [Act.put, List.setIfInBounds_toArray, List.set_cons_zero, List.set_cons_succ]
            refine all_w (i := 8) (by kernel_rfl) rfl (by kernel_rfl) ?_
            refine wp_call (d := some 56) (R := fun v X => v = .bool true ∧ X = W2.drew) 203 _ rfl (by kernel_rfl) ((kindMayBe_calls nx vn _).mono (fun e X hx => ⟨_, by rw [hkb] at hx; exact hx.1, rfl, hx.2⟩)) ?_
            rintro v X ⟨rfl, rfl⟩
            refine ⟨hs0, ?_⟩
            simp only [Act.put, List.setIfInBounds_toArray, List.set_cons_zero, List.set_cons_succ]
            refine take_one (i := 9) (d := some 57) (v := .bool true) rfl rfl rfl (by kernel_rfl) (by kernel_rfl) (by kernel_rfl) (fun _ _ _ _ _ h => h.elim) (fun W hS => by kernel_rfl) hs0 ?_
            simp only [Act.put, List.setIfInBounds_toArray, List.set_cons_zero, List.set_cons_succ]
            refine all_one (i := 15) (by kernel_rfl) rfl rfl ?_
            refine wp_call (d := some 63) (R := fun v X => v = .tuple #[] ∧ X = W2.drew) 193 _ rfl (by kernel_rfl) ((must_good at' 53 _).mono (fun e X hx => ⟨_, hx.1, rfl, hx.2⟩)) ?_
            rintro v X ⟨rfl, rfl⟩
            refine ⟨hs0, ?_⟩
            simp only [Act.put, List.setIfInBounds_toArray, List.set_cons_zero, List.set_cons_succ]
            refine wpAnyH_done (by kernel_rfl) ?_ _
            exact ⟨rfl, rfl⟩
          rintro a' w' ⟨rfl, rfl⟩
          simp only [Act.put, List.setIfInBounds_toArray, List.set_cons_zero, List.set_cons_succ]
          have HR3 : Hid (RB S W2.drew R rest at' (vC f g (.slice va vn vc) vb) nx (.slice (some ⟨lb, lo, none⟩) nl lc)) := HR2.out.on ((Below.refl _ W2).drew)
          have HRW3 : Hid (HRow bs W2.drew (.slice va vn vc) hs ds) := HRW2.out.on ((Below.refl _ W2).drew)
          have HB3w : Hid (Below W.heap.size W W2.drew) := HB2w.out.drew
          have HF4 : Hid _ := HX4.out (by rw [HNL.out.1]; exact HNL.out.2) (by rw [HNL.out.1]; omega) ⟨hv8, hkb⟩
          clear hlt8 hkb HBX2 HR2 HRW2 HB2w HX3 HX4
          obtain ⟨W3, hW3⟩ : ∃ W3, W2.drew = W3 := ⟨_, rfl⟩
          rw [hW3] at HR3 HRW3 HB3w ⊢
          clear hW3
          have HRUN : Hid _ := run_calls HR3.out sz (by rw [HNL.out.1]; omega) (by rw [HNL.out.1]; have := HNL.out.2; omega) (by have := HLIM.out; have := HSZB.out; omega)
          go_wp2_with fail
          refine Calls.mono HRUN.out ?_
          rintro e w4 ⟨u, l4, rfl, hbu, hr4, ho4⟩
          have htl : (rest.take sz).length = sz := by rw [List.length_take, HNL.out.1]; omega
          obtain ⟨ub, uo, n', uc, ev, _, hucell⟩ := hbu.first (by rw [htl]; have := HSZB.out; omega)
          rw [htl] at ev
          subst ev
          obtain ⟨DD, hDD⟩ : ∃ D, (rest.take sz).drop 2 = D := ⟨_, rfl⟩
          obtain ⟨u2, hu2, hb2⟩ := cut_rest hbu (by rw [htl]; have := HSZB.out; omega) 2 (by rw [htl]; have := HSZB.out; omega)
          rw [hDD] at hb2 HF4
          have HU2 : Hid (∀ W, (Instr.sliceAt 25 (.slice (some ⟨ub, uo, none⟩) sz uc) (some (.int .i64 2)) none none).run Tryz.prog W = .ok u2 W) := hu2
          have HB2 : Hid (BS S w4.drew u2 DD) := hb2.on ((Below.refl _ w4).drew)
          have HBU : Hid (BS S w4 (.slice (some ⟨ub, uo, none⟩) sz uc) (rest.take sz)) := hbu
          have HR4 : Hid (RB S w4 R (rest.drop sz) (at' + sz) (vC f g (.slice va vn vc) vb) nx l4) := hr4
          have hs4 : Sep (fun b => b = R ∨ bs ≤ b) W w4 := (Sep.of_below HB3w.out).trans (Sep.of_only (O := fun b => b = R ∨ bs ≤ b) ho4 (.inl rfl))
          have HS4 : Hid (Sep (fun b => b = R ∨ bs ≤ b) W w4) := hs4
          have HRW4 : Hid (HRow bs w4 (.slice va vn vc) hs ds) := HRW3.out.sep (Sep.of_only (O := fun b => b = R) ho4 rfl) (fun b hb e => by have := HBS.out; omega)
          have HTL : Hid _ := htl
          clear htl hucell hDD hu2 hb2 hbu hr4 ho4 hs4 HRUN HR3 HRW3 HB3w
          go_wp2_with fail
          refine region_mid (fun a0 a' w' => ∃ u3 xb v5, a' = (((((((((((((((((((a0.put (some 69) (.pointer (some ⟨R, 0, none⟩))).put (some 70) (.pointer (some ⟨R, 0, none⟩))).put (some 71) (.pointer (some ⟨R, 0, none⟩))).put (some 72) (.pointer (some ⟨R, 2, none⟩))).put (some 73) (.pointer (some ⟨R, 37, none⟩))).put (some 74) ((.slice va vn vc))).put (some 75) (.pointer (some ⟨R, 0, none⟩))).put (some 76) (.pointer (some ⟨R, 0, none⟩))).put (some 77) (.pointer (some ⟨R, 44, none⟩))).put (some 78) (.int .u8 nx)).put (some 79) (.slice (some ⟨ub, uo, none⟩) sz uc)).put (some 80) (u2)).put (some 81) (u3)).put (some 82) (.agg #[.int .u8 nx, u3])).put (some 83) (.slice (some ⟨xb, 0, none⟩) 1 1)).put (some 84) (v5)).put (some 85) (.pointer (some ⟨R, 0, none⟩))).put (some 86) (.pointer (some ⟨R, 2, none⟩))).put (some 87) (.pointer (some ⟨R, 37, none⟩))) ∧ RB S w' R (rest.drop sz) (at' + sz) (vC f g v5 vb) nx l4 ∧ HRow bs w' v5 (hs ++ [(nx, DD)]) (ds ++ [u3]) ∧ Sep (fun b => b = R ∨ bs ≤ b) w4 w') ?_ ?_
          · skip
            refine wp_region_held (S := fun X => X.cell? ⟨R, 44, none⟩ = some (.int .u8 nx)) (by kernel_rfl) ?_
            show wpAnyH _ _ _ _ _ 20 (Array.replicate 20 false) _ _
            have hr0 := HR4.out.on ((Below.refl _ w4).drew)
            have hrow0 := HRW4.out.on ((Below.refl _ w4).drew)
            have hs0 : w4.drew.cell? ⟨R, 44, none⟩ = some (.int .u8 nx) := hr0.k44 vC_len
            have hk0 : w4.drew.cell? ⟨R, 37, none⟩ = some (.slice va vn vc) := hr0.at (j := 35) (vC_at 0)
            refine take_one (i := 0) (d := some 69) (v := .pointer (some ⟨R, 0, none⟩)) rfl rfl rfl (by kernel_rfl) (by kernel_rfl) (by kernel_rfl) (fun _ _ _ _ _ h => h.elim) (fun W hS => by kernel_rfl) hs0 ?_
            simp only [Act.put, List.setIfInBounds_toArray, List.set_cons_zero, List.set_cons_succ]
            refine take_one (i := 1) (d := some 70) (v := .pointer (some ⟨R, 0, none⟩)) rfl rfl rfl (by kernel_rfl) (by kernel_rfl) (by kernel_rfl) (fun _ _ _ _ _ h => h.elim) (fun W hS => by kernel_rfl) hs0 ?_
            simp only [Act.put, List.setIfInBounds_toArray, List.set_cons_zero, List.set_cons_succ]
            refine take_one (i := 2) (d := some 71) (v := .pointer (some ⟨R, 0, none⟩)) rfl rfl rfl (by kernel_rfl) (by kernel_rfl) (by kernel_rfl) (fun _ _ _ _ _ h => h.elim) (fun W hS => by kernel_rfl) hs0 ?_
            simp only [Act.put, List.setIfInBounds_toArray, List.set_cons_zero, List.set_cons_succ]
            refine take_one (i := 3) (d := some 72) (v := .pointer (some ⟨R, 2, none⟩)) rfl rfl rfl (by kernel_rfl) (by kernel_rfl) (by kernel_rfl) (fun _ _ _ _ _ h => h.elim) (fun W hS => by kernel_rfl) hs0 ?_
            simp only [Act.put, List.setIfInBounds_toArray, List.set_cons_zero, List.set_cons_succ]
            refine take_one (i := 4) (d := some 73) (v := .pointer (some ⟨R, 37, none⟩)) rfl rfl rfl (by kernel_rfl) (by kernel_rfl) (by kernel_rfl) (fun _ _ _ _ _ h => h.elim) (fun W hS => by kernel_rfl) hs0 ?_
            simp only [Act.put, List.setIfInBounds_toArray, List.set_cons_zero, List.set_cons_succ]
            refine take_one (i := 6) (d := some 75) (v := .pointer (some ⟨R, 0, none⟩)) rfl rfl rfl (by kernel_rfl) (by kernel_rfl) (by kernel_rfl) (fun _ _ _ _ _ h => h.elim) (fun W hS => by kernel_rfl) hs0 ?_
            simp only [Act.put, List.setIfInBounds_toArray, List.set_cons_zero, List.set_cons_succ]
            refine take_one (i := 7) (d := some 76) (v := .pointer (some ⟨R, 0, none⟩)) rfl rfl rfl (by kernel_rfl) (by kernel_rfl) (by kernel_rfl) (fun _ _ _ _ _ h => h.elim) (fun W hS => by kernel_rfl) hs0 ?_
            simp only [Act.put, List.setIfInBounds_toArray, List.set_cons_zero, List.set_cons_succ]
            refine take_one (i := 8) (d := some 77) (v := .pointer (some ⟨R, 44, none⟩)) rfl rfl rfl (by kernel_rfl) (by kernel_rfl) (by kernel_rfl) (fun _ _ _ _ _ h => h.elim) (fun W hS => by kernel_rfl) hs0 ?_
            simp only [Act.put, List.setIfInBounds_toArray, List.set_cons_zero, List.set_cons_succ]
            refine take_one (i := 9) (d := some 78) (v := .int .u8 nx) rfl rfl rfl (by kernel_rfl) (by kernel_rfl) (by kernel_rfl) (fun _ _ _ _ _ h => h.elim) (fun W hS => ex_loadA (.tmp 77) 5 rfl rfl (ld_u8 hS)) hs0 ?_
            simp only [Act.put, List.setIfInBounds_toArray, List.set_cons_zero, List.set_cons_succ]
            refine take_one (i := 10) (d := some 79) (v := .slice (some ⟨ub, uo, none⟩) sz uc) rfl rfl rfl (by kernel_rfl) (by kernel_rfl) (by kernel_rfl) (fun _ _ _ _ _ h => h.elim) (fun W hS => by kernel_rfl) hs0 ?_
            simp only [Act.put, List.setIfInBounds_toArray, List.set_cons_zero, List.set_cons_succ]
            refine take_one (i := 11) (d := some 80) (v := u2) rfl rfl rfl (by kernel_rfl) (by kernel_rfl) (by kernel_rfl) (fun _ _ _ _ _ h => h.elim) (fun W hS => ex_slice 25 (.tmp 79) (some (.const (.int .i64 2))) none rfl rfl rfl rfl (HU2.out W)) hs0 ?_
            simp only [Act.put, List.setIfInBounds_toArray, List.set_cons_zero, List.set_cons_succ]
            refine all_two (i1 := 5) (i2 := 12) (by kernel_rfl) rfl rfl rfl rfl ?_ ?_
            · refine wp_loadA (d := some 74) (.tmp 73) 34 rfl rfl rfl (ld_heads hk0 ⟨_, _, _, rfl⟩) ⟨hs0, ?_⟩
              simp only [Act.put, List.setIfInBounds_toArray, List.set_cons_zero, List.set_cons_succ]
              refine all_one (i := 12) (by kernel_rfl) rfl rfl ?_
              refine wp_call (d := some 81) (R := fun v X => BS (fun b => w4.drew.heap.size ≤ b) X v DD ∧ Below w4.drew.heap.size w4.drew X) 129 _ rfl (by kernel_rfl) ((Clone_bs u2 DD _ HB2.out.row).mono (fun e X hx => by obtain ⟨v, he, hb⟩ := hx; exact ⟨v, he, hb⟩)) ?_
              rintro u3 X1 ⟨hb3, hB1⟩
              obtain ⟨a3, n3, k3, rfl⟩ := hb3.slc
              have hr1 := hr0.on hB1
              have hw1 := hrow0.on hB1
              have hs1 : X1.cell? ⟨R, 44, none⟩ = some (.int .u8 nx) := hr1.k44 vC_len
              have hk1 : X1.cell? ⟨R, 37, none⟩ = some (.slice va vn vc) := hr1.at (j := 35) (vC_at 0)
              have hra := hr1.on ((Below.refl _ X1).alloc (Nat.le_refl _) (hBox nx (.slice a3 n3 k3)))
              have hsa := hra.k44 vC_len
              have hka : (X1.alloc (hBox nx (.slice a3 n3 k3))).cell? ⟨R, 37, none⟩ = some (.slice va vn vc) := hra.at (j := 35) (vC_at 0)
              obtain ⟨v5, X2, hap, hrow2, hsep2⟩ := hw1.push (by have h1 := hB1.size; have h2 := HS4.out.size; have h3 : w4.drew.heap.size = w4.heap.size := rfl; have := HBS.out; omega) (by have := HVN.out; omega) HNX.out (hb3.mono (S' := fun b => bs ≤ b ∧ Value.ownBlock (.slice va vn vc) ≠ some b) (fun b _ hh => ⟨by have h2 := HS4.out.size; have h3 : w4.drew.heap.size = w4.heap.size := rfl; have := HBS.out; omega, fun e => by have := (own_lt hrow0.own e).2; omega⟩)) 34
              have hr2 := hr1.sep hsep2 (by have := HBS.out; omega) (fun b hb e => by have := HSR.out b hb; have := HBS.out; omega)
              have hs2 := hr2.k44 vC_len
              obtain ⟨a5, k5, e5⟩ := hrow2.slc
              have hr3 := hr2.put (j := 35) (by rw [vC_len]; decide) v5
              rw [vC35] at hr3
              have hs3 := hr3.k44 vC_len
              refine ⟨hs1, ?_⟩
              simp only [Act.put, List.setIfInBounds_toArray, List.set_cons_zero, List.set_cons_succ]
              refine take_one (i := 13) (d := some 82) (v := .agg #[.int .u8 nx, .slice a3 n3 k3]) rfl rfl rfl (by kernel_rfl) (by kernel_rfl) (by kernel_rfl) (fun _ _ _ _ _ h => h.elim) (fun W hS => by kernel_rfl) hs1 ?_
              simp only [Act.put, List.setIfInBounds_toArray, List.set_cons_zero, List.set_cons_succ]
              refine all_one (i := 14) (by kernel_rfl) rfl rfl ?_
              refine wp_buildA (d := some 83) (.tmp 82) 34 rfl rfl rfl (bsH_run X1 nx (.slice a3 n3 k3) rfl) ⟨hsa, ?_⟩
              simp only [Act.put, List.setIfInBounds_toArray, List.set_cons_zero, List.set_cons_succ]
              refine all_one (i := 15) (by kernel_rfl) rfl rfl ?_
              refine wp_append (d := some 84) (.tmp 74) (.tmp 83) 34 rfl rfl rfl rfl hap ⟨hs2, ?_⟩
              simp only [Act.put, List.setIfInBounds_toArray, List.set_cons_zero, List.set_cons_succ]
              refine take_one (i := 16) (d := some 85) (v := .pointer (some ⟨R, 0, none⟩)) rfl rfl rfl (by kernel_rfl) (by kernel_rfl) (by kernel_rfl) (fun _ _ _ _ _ h => h.elim) (fun W hS => by kernel_rfl) hs2 ?_
              simp only [Act.put, List.setIfInBounds_toArray, List.set_cons_zero, List.set_cons_succ]
              refine take_one (i := 17) (d := some 86) (v := .pointer (some ⟨R, 2, none⟩)) rfl rfl rfl (by kernel_rfl) (by kernel_rfl) (by kernel_rfl) (fun _ _ _ _ _ h => h.elim) (fun W hS => by kernel_rfl) hs2 ?_
              simp only [Act.put, List.setIfInBounds_toArray, List.set_cons_zero, List.set_cons_succ]
              refine take_one (i := 18) (d := some 87) (v := .pointer (some ⟨R, 37, none⟩)) rfl rfl rfl (by kernel_rfl) (by kernel_rfl) (by kernel_rfl) (fun _ _ _ _ _ h => h.elim) (fun W hS => by kernel_rfl) hs2 ?_
              simp only [Act.put, List.setIfInBounds_toArray, List.set_cons_zero, List.set_cons_succ]
              refine all_one (i := 19) (by kernel_rfl) rfl rfl ?_
              refine wp_storeA (.tmp 87) (.tmp 84) 34 rfl rfl rfl rfl (st_heads hr2.box (j := 37) (by rw [rC_len, vC_len]; decide) ⟨_, _, _, e5⟩) ⟨hs3, ?_⟩
              refine wpAnyH_done (by kernel_rfl) ?_ _
              exact ⟨.slice a3 n3 k3, X1.heap.size, v5, rfl, hr3, hrow2.sep (Sep.of_only (O := fun b => b = R) ((Only.refl R X2).set 37 v5) rfl) (fun b hb e => by have := HBS.out; omega), ((Sep.of_below (((Below.refl _ w4).drew).trans hB1)).trans (hsep2.mono (fun b _ hb => .inr hb))).trans (Sep.of_only (O := fun b => b = R ∨ bs ≤ b) ((Only.refl R X2).set 37 v5) (.inl rfl))⟩
            · refine wp_call (d := some 81) (R := fun v X => BS (fun b => w4.drew.heap.size ≤ b) X v DD ∧ Below w4.drew.heap.size w4.drew X) 129 _ rfl (by kernel_rfl) ((Clone_bs u2 DD _ HB2.out.row).mono (fun e X hx => by obtain ⟨v, he, hb⟩ := hx; exact ⟨v, he, hb⟩)) ?_
              rintro u3 X1 ⟨hb3, hB1⟩
              obtain ⟨a3, n3, k3, rfl⟩ := hb3.slc
              have hr1 := hr0.on hB1
              have hw1 := hrow0.on hB1
              have hs1 : X1.cell? ⟨R, 44, none⟩ = some (.int .u8 nx) := hr1.k44 vC_len
              have hk1 : X1.cell? ⟨R, 37, none⟩ = some (.slice va vn vc) := hr1.at (j := 35) (vC_at 0)
              have hra := hr1.on ((Below.refl _ X1).alloc (Nat.le_refl _) (hBox nx (.slice a3 n3 k3)))
              have hsa := hra.k44 vC_len
              have hka : (X1.alloc (hBox nx (.slice a3 n3 k3))).cell? ⟨R, 37, none⟩ = some (.slice va vn vc) := hra.at (j := 35) (vC_at 0)
              obtain ⟨v5, X2, hap, hrow2, hsep2⟩ := hw1.push (by have h1 := hB1.size; have h2 := HS4.out.size; have h3 : w4.drew.heap.size = w4.heap.size := rfl; have := HBS.out; omega) (by have := HVN.out; omega) HNX.out (hb3.mono (S' := fun b => bs ≤ b ∧ Value.ownBlock (.slice va vn vc) ≠ some b) (fun b _ hh => ⟨by have h2 := HS4.out.size; have h3 : w4.drew.heap.size = w4.heap.size := rfl; have := HBS.out; omega, fun e => by have := (own_lt hrow0.own e).2; omega⟩)) 34
              have hr2 := hr1.sep hsep2 (by have := HBS.out; omega) (fun b hb e => by have := HSR.out b hb; have := HBS.out; omega)
              have hs2 := hr2.k44 vC_len
              obtain ⟨a5, k5, e5⟩ := hrow2.slc
              have hr3 := hr2.put (j := 35) (by rw [vC_len]; decide) v5
              rw [vC35] at hr3
              have hs3 := hr3.k44 vC_len
              refine ⟨hs1, ?_⟩
              simp only [Act.put, List.setIfInBounds_toArray, List.set_cons_zero, List.set_cons_succ]
              refine take_one (i := 13) (d := some 82) (v := .agg #[.int .u8 nx, .slice a3 n3 k3]) rfl rfl rfl (by kernel_rfl) (by kernel_rfl) (by kernel_rfl) (fun _ _ _ _ _ h => h.elim) (fun W hS => by kernel_rfl) hs1 ?_
              simp only [Act.put, List.setIfInBounds_toArray, List.set_cons_zero, List.set_cons_succ]
              refine all_two (i1 := 5) (i2 := 14) (by kernel_rfl) rfl rfl rfl rfl ?_ ?_
              · refine wp_loadA (d := some 74) (.tmp 73) 34 rfl rfl rfl (ld_heads hk1 ⟨_, _, _, rfl⟩) ⟨hs1, ?_⟩
                simp only [Act.put, List.setIfInBounds_toArray, List.set_cons_zero, List.set_cons_succ]
                refine all_one (i := 14) (by kernel_rfl) rfl rfl ?_
                refine wp_buildA (d := some 83) (.tmp 82) 34 rfl rfl rfl (bsH_run X1 nx (.slice a3 n3 k3) rfl) ⟨hsa, ?_⟩
                simp only [Act.put, List.setIfInBounds_toArray, List.set_cons_zero, List.set_cons_succ]
                refine all_one (i := 15) (by kernel_rfl) rfl rfl ?_
                refine wp_append (d := some 84) (.tmp 74) (.tmp 83) 34 rfl rfl rfl rfl hap ⟨hs2, ?_⟩
                simp only [Act.put, List.setIfInBounds_toArray, List.set_cons_zero, List.set_cons_succ]
                refine take_one (i := 16) (d := some 85) (v := .pointer (some ⟨R, 0, none⟩)) rfl rfl rfl (by kernel_rfl) (by kernel_rfl) (by kernel_rfl) (fun _ _ _ _ _ h => h.elim) (fun W hS => by kernel_rfl) hs2 ?_
                simp only [Act.put, List.setIfInBounds_toArray, List.set_cons_zero, List.set_cons_succ]
                refine take_one (i := 17) (d := some 86) (v := .pointer (some ⟨R, 2, none⟩)) rfl rfl rfl (by kernel_rfl) (by kernel_rfl) (by kernel_rfl) (fun _ _ _ _ _ h => h.elim) (fun W hS => by kernel_rfl) hs2 ?_
                simp only [Act.put, List.setIfInBounds_toArray, List.set_cons_zero, List.set_cons_succ]
                refine take_one (i := 18) (d := some 87) (v := .pointer (some ⟨R, 37, none⟩)) rfl rfl rfl (by kernel_rfl) (by kernel_rfl) (by kernel_rfl) (fun _ _ _ _ _ h => h.elim) (fun W hS => by kernel_rfl) hs2 ?_
                simp only [Act.put, List.setIfInBounds_toArray, List.set_cons_zero, List.set_cons_succ]
                refine all_one (i := 19) (by kernel_rfl) rfl rfl ?_
                refine wp_storeA (.tmp 87) (.tmp 84) 34 rfl rfl rfl rfl (st_heads hr2.box (j := 37) (by rw [rC_len, vC_len]; decide) ⟨_, _, _, e5⟩) ⟨hs3, ?_⟩
                refine wpAnyH_done (by kernel_rfl) ?_ _
                exact ⟨.slice a3 n3 k3, X1.heap.size, v5, rfl, hr3, hrow2.sep (Sep.of_only (O := fun b => b = R) ((Only.refl R X2).set 37 v5) rfl) (fun b hb e => by have := HBS.out; omega), ((Sep.of_below (((Below.refl _ w4).drew).trans hB1)).trans (hsep2.mono (fun b _ hb => .inr hb))).trans (Sep.of_only (O := fun b => b = R ∨ bs ≤ b) ((Only.refl R X2).set 37 v5) (.inl rfl))⟩
              · refine wp_buildA (d := some 83) (.tmp 82) 34 rfl rfl rfl (bsH_run X1 nx (.slice a3 n3 k3) rfl) ⟨hsa, ?_⟩
                simp only [Act.put, List.setIfInBounds_toArray, List.set_cons_zero, List.set_cons_succ]
                refine all_one (i := 5) (by kernel_rfl) rfl rfl ?_
                refine wp_loadA (d := some 74) (.tmp 73) 34 rfl rfl rfl (ld_heads hka ⟨_, _, _, rfl⟩) ⟨hsa, ?_⟩
                simp only [Act.put, List.setIfInBounds_toArray, List.set_cons_zero, List.set_cons_succ]
                refine all_one (i := 15) (by kernel_rfl) rfl rfl ?_
                refine wp_append (d := some 84) (.tmp 74) (.tmp 83) 34 rfl rfl rfl rfl hap ⟨hs2, ?_⟩
                simp only [Act.put, List.setIfInBounds_toArray, List.set_cons_zero, List.set_cons_succ]
                refine take_one (i := 16) (d := some 85) (v := .pointer (some ⟨R, 0, none⟩)) rfl rfl rfl (by kernel_rfl) (by kernel_rfl) (by kernel_rfl) (fun _ _ _ _ _ h => h.elim) (fun W hS => by kernel_rfl) hs2 ?_
                simp only [Act.put, List.setIfInBounds_toArray, List.set_cons_zero, List.set_cons_succ]
                refine take_one (i := 17) (d := some 86) (v := .pointer (some ⟨R, 2, none⟩)) rfl rfl rfl (by kernel_rfl) (by kernel_rfl) (by kernel_rfl) (fun _ _ _ _ _ h => h.elim) (fun W hS => by kernel_rfl) hs2 ?_
                simp only [Act.put, List.setIfInBounds_toArray, List.set_cons_zero, List.set_cons_succ]
                refine take_one (i := 18) (d := some 87) (v := .pointer (some ⟨R, 37, none⟩)) rfl rfl rfl (by kernel_rfl) (by kernel_rfl) (by kernel_rfl) (fun _ _ _ _ _ h => h.elim) (fun W hS => by kernel_rfl) hs2 ?_
                simp only [Act.put, List.setIfInBounds_toArray, List.set_cons_zero, List.set_cons_succ]
                refine all_one (i := 19) (by kernel_rfl) rfl rfl ?_
                refine wp_storeA (.tmp 87) (.tmp 84) 34 rfl rfl rfl rfl (st_heads hr2.box (j := 37) (by rw [rC_len, vC_len]; decide) ⟨_, _, _, e5⟩) ⟨hs3, ?_⟩
                refine wpAnyH_done (by kernel_rfl) ?_ _
                exact ⟨.slice a3 n3 k3, X1.heap.size, v5, rfl, hr3, hrow2.sep (Sep.of_only (O := fun b => b = R) ((Only.refl R X2).set 37 v5) rfl) (fun b hb e => by have := HBS.out; omega), ((Sep.of_below (((Below.refl _ w4).drew).trans hB1)).trans (hsep2.mono (fun b _ hb => .inr hb))).trans (Sep.of_only (O := fun b => b = R ∨ bs ≤ b) ((Only.refl R X2).set 37 v5) (.inl rfl))⟩
          · rintro a' w5 ⟨u3, xb, v5, rfl, hr5, hrow5, hs5⟩
            simp only [Act.put, List.setIfInBounds_toArray, List.set_cons_zero, List.set_cons_succ]
            have hbu5 := HBU.out.sep hs5 (fun b hb e => by have := HSR.out b hb; have := HBS.out; omega)
            obtain ⟨b', o', n', c', e', _, hc5⟩ := hbu5.first (by rw [HTL.out]; have := HSZB.out; omega)
            rw [HTL.out] at e'
            cases e'
            have c0 : w5.cell? ⟨ub, uo, none⟩ = some (.int .u8 G0) := by
              have := hc5 0 (by rw [HTL.out]; have := HSZB.out; omega)
              rw [show gz (rest.take sz) 0 = gz rest 0 by unfold gz; rw [List.getElem?_take, if_pos (by have := HSZB.out; omega)], HG0.out] at this
              exact this
            obtain ⟨w6, hst6, hr6, hon6⟩ : ∃ w6, (Instr.storeAt 5 (.pointer (some ⟨R, 44, none⟩)) (.int .u8 G0)).run Tryz.prog w5 = .ok () w6 ∧ RB S w6 R (rest.drop sz) (at' + sz) (vC f g v5 vb) G0 l4 ∧ Only R w5 w6 := ⟨_, st_u8 hr5.box (j := 44) (by rw [rC_len, vC_len]; decide) G0, hr5.next G0 (n := 42) vC_len, (Only.refl _ w5).set 44 _⟩
            have HS6 : Hid _ := hst6
            have HF : Hid (X (.returned (.tuple #[])) w6) := HF4.out w6 l4 v5 _ hr6 (hrow5.sep (Sep.of_only (O := fun b => b = R) hon6 rfl) (fun b hb e => by have := HBS.out; omega)) ((HS4.out.trans hs5).trans (Sep.of_only (O := fun b => b = R ∨ bs ≤ b) hon6 (.inl rfl)))
            have isz : 0 < sz := by have := HSZB.out; omega
            clear hr5 hrow5 hs5 hbu5 hc5 hst6 hr6 hon6 HF4 HBU HR4 HRW4 HS4 HU2 HB2
            go_wp2_with first
              | ((with_reducible show wpList _ _ _ ({ dst := _, op := Op.store 5 (Operand.tmp 93) _, type := _, pos := _, after := _, guard := _ } :: _) _ _); refine armS (.tmp 93) (.tmp 91) 5 rfl rfl rfl rfl HS6.out ?_; try simp only [Act.put])
            go_end0
            exact HF.out
      · have hlt8 : decide ((vn : Int) < (8 : Int)) = false := by simp; omega
        refine region_end (fun _ _ _ => False) (fun c b w' => c = [fltP at' 53] ∧ w' = W2.drew ∧ b.defers = []) ?_ (fun _ _ h => h.elim) ?_
        · skip
          refine wp_region_held (S := fun X => X.heap[R]? = some (RBox (.slice (some ⟨lb, lo, none⟩) nl lc) at' (vC f g (.slice va vn vc) vb) nx)) (by kernel_rfl) ?_
          show wpAnyH _ _ _ _ _ 16 (Array.replicate 16 false) _ _
          have hs0 : W2.drew.heap[R]? = some (RBox (.slice (some ⟨lb, lo, none⟩) nl lc) at' (vC f g (.slice va vn vc) vb) nx) := HBX2.out
          refine take_one (i := 0) (d := some 48) (v := .int .i64 (vn : Int)) rfl rfl rfl (by kernel_rfl) (by kernel_rfl) (by kernel_rfl) (fun _ _ d _ _ h => ⟨h.1, h.2.1, by cases d <;> exact h.2.2⟩) (fun W hS => by kernel_rfl) hs0 ?_
          simp only [Act.put, List.setIfInBounds_toArray, List.set_cons_zero, List.set_cons_succ]
          refine take_one (i := 1) (d := some 49) (v := .bool false) rfl rfl rfl (by kernel_rfl) (by kernel_rfl) (by kernel_rfl) (fun _ _ d _ _ h => ⟨h.1, h.2.1, by cases d <;> exact h.2.2⟩) (fun W hS => ex_lssI (.tmp 48) (.const (.int .i64 8)) rfl rfl rfl hlt8) hs0 ?_
          simp only [Act.put, List.setIfInBounds_toArray, List.set_cons_zero, List.set_cons_succ]
          refine take_one (i := 2) (d := some 50) (v := .bool false) rfl rfl rfl (by kernel_rfl) (by kernel_rfl) (by kernel_rfl) (fun _ _ d _ _ h => ⟨h.1, h.2.1, by cases d <;> exact h.2.2⟩) (fun W hS => by kernel_rfl) hs0 ?_
          simp only [Act.put, List.setIfInBounds_toArray, List.set_cons_zero, List.set_cons_succ]
          refine take_un (i := 3) (d := some 51) rfl (by kernel_rfl) rfl (by kernel_rfl) (by kernel_rfl) (by kernel_rfl) (fun _ _ d _ _ h => ⟨h.1, h.2.1, by cases d <;> exact h.2.2⟩) hs0 ?_
          simp only [Act.put, List.setIfInBounds_toArray, List.set_cons_zero, List.set_cons_succ]
          refine take_un (i := 4) (d := some 52) rfl (by kernel_rfl) rfl (by kernel_rfl) (by kernel_rfl) (by kernel_rfl) (fun _ _ d _ _ h => ⟨h.1, h.2.1, by cases d <;> exact h.2.2⟩) hs0 ?_
          simp only [Act.put, List.setIfInBounds_toArray, List.set_cons_zero, List.set_cons_succ]
          refine take_un (i := 5) (d := some 53) rfl (by kernel_rfl) rfl (by kernel_rfl) (by kernel_rfl) (by kernel_rfl) (fun _ _ d _ _ h => ⟨h.1, h.2.1, by cases d <;> exact h.2.2⟩) hs0 ?_
          simp only [Act.put, List.setIfInBounds_toArray, List.set_cons_zero, List.set_cons_succ]
          refine take_un (i := 6) (d := some 54) rfl (by kernel_rfl) rfl (by kernel_rfl) (by kernel_rfl) (by kernel_rfl) (fun _ _ d _ _ h => ⟨h.1, h.2.1, by cases d <;> exact h.2.2⟩) hs0 ?_
          simp only [Act.put, List.setIfInBounds_toArray, List.set_cons_zero, List.set_cons_succ]
          refine take_un (i := 7) (d := some 55) rfl (by kernel_rfl) rfl (by kernel_rfl) (by kernel_rfl) (by kernel_rfl) (fun _ _ d _ _ h => ⟨h.1, h.2.1, by cases d <;> exact h.2.2⟩) hs0 ?_
          simp only [Act.put, List.setIfInBounds_toArray, List.set_cons_zero, List.set_cons_succ]
          refine take_un (i := 8) (d := some 56) rfl (by kernel_rfl) rfl (by kernel_rfl) (by kernel_rfl) (by kernel_rfl) (fun _ _ d _ _ h => ⟨h.1, h.2.1, by cases d <;> exact h.2.2⟩) hs0 ?_
          simp only [Act.put, List.setIfInBounds_toArray, List.set_cons_zero, List.set_cons_succ]
          refine take_one (i := 9) (d := some 57) (v := .bool false) rfl rfl rfl (by kernel_rfl) (by kernel_rfl) (by kernel_rfl) (fun _ _ d _ _ h => ⟨h.1, h.2.1, by cases d <;> exact h.2.2⟩) (fun W hS => by kernel_rfl) hs0 ?_
          simp only [Act.put, List.setIfInBounds_toArray, List.set_cons_zero, List.set_cons_succ]
          refine take_one (i := 10) (d := some 58) (v := .pointer (some ⟨R, 0, none⟩)) rfl rfl rfl (by kernel_rfl) (by kernel_rfl) (by kernel_rfl) (fun _ _ d _ _ h => ⟨h.1, h.2.1, by cases d <;> exact h.2.2⟩) (fun W hS => by kernel_rfl) hs0 ?_
          simp only [Act.put, List.setIfInBounds_toArray, List.set_cons_zero, List.set_cons_succ]
          refine take_one (i := 11) (d := some 59) (v := .pointer (some ⟨R, 0, none⟩)) rfl rfl rfl (by kernel_rfl) (by kernel_rfl) (by kernel_rfl) (fun _ _ d _ _ h => ⟨h.1, h.2.1, by cases d <;> exact h.2.2⟩) (fun W hS => by kernel_rfl) hs0 ?_
          simp only [Act.put, List.setIfInBounds_toArray, List.set_cons_zero, List.set_cons_succ]
          refine take_one (i := 12) (d := some 60) (v := .pointer (some ⟨R, 0, none⟩)) rfl rfl rfl (by kernel_rfl) (by kernel_rfl) (by kernel_rfl) (fun _ _ d _ _ h => ⟨h.1, h.2.1, by cases d <;> exact h.2.2⟩) (fun W hS => by kernel_rfl) hs0 ?_
          simp only [Act.put, List.setIfInBounds_toArray, List.set_cons_zero, List.set_cons_succ]
          refine take_one (i := 13) (d := some 61) (v := .pointer (some ⟨R, 1, none⟩)) rfl rfl rfl (by kernel_rfl) (by kernel_rfl) (by kernel_rfl) (fun _ _ d _ _ h => ⟨h.1, h.2.1, by cases d <;> exact h.2.2⟩) (fun W hS => by kernel_rfl) hs0 ?_
          simp only [Act.put, List.setIfInBounds_toArray, List.set_cons_zero, List.set_cons_succ]
          refine take_one (i := 14) (d := some 62) (v := .int .i64 (at' : Int)) rfl rfl rfl (by kernel_rfl) (by kernel_rfl) (by kernel_rfl) (fun _ _ d _ _ h => ⟨h.1, h.2.1, by cases d <;> exact h.2.2⟩) (fun W hS => ex_loadA (.tmp 61) 3 rfl rfl (ld_int (blk_cell hS (j := 1) rfl))) hs0 ?_
          simp only [Act.put, List.setIfInBounds_toArray, List.set_cons_zero, List.set_cons_succ]
          refine all_one (i := 15) (by kernel_rfl) rfl rfl ?_
          refine wp_callP 193 _ (by kernel_rfl) (must_bad at' 53 _) ⟨rfl, rfl, rfl⟩
        · rintro c a' w' ⟨rfl, rfl, hd⟩
          exact ⟨hd, HX3.out (by rw [HNL.out.1]; exact HNL.out.2) (by rw [HNL.out.1]; omega) (fun q => hv8 q.1) _ HB2w.out.drew⟩
end
end Go.Proofs.YtpgnnplpcalbbaaGreat.V6
