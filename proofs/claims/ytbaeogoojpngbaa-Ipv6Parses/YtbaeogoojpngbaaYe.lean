/-
  A row of heads of one's own; calls that panic in a drawn region.
-/
import Derived.Test.YtbaeogoojpngbaaYd
import Derived.Maps.AppendAt
import Derived.Great.BuildSlice
namespace Go.Proofs.Ytbaeogoojpngbaa
open Go Go.RowKit Go.Shelf
set_option linter.unusedVariables false
set_option linter.unusedSimpArgs false

/-- The cells of a row of heads. -/
def cellsL : Opts → List Value → List Value
  | [], _ => []
  | o :: os, ds => .int .u8 o.1 :: ds.headD undef :: cellsL os ds.tail
theorem cellsL_length : ∀ (os : Opts) (ds : List Value), (cellsL os ds).length = os.length * 2
  | [], _ => rfl
  | o :: os, ds => by simp [cellsL, cellsL_length os ds.tail]; omega
theorem cellsL_push : ∀ (os : Opts) (ds : List Value) (K : Int) (D : List Int) (u : Value), ds.length = os.length → cellsL (os ++ [(K, D)]) (ds ++ [u]) = cellsL os ds ++ [.int .u8 K, u]
  | [], [], K, D, u, _ => rfl
  | o :: os, d :: ds, K, D, u, h => by
    have := cellsL_push os ds K D u (by simpa using h)
    simp [cellsL, this]
theorem cellsL_at : ∀ (os : Opts) (ds : List Value) (j : Nat), j < os.length → (cellsL os ds)[j * 2]? = some (.int .u8 (oK os j)) ∧ (cellsL os ds)[j * 2 + 1]? = some (ds[j]?.getD undef)
  | o :: os, ds, 0, _ => by cases ds <;> simp [cellsL, oK]
  | o :: os, ds, j + 1, h => by
    have := cellsL_at os ds.tail j (by simpa using h)
    rw [show (j + 1) * 2 = j * 2 + 1 + 1 by omega, show j * 2 + 1 + 1 + 1 = (j * 2 + 1) + 1 + 1 by omega]
    refine ⟨?_, ?_⟩
    · simp only [cellsL, List.getElem?_cons_succ]
      rw [this.1]
      simp [oK]
    · simp only [cellsL, List.getElem?_cons_succ]
      rw [this.2]
      cases ds <;> simp
theorem infoH : ∃ i, Try.prog.info? 52 = some i ∧ i.zero = some (.agg #[.int .u8 0, .slice none 0 0]) ∧ i.size = 2 ∧ i.bytes = 32 := by
  have : (Try.prog.info? 52).map (fun i => (i.zero, i.size, i.bytes)) = some (some (.agg #[.int .u8 0, .slice none 0 0]), 2, 32) := by kernel_rfl
  obtain ⟨i, h1, h2⟩ := Option.map_eq_some_iff.1 this
  injection h2 with h2 h3
  injection h3 with h3 h4
  exact ⟨i, h1, h2, h3, h4⟩
/-- A row of heads of one's own: all its blocks lie from 'base' on. -/
structure HRow (base : Nat) (W : World) (v : Value) (os : Opts) (ds : List Value) : Prop where
  own : W.ownsRow base 52 2 v os.length (cellsL os ds)
  dl : ds.length = os.length
  fit : ∀ j, 0 ≤ oK os j ∧ oK os j < 256
  dat : ∀ j, j < os.length → BS (fun b => base ≤ b ∧ v.ownBlock ≠ some b) W (ds[j]?.getD undef) (oD os j)
section
variable {base : Nat} {W W' : World} {v : Value} {os : Opts} {ds : List Value} {O : Nat → Prop}
theorem HRow.sep (h : HRow base W v os ds) (hs : Sep O W W') (hO : ∀ b, base ≤ b → ¬ O b) : HRow base W' v os ds :=
  ⟨own_same h.own (fun b hb => hs.same b (own_lt h.own hb).2 (hO b (own_lt h.own hb).1)), h.dl, h.fit, fun j hj => (h.dat j hj).sep hs (fun b hb => hO b hb.1)⟩
theorem HRow.on (h : HRow base W v os ds) (hb : Below W.heap.size W W') : HRow base W' v os ds := h.sep (O := fun _ => False) (Sep.of_below hb) (fun _ _ h => h)
theorem HRow.nil (base : Nat) (W : World) : HRow base W (.slice none 0 0) [] [] :=
  ⟨World.ownsRow_nil _ _ _ _, rfl, (fun j => by simp [oK]), (fun j hj => by simp at hj)⟩
theorem HRow.slc (h : HRow base W v os ds) : ∃ a cap, v = .slice a os.length cap := by
  rcases h.own.2 with ⟨rfl, h0⟩ | ⟨g, cap, cur, rfl, _⟩
  · rw [h0]; exact ⟨_, _, rfl⟩
  · exact ⟨_, _, rfl⟩
theorem HRow.hs (h : HRow base W v os ds) (hl : os.length ≤ 140737488351232) : HS (fun b => base ≤ b) W v os := by
  refine ⟨h.fit, hl, ?_⟩
  rcases h.own.2 with ⟨rfl, h0⟩ | ⟨g, cap, cur, rfl, hb, hg, _⟩
  · exact ⟨none, 0, by rw [h0], .inl h0⟩
  · refine ⟨_, cap, rfl, .inr ⟨g, 0, rfl, (Array.getElem?_eq_some_iff.1 hg).1, hb, fun j hj => ?_⟩⟩
    have hc := cellsL_at os ds j hj
    have c0 := h.own.cells (g := g) rfl _ _ hc.1
    have c1 := h.own.cells (g := g) rfl _ _ hc.2
    rw [Go.WideShapes.add_plain] at c0 c1
    exact ⟨by simpa using c0, _, by simpa [Nat.add_assoc] using c1, (h.dat j hj).mono (fun b _ hb => hb.1)⟩
theorem HRow.push (h : HRow base W v os ds) (hb : base ≤ W.heap.size) (hl : os.length ≤ 100000) {K : Int} {u : Value} {D : List Int} (hK : 0 ≤ K ∧ K < 256) (hu : BS (fun b => base ≤ b ∧ v.ownBlock ≠ some b) W u D) (ty : TypeId) :
    ∃ v' W', (Builtin.append_ #[25, 25] ty #[v, .slice (some ⟨W.heap.size, 0, none⟩) 1 1]).run Try.prog (W.alloc (hBox K u)) = .ok v' W' ∧ HRow base W' v' (os ++ [(K, D)]) (ds ++ [u]) ∧ Sep (fun b => base ≤ b) W W' := by
  obtain ⟨i, hi, hz, hsz, hby⟩ := infoH
  have hB1 := (Below.refl W.heap.size W).alloc (Nat.le_refl _) (hBox K u)
  have ho1 : (W.alloc (hBox K u)).ownsRow base 52 2 v os.length (cellsL os ds) := own_same h.own (fun b hb' => hB1.block b (own_lt h.own hb').2)
  obtain ⟨v', w', hrun, hown, hgr, _, hat⟩ := run_append_own_at (P := Try.prog) (W.alloc (hBox K u)) base 25 ty 52 i (.agg #[.int .u8 0, .slice none 0 0]) 2 32 Try.underlying25 hi hz hsz hby rfl (by decide) v os.length (cellsL os ds) ho1 ⟨W.heap.size, 0, none⟩ 1 1 [.int .u8 K, u] rfl
    (fun j x hj => by
      rw [Go.WideShapes.add_plain]
      have := CellsAt.of_blk (blk_new W (hBox K u)) j x hj
      simpa using this) (fun x hx => by
      simp only [List.mem_cons, List.not_mem_nil, or_false] at hx
      rcases hx with rfl | rfl
      · rfl
      · exact hu.one) (by unfold maxLen; omega) (by omega) (by simp; omega)
  have hs1 : Sep (fun b => v.ownBlock = some b) (W.alloc (hBox K u)) w' := ⟨hgr.os, hgr.tape, hgr.output, hgr.size, fun b hb' hn => hgr.block b hb' (fun e => hn e.symm)⟩
  have hsep : Sep (fun b => v.ownBlock = some b) W w' := (Sep.of_below hB1).trans hs1
  have hnew : ∀ {z : Value} {Z : List Int}, BS (fun b => base ≤ b ∧ v.ownBlock ≠ some b) W z Z → BS (fun b => base ≤ b ∧ v'.ownBlock ≠ some b) w' z Z := fun {z Z} hz => by
    have h1 := hz.mono (S' := fun b => (base ≤ b ∧ v.ownBlock ≠ some b) ∧ b < W.heap.size) (fun b hb' hh => ⟨hh, hb'⟩)
    refine (h1.sep hsep (fun b hb' e => hb'.1.2 e)).mono (fun b _ hh => ⟨hh.1.1, fun e => ?_⟩)
    rw [World.size_alloc] at hat
    rcases hat with hat | hat
    · rw [hat] at e; exact hh.1.2 e
    · rw [hat] at e; injection e with e; omega
  refine ⟨v', w', hrun, ⟨?_, by simp [h.dl], fun j => ?_, fun j hj => ?_⟩, hsep.mono (fun b _ e => (own_lt h.own e).1)⟩
  · rw [cellsL_push os ds K D u h.dl, List.length_append]
    exact hown
  · by_cases hj : j < os.length
    · have := h.fit j
      simpa [oK, List.getElem?_append, hj] using this
    · by_cases e : j = os.length
      · subst e; simpa [oK] using hK
      · have : (os ++ [(K, D)])[j]? = none := List.getElem?_eq_none (by simp; omega)
        simp [oK, this]
  · have hdl := h.dl
    by_cases hj2 : j < os.length
    · have e1 : (ds ++ [u])[j]? = ds[j]? := List.getElem?_append_left (by omega)
      have e2 : oD (os ++ [(K, D)]) j = oD os j := by simp [oD, List.getElem?_append, hj2]
      rw [e1, e2]
      exact hnew (h.dat j hj2)
    · obtain rfl : j = os.length := by simp at hj; omega
      have e1 : (ds ++ [u])[os.length]? = some u := by rw [← hdl]; simp
      have e2 : oD (os ++ [(K, D)]) os.length = D := by simp [oD]
      rw [e1, e2]
      exact hnew hu
end
theorem bsH_run (W : World) (K : Int) (u : Value) (hu : u.oneCell' = true) : (Instr.buildSlice 25 1 #[(0, .agg #[.int .u8 K, u])]).run Try.prog W = .ok (.slice (some ⟨W.heap.size, 0, none⟩) 1 1) (W.alloc (hBox K u)) := by
  obtain ⟨i, hi, hz, hsz, hby⟩ := infoH
  refine run_buildSlice W 25 52 1 #[(0, .agg #[.int .u8 K, u])] [.int .u8 K, u].toArray i (.agg #[.int .u8 0, .slice none 0 0]) Try.underlying25 hi hz (by rw [hsz]; omega) (by rw [hsz]; omega) ?_
  have := Go.Great.fill_whole (s := 2) (by omega) [.agg #[.int .u8 K, u]] ((Array.range (1 * i.size)).map ((Value.agg #[.int .u8 0, .slice none 0 0]).cells[· % (Value.agg #[.int .u8 0, .slice none 0 0]).cells.size]!)) (fun v hv => by simp at hv; rw [hv]; simp [Value.cells]) (by simp [hsz])
  rw [hsz] at this ⊢
  simpa [Value.cells] using this
theorem wp_buildA {P : Program} {o : Oper} {a : Act} {d : Option Nat} {w w2 : World} {K : Act → World → Prop} {Q : Exit → Act → World → Prop} (x : Operand) (t : TypeId) (hop : o.op = Op.buildSlice t 1 #[(0, x)]) (hd : o.dst = d) {vx v : Value} (hx : a.eval x = vx) (hrun : (Instr.buildSlice t 1 #[(0, vx)]).run P w = .ok v w2) (hK : K (a.put d v) w2) : o.wp P a w K Q := by
  subst hd
  unfold Oper.wp
  simp [execOp, hop, hx, hrun, Result.andThen]
  exact hK
theorem st_heads {W : World} {b j : Nat} {c : List Value} {t : TypeId} (h : W.heap[b]? = some (.cells c.toArray t)) (hj : j < c.length) {v : Value} (hv : ∃ x n m, v = .slice x n m) : (Instr.storeAt 25 (.pointer (some ⟨b, j, none⟩)) v).run Try.prog W = .ok () (W.setCell ⟨b, j, none⟩ v) := by
  obtain ⟨x, n, m, rfl⟩ := hv
  have h1 : W.cell? ⟨b, j, none⟩ = some (c[j]'hj) := blk_cell h (by simp)
  have h2 := blk_open h j
  simp [Instr.storeAt, go_sem, h1, h2]
/-- A call that panics. -/
theorem wp_callP {P : Program} {o : Oper} {a : Act} {w : World} {K : Act → World → Prop} {Q : Exit → Act → World → Prop} {ps : List PanicEntry} (f : FuncId) (vs : Array Value)
    (hrun : (execOp a.eval o).run P w = .ok (.enter f vs) w) (hc : Calls P f vs w fun e w' => e = .panicked ps ∧ w' = w) (hK : Q (.panic ps) a w) : o.wp P a w K Q := by
  unfold Oper.wp
  rw [hrun]
  refine hc.mono ?_
  rintro e w' ⟨rfl, rfl⟩
  exact hK
/-- A region that ends, or panics. -/
theorem region_end {P : Program} {id : Nat} {ops : Array Oper} {Q : Exit → Act → World → Prop} {a : Act} {w : World} (M : Act → Act → World → Prop) (N : List PanicEntry → Act → World → Prop) (h : (Code.region id ops true).wp P (fun e a' w' => match e with | .normal => M a a' w' | .panic c => N c a' w' | _ => False) a w) (hM : ∀ a' w', M a a' w' → Q .normal a' w') (hN : ∀ c a' w', N c a' w' → Q (.panic c) a' w') : (Code.region id ops true).wp P Q a w :=
  wp_mono h (fun e a' w' hm => by cases e <;> first | exact hM a' w' hm | exact hN _ a' w' hm | exact hm.elim)
theorem ex_geqI {o : Oper} {a : Act} {W : World} (p q : Operand) {t : TypeId} (hop : o.op = Op.binOp .geq 3 p q t) {x y : Int} (hp : a.eval p = .int .i64 x) (hq : a.eval q = .int .i64 y) {b : Bool} (hb : decide (y ≤ x) = b) : (execOp a.eval o).run Try.prog W = .ok (.value (.bool b)) W := by
  generalize a.eval = ev at *
  simp [execOp, hop, hp, hq, go_sem, hb]
theorem ex_lssI {o : Oper} {a : Act} {W : World} (p q : Operand) {t : TypeId} (hop : o.op = Op.binOp .lss 3 p q t) {x y : Int} (hp : a.eval p = .int .i64 x) (hq : a.eval q = .int .i64 y) {b : Bool} (hb : decide (x < y) = b) : (execOp a.eval o).run Try.prog W = .ok (.value (.bool b)) W := by
  generalize a.eval = ev at *
  simp [execOp, hop, hp, hq, go_sem, hb]

end Go.Proofs.Ytbaeogoojpngbaa
