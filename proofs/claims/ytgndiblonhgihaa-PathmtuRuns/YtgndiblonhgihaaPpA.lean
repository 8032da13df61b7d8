/-
  The document's cache in memory: rows of entries.
-/
import Derived.Test.YtgndiblonhgihaaPnS
import Derived.Great.BuildSlice
import Derived.Maps.AppendAt
namespace Go.Proofs.Ytgndiblonhgihaa
open Go Go.RowKit Go.Lib
set_option linter.unusedVariables false
set_option linter.unusedSimpArgs false

/-- An entry's cells, 18 whatever its address. -/
def eE (x : PE) : List Value := u8s ((List.range 16).map fun i => x.k.getD i 0) ++ [.int .i64 x.m, .int .i64 x.u]
theorem eE_len (x : PE) : (eE x).length = 18 := by simp [eE, u8s]
theorem eE_ok {x : PE} (h : x.Ok) : eE x = eC x.k x.m x.u := by
  unfold eE eC
  have : ((List.range 16).map fun i => x.k.getD i 0) = x.k := by
    refine List.ext_getElem? fun i => ?_
    by_cases c : i < 16
    · simp [List.getD, c, h.2]
    · rw [List.getElem?_eq_none (by simp; omega), List.getElem?_eq_none (by have := h.2; omega)]
  rw [this]
theorem eE_one (x : PE) : ∀ u ∈ eE x, u.oneCell' = true := by
  intro u hu
  unfold eE at hu
  rcases List.mem_append.1 hu with h | h
  · exact u8s_one _ u h
  · simp at h
    rcases h with rfl | rfl <;> rfl
theorem flat_atE : ∀ {l : List PE} {j : Nat} {e : PE}, l[j]? = some e → ∀ (i : Nat) u, (eE e)[i]? = some u → (l.flatMap eE)[j * 18 + i]? = some u
  | [], j, e, h, _, _, _ => by simp at h
  | x :: l, 0, e, h, i, u, hu => by
    simp at h
    subst h
    rw [List.flatMap_cons, List.getElem?_append_left (by have := (List.getElem?_eq_some_iff.1 hu).1; omega)]
    simpa using hu
  | x :: l, j + 1, e, h, i, u, hu => by
    rw [List.getElem?_cons_succ] at h
    rw [List.flatMap_cons, List.getElem?_append_right (by rw [eE_len]; omega), eE_len, show (j + 1) * 18 + i - 18 = j * 18 + i by omega]
    exact flat_atE h i u hu
theorem flat_lenE : ∀ l : List PE, (l.flatMap eE).length = l.length * 18
  | [] => by simp
  | x :: l => by rw [List.flatMap_cons, List.length_append, eE_len, flat_lenE l, List.length_cons]; omega
theorem own_atE {W : World} {base : Nat} {t : TypeId} {v : Value} {l : List PE} (h : W.ownsRow base t 18 v l.length (l.flatMap eE)) {j : Nat} {e : PE} (hj : l[j]? = some e) :
    ∃ g c, v = .slice (some ⟨g, 0, none⟩) l.length c ∧ g < W.heap.size ∧ base ≤ g ∧ CellsAt W g (j * 18) (eE e) := by
  have hjl := (List.getElem?_eq_some_iff.1 hj).1
  rcases h.2 with ⟨_, h0⟩ | ⟨g, c, cur, rfl, h1, h2, h3⟩
  · omega
  · refine ⟨g, c, rfl, (Array.getElem?_eq_some_iff.1 h2).1, h1, fun i u hu => ?_⟩
    have := h.cells (g := g) rfl (j * 18 + i) u (flat_atE hj i u hu)
    rw [Go.WideShapes.add_plain] at this
    simpa using this
theorem own_baseE {W : World} {base b2 k n : Nat} {t : TypeId} {v : Value} {xs : List Value} (h : W.ownsRow base t k v n xs) (hb : b2 ≤ base) : W.ownsRow b2 t k v n xs := by
  refine ⟨h.1, ?_⟩
  rcases h.2 with h2 | ⟨g, cap, cur, rfl, h1, h3⟩
  · exact .inl h2
  · exact .inr ⟨g, cap, cur, rfl, Nat.le_trans hb h1, h3⟩
theorem own_ltE {w : World} {base size n : Nat} {e : TypeId} {v : Value} {xs : List Value} (h : w.ownsRow base e size v n xs) {b : Nat} (hb : v.ownBlock = some b) : base ≤ b ∧ b < w.heap.size := by
  rcases h.2 with ⟨rfl, _⟩ | ⟨g, cap, cur, rfl, h1, h2, h3⟩
  · simp [Value.ownBlock] at hb
  · simp [Value.ownBlock] at hb
    subst hb
    exact ⟨h1, (Array.getElem?_eq_some_iff.1 h2).1⟩
/-- A part of a row as a slice. -/
def SrcE (W : World) (S : Value) (l : List PE) : Prop := (S = .slice none 0 0 ∧ l = []) ∨ ∃ a c, S = .slice (some a) l.length c ∧ ∀ j u, (l.flatMap eE)[j]? = some u → W.cell? (a.add j) = some u
theorem srcE_take {W : World} {base : Nat} {t : TypeId} {l : List PE} {g c n : Nat} (h : W.ownsRow base t 18 (.slice (some ⟨g, 0, none⟩) l.length c) l.length (l.flatMap eE)) (hn : n ≤ l.length) : SrcE W (.slice (some ⟨g, 0, none⟩) n c) (l.take n) := by
  refine .inr ⟨_, _, by rw [List.length_take, Nat.min_eq_left hn], fun j u hj => h.cells (g := g) rfl j u ?_⟩
  have e : l.flatMap eE = (l.take n).flatMap eE ++ (l.drop n).flatMap eE := by rw [← List.flatMap_append, List.take_append_drop]
  rw [e, List.getElem?_append_left (List.getElem?_eq_some_iff.1 hj).1]
  exact hj
theorem srcE_drop {W : World} {base : Nat} {t : TypeId} {l : List PE} {g c n m : Nat} {a : Addr} (h : W.ownsRow base t 18 (.slice (some ⟨g, 0, none⟩) l.length c) l.length (l.flatMap eE)) (hn : n ≤ l.length) (ha : n < l.length → a = ⟨g, n * 18, none⟩) : SrcE W (.slice (some a) (l.length - n) m) (l.drop n) := by
  refine .inr ⟨_, _, by rw [List.length_drop], fun j u hj => ?_⟩
  have hlt : n < l.length := Nat.lt_of_not_le fun hc => by rw [List.drop_eq_nil_of_le hc] at hj; simp at hj
  rw [ha hlt]
  have e : l.flatMap eE = (l.take n).flatMap eE ++ (l.drop n).flatMap eE := by rw [← List.flatMap_append, List.take_append_drop]
  have := h.cells (g := g) rfl (n * 18 + j) u (by
    rw [e, List.getElem?_append_right (by rw [flat_lenE, List.length_take, Nat.min_eq_left hn]; omega), flat_lenE, List.length_take, Nat.min_eq_left hn, show n * 18 + j - n * 18 = j by omega]
    exact hj)
  rw [Go.WideShapes.add_plain] at this ⊢
  simpa using this
theorem SrcE.on {W W' : World} {S : Value} {l : List PE} (h : SrcE W S l) (hb : Below W.heap.size W W') : SrcE W' S l := by
  rcases h with h | ⟨a, c, e, h⟩
  · exact .inl h
  · refine .inr ⟨a, c, e, fun j u hj => ?_⟩
    have hc := h j u hj
    exact (hb.cell (World.block_lt_of_cell? W _ hc)).trans hc
theorem arm_bsE {P : Program} {w w2 : World} {ops : Array Oper} {rest : List Oper} {o : Oper} {a : Act} {Q : Exit → Act → World → Prop} (x : Operand) (t : TypeId) (hop : o.op = Op.buildSlice t 1 #[(0, x)]) (hw : Region.wanted o (yielded ops a.tmps) = true) {vx v : Value} (hx : a.eval x = vx) (hrun : (Instr.buildSlice t 1 #[(0, vx)]).run P w = .ok v w2) (hK : wpList P ops Q rest (a.put o.dst v) w2) : wpList P ops Q (o :: rest) a w := by
  refine BigFrame.wpList_want hw fun K hK' => ?_
  unfold Oper.wp
  simp [execOp, hop, hx, hrun, Result.andThen]
  exact hK' _ _ hK
theorem arm_apE {P : Program} {w w2 : World} {ops : Array Oper} {rest : List Oper} {o : Oper} {a : Act} {Q : Exit → Act → World → Prop} (s x : Operand) (t : TypeId) (hop : o.op = Op.call { callee := Callee.builtin Builtin.append, args := #[s, x], argTypes := #[t, t] }) (hw : Region.wanted o (yielded ops a.tmps) = true) {vs vx v : Value} (hs : a.eval s = vs) (hx : a.eval x = vx) (hrun : (Builtin.append_ #[t, t] o.type #[vs, vx]).run P w = .ok v w2) (hK : wpList P ops Q rest (a.put o.dst v) w2) : wpList P ops Q (o :: rest) a w := by
  refine BigFrame.wpList_want hw fun K hK' => ?_
  unfold Oper.wp
  simp [execOp, hop, resolve, invoke, builtin, hs, hx, hrun, Result.andThen]
  exact hK' _ _ hK
theorem arm_slE {P : Program} {w : World} {ops : Array Oper} {rest : List Oper} {o : Oper} {a : Act} {Q : Exit → Act → World → Prop} (x : Operand) (lo hi : Option Operand) (t : TypeId) (hop : o.op = Op.slice t x lo hi none) (hw : Region.wanted o (yielded ops a.tmps) = true) {vx v : Value} {vl vh : Option Value} (hx : a.eval x = vx) (hl : lo.map a.eval = vl) (hh : hi.map a.eval = vh) (hrun : (Instr.sliceAt t vx vl vh none).run P w = .ok v w) (hK : wpList P ops Q rest (a.put o.dst v) w) : wpList P ops Q (o :: rest) a w := by
  refine BigFrame.wpList_want hw fun K hK' => ?_
  unfold Oper.wp
  simp [execOp, hop, hx, hl, hh, hrun, Result.andThen]
  exact hK' _ _ hK
theorem sl_hiE (g n len c : Nat) (w : World) (h : n ≤ c) (hc : c ≤ maxLen) : (Instr.sliceAt 43 (.slice (some ⟨g, 0, none⟩) len c) none (some (.int .i64 n)) none).run Try.prog w = .ok (.slice (some ⟨g, 0, none⟩) n c) w := by
  have h1 : ¬ ((c : Int) < n) := by omega
  have h2 : ¬ ((n : Int) < 0) := by omega
  simp [Instr.sliceAt, go_sem, h1, h2, h]
theorem sl_loE (g n len c : Nat) (h : n ≤ len) (hl : len ≤ c) (hc : c ≤ maxLen) : ∃ a, (∀ w : World, (Instr.sliceAt 43 (.slice (some ⟨g, 0, none⟩) len c) (some (.int .i64 n)) none none).run Try.prog w = .ok (.slice (some a) (len - n) (c - n)) w) ∧ (n < len → a = ⟨g, n * 18, none⟩) := by
  have h2 : ¬ ((n : Int) < 0) := by omega
  by_cases hnc : c - n = 0
  · refine ⟨⟨g, 0, none⟩, fun w => ?_, fun hlt => by omega⟩
    simp [Instr.sliceAt, go_sem, h2, h, hnc, hl]
    intro hh
    omega
  · refine ⟨⟨g, n * 18, none⟩, fun w => ?_, fun _ => rfl⟩
    simp [Instr.sliceAt, go_sem, h2, h, hnc, hl]
    intro hh
    omega
theorem cutsE {W : World} {base : Nat} {l : List PE} {a : Option Addr} {c n : Nat} (h : W.ownsRow base 72 18 (.slice a l.length c) l.length (l.flatMap eE)) (hn : n ≤ l.length) :
    ∃ S1 S2, (∀ w : World, (Instr.sliceAt 43 (.slice a l.length c) none (some (.int .i64 n)) none).run Try.prog w = .ok S1 w) ∧ SrcE W S1 (l.take n) ∧ (∀ w : World, (Instr.sliceAt 43 (.slice a l.length c) (some (.int .i64 n)) none none).run Try.prog w = .ok S2 w) ∧ SrcE W S2 (l.drop n) := by
  rcases id h.2 with ⟨e, h0⟩ | ⟨g, c', cur, e, h1, h2, h3, h4, h5⟩
  · injection e with e1 e2 e3
    subst e1
    subst e3
    have hl : l = [] := List.length_eq_zero_iff.1 h0
    subst hl
    obtain rfl : n = 0 := by simpa using hn
    exact ⟨.slice none 0 0, .slice none 0 0, fun w => by simp [Instr.sliceAt, go_sem], .inl ⟨rfl, rfl⟩, fun w => by simp [Instr.sliceAt, go_sem], .inl ⟨rfl, rfl⟩⟩
  · injection e with e1 e2 e3
    subst e1
    subst e3
    obtain ⟨a2, hr, ha⟩ := sl_loE g n l.length c hn h3 h4
    exact ⟨_, .slice (some a2) (l.length - n) (c - n), fun w => sl_hiE g n l.length c w (Nat.le_trans hn h3) h4, srcE_take h hn, hr, srcE_drop h hn ha⟩
theorem infoPE : ∃ i, Try.prog.info? 72 = some i ∧ i.zero = some (.agg ([.int .u8 0, .int .u8 0, .int .u8 0, .int .u8 0, .int .u8 0, .int .u8 0, .int .u8 0, .int .u8 0, .int .u8 0, .int .u8 0, .int .u8 0, .int .u8 0, .int .u8 0, .int .u8 0, .int .u8 0, .int .u8 0, .int .i64 0, .int .i64 0] : List Value).toArray) ∧ i.size = 18 ∧ i.bytes = 32 := by
  have : (Try.prog.info? 72).map (fun i => (i.zero, i.size, i.bytes)) = some (some (.agg ([.int .u8 0, .int .u8 0, .int .u8 0, .int .u8 0, .int .u8 0, .int .u8 0, .int .u8 0, .int .u8 0, .int .u8 0, .int .u8 0, .int .u8 0, .int .u8 0, .int .u8 0, .int .u8 0, .int .u8 0, .int .u8 0, .int .i64 0, .int .i64 0] : List Value).toArray), 18, 32) := by kernel_rfl
  obtain ⟨i, h1, h2⟩ := Option.map_eq_some_iff.1 this
  injection h2 with h2 h3
  injection h3 with h3 h4
  exact ⟨i, h1, h2, h3, h4⟩
theorem appE {base : Nat} {W : World} {v : Value} {L : List PE} (h : W.ownsRow base 72 18 v L.length (L.flatMap eE)) (hb : base ≤ W.heap.size) {L2 : List PE} (hl : L.length + L2.length ≤ 200000) {S : Value} (hS : SrcE W S L2) (ty : TypeId) :
    ∃ v' W', (Builtin.append_ #[43, 43] ty #[v, S]).run Try.prog W = .ok v' W' ∧ W'.ownsRow base 72 18 v' (L ++ L2).length ((L ++ L2).flatMap eE) ∧ Below base W W' := by
  obtain ⟨i, hi, hz, hsz, hby⟩ := infoPE
  rcases hS with ⟨rfl, rfl⟩ | ⟨a, c, rfl, hc⟩
  · refine ⟨v, W, run_append_owned_none W base 43 ty 72 i 18 Try.underlying43 hi v L.length _ h, ?_, Below.refl _ _⟩
    rw [List.append_nil]
    exact h
  · obtain ⟨v', w', hrun, hown, hgr, _, hat⟩ := run_append_own_at (P := Try.prog) W base 43 ty 72 i (.agg ([.int .u8 0, .int .u8 0, .int .u8 0, .int .u8 0, .int .u8 0, .int .u8 0, .int .u8 0, .int .u8 0, .int .u8 0, .int .u8 0, .int .u8 0, .int .u8 0, .int .u8 0, .int .u8 0, .int .u8 0, .int .u8 0, .int .i64 0, .int .i64 0] : List Value).toArray) 18 32 Try.underlying43 hi hz hsz hby rfl (by decide) v L.length (L.flatMap eE) h a L2.length c (L2.flatMap eE) (flat_lenE _) hc (fun u hu => by
      obtain ⟨e, _, he⟩ := List.mem_flatMap.1 hu
      exact eE_one e u he) (by unfold maxLen; omega) (by omega) hb
    refine ⟨v', w', hrun, ?_, ⟨hgr.os, hgr.tape, hgr.output, hgr.size, fun j hj => hgr.block j (by omega) (fun e => ?_)⟩⟩
    · rw [List.length_append, List.flatMap_append]
      exact hown
    · have := (own_ltE h e.symm).1
      omega
theorem pushE {base : Nat} {W : World} {v : Value} {L : List PE} (h : W.ownsRow base 72 18 v L.length (L.flatMap eE)) (hb : base ≤ W.heap.size) (hl : L.length ≤ 100000) (e : PE) (ty : TypeId) :
    ∃ v' W', (Builtin.append_ #[43, 43] ty #[v, .slice (some ⟨W.heap.size, 0, none⟩) 1 1]).run Try.prog (W.alloc (.cells (eE e).toArray 72)) = .ok v' W' ∧ W'.ownsRow base 72 18 v' (L ++ [e]).length ((L ++ [e]).flatMap eE) ∧ Below base W W' := by
  have hB1 := (Below.refl W.heap.size W).alloc (Nat.le_refl _) (.cells (eE e).toArray 72)
  have ho1 := own_same (w' := W.alloc (.cells (eE e).toArray 72)) h (fun b hb' => hB1.block b (own_ltE h hb').2)
  obtain ⟨v', w', hrun, hown, hbl⟩ := appE (L2 := [e]) ho1 (by simp; omega) (by simp; omega) (S := .slice (some ⟨W.heap.size, 0, none⟩) 1 1) (.inr ⟨_, 1, rfl, fun j u hj => by
    rw [Go.WideShapes.add_plain]
    have := CellsAt.of_blk (blk_new W (.cells (eE e).toArray 72)) j u (by simpa using hj)
    simpa using this⟩) ty
  exact ⟨v', w', hrun, hown, (hB1.mono hb).trans hbl⟩
theorem bsE (W : World) (e : PE) : (Instr.buildSlice 43 1 #[(0, .agg (eE e).toArray)]).run Try.prog W = .ok (.slice (some ⟨W.heap.size, 0, none⟩) 1 1) (W.alloc (.cells (eE e).toArray 72)) := by
  obtain ⟨i, hi, hz, hsz, hby⟩ := infoPE
  refine run_buildSlice W 43 72 1 #[(0, .agg (eE e).toArray)] (eE e).toArray i (.agg ([.int .u8 0, .int .u8 0, .int .u8 0, .int .u8 0, .int .u8 0, .int .u8 0, .int .u8 0, .int .u8 0, .int .u8 0, .int .u8 0, .int .u8 0, .int .u8 0, .int .u8 0, .int .u8 0, .int .u8 0, .int .u8 0, .int .i64 0, .int .i64 0] : List Value).toArray) Try.underlying43 hi hz (by rw [hsz]; omega) (by rw [hsz]; omega) ?_
  have := Go.Great.fill_whole (s := 18) (by omega) [.agg (eE e).toArray] ((Array.range (1 * i.size)).map ((Value.agg ([.int .u8 0, .int .u8 0, .int .u8 0, .int .u8 0, .int .u8 0, .int .u8 0, .int .u8 0, .int .u8 0, .int .u8 0, .int .u8 0, .int .u8 0, .int .u8 0, .int .u8 0, .int .u8 0, .int .u8 0, .int .u8 0, .int .i64 0, .int .i64 0] : List Value).toArray).cells[· % (Value.agg ([.int .u8 0, .int .u8 0, .int .u8 0, .int .u8 0, .int .u8 0, .int .u8 0, .int .u8 0, .int .u8 0, .int .u8 0, .int .u8 0, .int .u8 0, .int .u8 0, .int .u8 0, .int .u8 0, .int .u8 0, .int .u8 0, .int .i64 0, .int .i64 0] : List Value).toArray).cells.size]!)) (fun v hv => by simp at hv; rw [hv]; simp [Value.cells, eE_len]) (by simp [hsz])
  rw [hsz] at this ⊢
  simpa [Value.cells] using this
/-- The document's cache. -/
structure Doc (rb : Nat) (cf : Cf) (now : Int) (D : List PE) (v : Value) (W : World) : Prop where
  box : W.heap[rb]? = some (.cells [.int .i64 cf.lim, .int .i64 cf.link, .int .i64 cf.life, .int .i64 cf.least, .int .i64 now, v].toArray 45)
  row : W.ownsRow (rb + 1) 72 18 v D.length (D.flatMap eE)
  ok : ∀ x ∈ D, x.Ok
theorem Doc.on {rb : Nat} {cf : Cf} {now : Int} {D : List PE} {v : Value} {W W' : World} (h : Doc rb cf now D v W) (hb : Below W.heap.size W W') : Doc rb cf now D v W' :=
  ⟨blk_on h.box hb, own_same h.row (fun b hb' => hb.block b (own_ltE h.row hb').2), h.ok⟩
theorem Doc.lt {rb : Nat} {cf : Cf} {now : Int} {D : List PE} {v : Value} {W : World} (h : Doc rb cf now D v W) : rb < W.heap.size := (Array.getElem?_eq_some_iff.1 h.box).1
/-- A call of the document turns its box alone. -/
structure FrD (rb : Nat) (W W' : World) : Prop where
  os : W'.os = W.os
  tape : W'.tape = W.tape
  output : W'.output = W.output
  size : W.heap.size ≤ W'.heap.size
  other : ∀ j, j < W.heap.size → j ≠ rb → W'.heap[j]? = W.heap[j]?
theorem FrD.below {rb : Nat} {W W' : World} (h : Below W.heap.size W W') : FrD rb W W' := ⟨h.os, h.tape, h.output, h.size, fun j hj _ => h.block j hj⟩
theorem FrD.trans {rb : Nat} {A B C : World} (h : FrD rb A B) (g : FrD rb B C) : FrD rb A C := ⟨g.os.trans h.os, g.tape.trans h.tape, g.output.trans h.output, Nat.le_trans h.size g.size, fun j hj hn => (g.other j (by have := h.size; omega) hn).trans (h.other j hj hn)⟩
theorem ld_cE {W : World} {g o : Nat} {e : PE} (h : CellsAt W g o (eE e)) : (Instr.loadAt 72 (.pointer (some ⟨g, o, none⟩))).run Try.prog W = .ok (.agg (eE e).toArray) W :=
  agg_load (n := 18) (fun w => by kernel_rfl) (fun w => by kernel_rfl) (eE_len e) h
theorem ld_kE {W : World} {g o : Nat} {e : PE} (hok : e.Ok) (h : CellsAt W g o (eE e)) : (Instr.loadAt 35 (.pointer (some ⟨g, o, none⟩))).run Try.prog W = .ok (.agg (u8s e.k).toArray) W := by
  rw [eE_ok hok] at h
  exact load6 hok.2 (fun i u hi => h i u (by unfold eC; rw [List.getElem?_append_left (List.getElem?_eq_some_iff.1 hi).1]; exact hi))
theorem cE_u17 {W : World} {g o : Nat} {e : PE} (h : CellsAt W g o (eE e)) : W.cell? ⟨g, o + 17, none⟩ = some (.int .i64 e.u) := h 17 _ (by simp [eE, u8s])
theorem cE_m16 {W : World} {g o : Nat} {e : PE} (h : CellsAt W g o (eE e)) : W.cell? ⟨g, o + 16, none⟩ = some (.int .i64 e.m) := h 16 _ (by simp [eE, u8s])
theorem st_L {W : World} {rb : Nat} {cf : Cf} {now : Int} {v0 : Value} (h : W.heap[rb]? = some (.cells [.int .i64 cf.lim, .int .i64 cf.link, .int .i64 cf.life, .int .i64 cf.least, .int .i64 now, v0].toArray 45)) {v : Value} (hv : ∃ x n m, v = .slice x n m) : (Instr.storeAt 43 (.pointer (some ⟨rb, 5, none⟩)) v).run Try.prog W = .ok () (W.setCell ⟨rb, 5, none⟩ v) := by
  obtain ⟨x, n, m, rfl⟩ := hv
  have h1 : W.cell? ⟨rb, 5, none⟩ = some v0 := blk_cell h rfl
  have h2 := blk_open h 5
  simp [Instr.storeAt, go_sem, h1, h2]
/-- The box takes a new row. -/
theorem Doc.put {rb : Nat} {cf : Cf} {now : Int} {D D' : List PE} {v v' : Value} {W W' : World} (h : Doc rb cf now D v W) (hb : Below W.heap.size W W') (hr : W'.ownsRow W.heap.size 72 18 v' D'.length (D'.flatMap eE)) (hok : ∀ x ∈ D', x.Ok) :
    Doc rb cf now D' v' (W'.setCell ⟨rb, 5, none⟩ v') ∧ FrD rb W (W'.setCell ⟨rb, 5, none⟩ v') := by
  have hlt := h.lt
  have hbx := blk_on h.box hb
  have on : Only rb W' (W'.setCell ⟨rb, 5, none⟩ v') := (Only.refl rb W').set 5 _
  have hbox' := blk_set hbx 5 v'
  refine ⟨⟨hbox', own_baseE (own_same hr (fun q hq => on.other q (by have := (own_ltE hr hq).1; omega))) (by omega), hok⟩, ⟨on.os.trans hb.os, on.tape.trans hb.tape, on.output.trans hb.output, by rw [on.size]; exact hb.size, fun j hj hn => (on.other j hn).trans (hb.block j hj)⟩⟩
end Go.Proofs.Ytgndiblonhgihaa
