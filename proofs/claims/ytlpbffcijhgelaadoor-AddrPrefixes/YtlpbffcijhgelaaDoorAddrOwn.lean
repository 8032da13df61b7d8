/-
  Slices that a call makes by itself and appends to: what an append leaves, and where its row lies.
-/
import Derived.Test.YtlpbffcijhgelaaDoorAddrMem
import Derived.Deep.AppendSrc
import Derived.Laws.BytesArg
import Derived.Deep.RegionLaw
namespace Go.Proofs.YtlpbffcijhgelaaDoor
open Go Go.RowKit
set_option linter.unusedVariables false

/-- t is the type of slices of e, whose elements take one cell and by' bytes. -/
structure Elem (t e : TypeId) (z : Value) (by' : Nat) : Prop where
  und : Tryd.prog.underlying t = some (.slice e)
  inf : (Tryd.prog.info? e).map (fun i => (i.zero, i.size, i.bytes)) = some (some z, 1, by')
  one : z.cells.size = 1

theorem elem_int : Elem 87 3 (.int .i64 0) 8 := ⟨Tryd.underlying87, by kernel_rfl, rfl⟩
theorem elem_string : Elem 76 9 (.string ⟨#[]⟩) 16 := ⟨Tryd.underlying76, by kernel_rfl, rfl⟩
theorem elem_u8 : Elem 81 5 (.int .u8 0) 1 := ⟨Tryd.underlying81, by kernel_rfl, rfl⟩

/-- An append to a slice of the call's own: a longer row of its own, in the same block or in a new one. -/
theorem own_append {t e : TypeId} {z : Value} {by' : Nat} (E : Elem t e z by') {w : World} {base n m c : Nat} {v : Value} {xs : List Value} (hown : w.ownsRow base e 1 v n xs) (a : Option Addr) (news : List Value) (hl : news.length = m)
    (ha : a = none → m = 0) (hnews : ∀ x, a = some x → ∀ (j : Nat) u, news[j]? = some u → w.cell? (x.add j) = some u) (h1 : ∀ u ∈ news, u.oneCell' = true) (h63 : n + m ≤ maxLen) (hby : (n + m) * by' ≤ 140737488355328) (hbase : base ≤ w.heap.size) (ty : TypeId) :
    ∃ v' w', (Builtin.append_ #[t, t] ty #[v, .slice a m c]).run Tryd.prog w = .ok v' w' ∧ w'.ownsRow base e 1 v' (n + m) (xs ++ news) ∧ w.grownBy w' v.ownBlock ∧ (v'.ownBlock = v.ownBlock ∨ ∀ k, v'.ownBlock = some k → w.heap.size ≤ k) := by
  obtain ⟨i, hi, hz, hs, hb⟩ := info_parts E.inf
  cases a with
  | none =>
    obtain rfl : m = 0 := ha rfl
    obtain rfl : news = [] := List.length_eq_zero_iff.1 hl
    refine ⟨v, w, ?_, by simpa using hown, ⟨rfl, rfl, rfl, Nat.le_refl _, fun _ _ _ => rfl⟩, .inl rfl⟩
    rcases hown.2 with ⟨rfl, rfl⟩ | ⟨g, cap, cur, rfl, _, hg, hnc, _, _, _⟩
    · simp [Builtin.append_, run_underlying E.und, sizeOf, typeInfo, hi, Builtin.lenOf, Builtin.firstCells]
    · simp [Builtin.append_, run_underlying E.und, sizeOf, typeInfo, hi, Builtin.lenOf, Builtin.firstCells, hnc, storeCells]
  | some x =>
    obtain ⟨v', w', hrun, r1, r2, r3⟩ := run_append_own (P := Tryd.prog) w base t ty e i z 1 by' E.und hi hz hs hb E.one (by decide) v n xs hown x m c news (by omega) (hnews x rfl) h1 h63 hby hbase
    refine ⟨v', w', hrun, r1, r2, ?_⟩
    rcases hown.2 with ⟨rfl, rfl⟩ | ⟨g, cap, cur, rfl, hbg, hg, hnc, hcm, hcs, htake⟩
    · obtain rfl : xs = [] := List.length_eq_zero_iff.1 (by simpa using hown.1)
      obtain ⟨v2, w2, hrun2, q1, _, _⟩ := run_append_own (P := Tryd.prog) w w.heap.size t ty e i z 1 by' E.und hi hz hs hb E.one (by decide) _ 0 [] (World.ownsRow_nil w _ e 1) x m c news (by omega) (hnews x rfl) h1 h63 hby (Nat.le_refl _)
      rw [hrun] at hrun2
      cases hrun2
      exact .inr (fun k hk => (q1.lt k hk).1)
    · by_cases hroom : n + m ≤ cap
      · have hr := run_append_room (P := Tryd.prog) w t ty e i E.und hi g n cap cur hg x m c news (by rw [hs]; omega) (hnews x rfl) h1 hroom (by rw [hs]; omega)
        rw [hrun] at hr
        cases hr
        exact .inl rfl
      · have holds : ∀ (j : Nat) u, xs[j]? = some u → w.cell? ((⟨g, 0, none⟩ : Addr).add j) = some u := hown.cells (g := g) rfl
        have hr := run_append_grow (P := Tryd.prog) w t ty e i z E.und hi hz ⟨g, 0, none⟩ n cap xs (by rw [hs]; exact hown.1) holds x m c news (by rw [hs]; omega) (hnews x rfl) (by omega) (by unfold maxLen at h63; omega) (growslice_fits (by omega) (by rw [hb]; exact hby))
        rw [hrun] at hr
        cases hr
        exact .inr (fun k hk => by simp [Value.ownBlock] at hk; omega)

/-- A row of the call's own, cell by cell. -/
theorem own_form {w : World} {base n : Nat} {e : TypeId} {v : Value} {xs : List Value} (h : w.ownsRow base e 1 v n xs) : ∃ a cap, v = .slice a n cap ∧ xs.length = n ∧
    (n = 0 ∨ ∃ g, a = some ⟨g, 0, none⟩ ∧ base ≤ g ∧ g < w.heap.size ∧ ∀ (j : Nat) u, xs[j]? = some u → w.cell? ⟨g, j, none⟩ = some u) := by
  have hl : xs.length = n := by simpa using h.1
  rcases h.2 with ⟨rfl, rfl⟩ | ⟨g, cap, cur, rfl, hb, hg, _⟩
  · exact ⟨none, 0, rfl, hl, .inl rfl⟩
  · refine ⟨_, cap, rfl, hl, .inr ⟨g, rfl, hb, (Array.getElem?_eq_some_iff.1 hg).1, fun j u hj => ?_⟩⟩
    have := h.cells (g := g) rfl j u hj
    rw [Go.WideShapes.add_plain] at this
    simpa using this



/-- A built-in append whose run is known. -/
theorem wpList_append_run {P : Program} {w w2 : World} {ops : Array Oper} {rest : List Oper} {o : Oper} {a : Act} {Q : Exit → Act → World → Prop} (hg : o.guard = none) (s x : Operand) (t u : TypeId)
    (hop : o.op = Op.call { callee := Callee.builtin Builtin.append, args := #[s, x], argTypes := #[t, u] }) {vs vx v : Value} (hs : a.eval s = vs) (hx : a.eval x = vx)
    (hrun : (Builtin.append_ #[t, u] o.type #[vs, vx]).run P w = .ok v w2) (hK : wpList P ops Q rest (a.put o.dst v) w2) : wpList P ops Q (o :: rest) a w := by
  refine wpList_plain hg fun K hK' => ?_
  unfold Oper.wp
  simp [execOp, hop, resolve, invoke, builtin, hs, hx, hrun, Result.andThen]
  exact hK' _ _ hK


/-- A built-in append of which it is known what it leaves. -/
theorem wpList_append_ex {P : Program} {w : World} {ops : Array Oper} {rest : List Oper} {o : Oper} {a : Act} {Q : Exit → Act → World → Prop} {R : Value → World → Prop} (hg : o.guard = none) (s x : Operand) (t u : TypeId)
    (hop : o.op = Op.call { callee := Callee.builtin Builtin.append, args := #[s, x], argTypes := #[t, u] }) {vs vx : Value} (hs : a.eval s = vs) (hx : a.eval x = vx)
    (hex : ∃ v w2, (Builtin.append_ #[t, u] o.type #[vs, vx]).run P w = .ok v w2 ∧ R v w2) (hK : ∀ v w2, R v w2 → wpList P ops Q rest (a.put o.dst v) w2) : wpList P ops Q (o :: rest) a w := by
  obtain ⟨v, w2, hrun, hr⟩ := hex
  exact wpList_append_run hg s x t u hop hs hx hrun (hK v w2 hr)


/-- A built-in append of which it is known what it leaves, in a region that draws its order. -/
theorem step_append_ex {P : Program} {ops : Array Oper} {o : Oper} {a : Act} {w : World} {K : Act → World → Prop} {Q : Exit → Act → World → Prop} {E : Prop} {R : Value → World → Prop} (hg : o.guard = none) (s x : Operand) (t u : TypeId)
    (hop : o.op = Op.call { callee := Callee.builtin Builtin.append, args := #[s, x], argTypes := #[t, u] }) {vs vx : Value} (hs : a.eval s = vs) (hx : a.eval x = vx)
    (hex : ∃ v w2, (Builtin.append_ #[t, u] o.type #[vs, vx]).run P w = .ok v w2 ∧ R v w2) (hK : ∀ v w2, R v w2 → K (a.put o.dst v) w2) :
    if Region.wanted o (yielded ops a.tmps) = true then Oper.wp P o a w K Q else E := by
  have hw : Region.wanted o (yielded ops a.tmps) = true := by simp [Region.wanted, hg]
  rw [if_pos hw]
  obtain ⟨v, w2, hrun, hr⟩ := hex
  unfold Oper.wp
  simp [execOp, hop, resolve, invoke, builtin, hs, hx, hrun, Result.andThen]
  exact hK _ _ hr

/-- An append of values written out. -/
theorem own_lit {t e : TypeId} {z : Value} {by' : Nat} (E : Elem t e z by') {w : World} {base n : Nat} {v : Value} {xs : List Value} (hown : w.ownsRow base e 1 v n xs) (hbase : base ≤ w.heap.size) (hn : n ≤ 1000000) (hby : by' ≤ 1000) (news : List Value) (m : Nat) (hm : news.length = m) (h9 : m ≤ 1000) (h1 : ∀ u ∈ news, u.oneCell' = true) (ty : TypeId) (arr : Array Value) (harr : arr = news.toArray) :
    ∃ v' w', (Builtin.append_ #[t, t] ty #[v, .slice (some ⟨w.heap.size, 0, none⟩) m m]).run Tryd.prog (w.alloc (.cells arr e)) = .ok v' w' ∧ w'.ownsRow base e 1 v' (n + m) (xs ++ news) ∧ w.grownBy w' v.ownBlock ∧ (v'.ownBlock = v.ownBlock ∨ ∀ k, v'.ownBlock = some k → w.heap.size ≤ k) := by
  subst harr
  have hmul : (n + m) * by' ≤ 1001000 * 1000 := Nat.mul_le_mul (by omega) hby
  obtain ⟨v', w', h1, h2, h3, h4⟩ := own_append E (c := m) (m := m) (hown.alloc (.cells news.toArray e)) (some ⟨w.heap.size, 0, none⟩) news hm (fun h => by cases h) (fun y hy j u hj => by
      cases hy
      rw [Go.WideShapes.add_plain]
      simp only [World.cell?, heap_alloc_new]
      simpa using hj) h1 (by unfold maxLen; omega) (by omega) (by simp; omega) ty
  refine ⟨v', w', h1, h2, ?_, h4.imp id (fun h k hk => by have := h k hk; simp at this; omega)⟩
  have h5 := World.grownBy_alloc w (.cells news.toArray e) v.ownBlock
  exact ⟨h3.os.trans h5.os, h3.tape.trans h5.tape, h3.output.trans h5.output, Nat.le_trans h5.size h3.size, fun k hk hne => (h3.block k (Nat.lt_of_lt_of_le hk h5.size) hne).trans (h5.block k hk hne)⟩

end Go.Proofs.YtlpbffcijhgelaaDoor
