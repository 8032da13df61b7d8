/-
  Port sets: Runs of the document, Same; the statement PortsetRuns for every argument.
-/
import Derived.Test.YtmcofmdogopfjaaPb5
import Derived.Test.YtmcofmdogopfjaaPa6
namespace Go.Proofs.Ytmcofmdogopfjaa
open Go Go.RowKit Go.ChangeShapes Go.WideShapes Go.ChangeAt
set_option linter.unusedVariables false
set_option linter.unusedSimpArgs false

theorem wpList_append_run {P : Program} {w w2 : World} {ops : Array Oper} {rest : List Oper} {o : Oper} {a : Act} {Q : Exit → Act → World → Prop} (hg : o.guard = none) (s x : Operand) (t u : TypeId)
    (hop : o.op = Op.call { callee := Callee.builtin Builtin.append, args := #[s, x], argTypes := #[t, u] }) {vs vx v : Value} (hs : a.eval s = vs) (hx : a.eval x = vx)
    (hrun : (Builtin.append_ #[t, u] o.type #[vs, vx]).run P w = .ok v w2) (hK : wpList P ops Q rest (a.put o.dst v) w2) : wpList P ops Q (o :: rest) a w := by
  refine wpList_plain hg fun K hK' => ?_
  unfold Oper.wp
  simp [execOp, hop, resolve, invoke, builtin, hs, hx, hrun, Result.andThen]
  exact hK' _ _ hK

theorem runsTo_was (P : Nat → Bool) : ∀ j, wasN P j = true → 1 ≤ (runsTo P j).length
  | 0, h => by cases h
  | j + 1, h => by
    have hj : P j = true := h
    rw [runsTo, hj, if_pos rfl]
    split
    · rename_i hw
      have := runsTo_was P j hw
      simp [setLast]
      omega
    · simp
theorem runsTo_le (P : Nat → Bool) : ∀ j, (runsTo P j).length ≤ j
  | 0 => by simp [runsTo]
  | j + 1 => by
    have ih := runsTo_le P j
    rw [runsTo]
    split
    · split
      · simp [setLast]
        omega
      · simp
        omega
    · omega
theorem cellsP_setLast (L : List (Nat × Nat)) (j : Nat) (h : 1 ≤ L.length) : cellsP (setLast L j) = (cellsP L).set (2 * (L.length - 1) + 1) (.int .u16 (j : Nat)) := by
  have aux : ∀ (L : List (Nat × Nat)) (i : Nat), i < L.length → cellsP (L.set i ((L[i]?.getD (0, 0)).1, j)) = (cellsP L).set (2 * i + 1) (.int .u16 (j : Nat)) := by
    intro L
    induction L with
    | nil => intro i hi; simp at hi
    | cons x r ih =>
      intro i hi
      cases i with
      | zero => simp [cellsP]
      | succ i =>
        have := ih i (by simpa using hi)
        simp only [List.set_cons_succ, cellsP, List.getElem?_cons_succ]
        rw [this, show 2 * (i + 1) = (2 * i + 1) + 1 by omega]
        simp
  exact aux L (L.length - 1) (by omega)
theorem setLast_length (L : List (Nat × Nat)) (j : Nat) : (setLast L j).length = L.length := by simp [setLast]

theorem row_form {base : Nat} {W : World} {v : Value} {L : List (Nat × Nat)} (h : RowP base W v L) : ∃ ad cap, v = .slice ad L.length cap := by
  rcases h.2 with ⟨rfl, h0⟩ | ⟨g, cap, cur, rfl, _⟩
  · rw [h0]; exact ⟨_, _, rfl⟩
  · exact ⟨_, _, rfl⟩

theorem row_on {base : Nat} {W W' : World} {v : Value} {L : List (Nat × Nat)} (h : RowP base W v L) (hb : Below W.heap.size W W') : RowP base W' v L := by
  refine ⟨h.1, ?_⟩
  rcases h.2 with hn | ⟨g, cap, cur, hv, hbg, hg, rest⟩
  · exact .inl hn
  · exact .inr ⟨g, cap, cur, hv, hbg, blk_on hg hb, rest⟩
theorem row_push {base : Nat} {W : World} {v : Value} {L : List (Nat × Nat)} (h : RowP base W v L) (hb : base ≤ W.heap.size) (hl : L.length ≤ 65536) (x y : Nat) (ty : TypeId) :
    ∃ v' W', (Builtin.append_ #[51, 51] ty #[v, .slice (some ⟨W.heap.size, 0, none⟩) 1 1]).run Try.prog (W.alloc (.cells #[.int .u16 (x : Nat), .int .u16 (y : Nat)] 71)) = .ok v' W' ∧ RowP base W' v' (L ++ [(x, y)]) ∧ Below base W W' := by
  obtain ⟨i, hi, hz0, hz1, hz2⟩ := infoP
  obtain ⟨v', W', hrun, r1, r2, _⟩ := run_append_own (P := Try.prog) (W.alloc (.cells #[.int .u16 (x : Nat), .int .u16 (y : Nat)] 71)) base 51 ty 71 i (.agg #[.int .u16 0, .int .u16 0]) 2 4 Try.underlying51 hi hz0 hz1 hz2 rfl (by decide) v L.length (cellsP L) (h.alloc _) ⟨W.heap.size, 0, none⟩ 1 1 [.int .u16 (x : Nat), .int .u16 (y : Nat)] rfl (cell_two _ _ _ _) (by simp [Value.oneCell']) (by unfold maxLen; omega) (by omega) (by simp; omega)
  refine ⟨v', W', hrun, ?_, ?_⟩
  · show World.ownsRow _ _ _ _ _ _ _
    rw [cellsP_push, List.length_append]
    exact r1
  · refine ((Below.refl base W).alloc hb _).grown r2 (by simp; omega) fun k hk => (h.lt k hk).1

set_option maxHeartbeats 1000000 in
theorem Runs_no (o l p : Int) (w : World) (ho : In64 o) (hl : In64 l) (hp : 0 ≤ p ∧ p < 65536) (hs : ¬ setOk o l p) :
    Calls Try.prog 24 #[PS o l p] w fun e w' => e = .returned (.tuple #[.slice none 0 0, .int .i64 90]) ∧ Below w.heap.size w w' := by
  have HC : Hid _ := fun W => Check_any o l p W ho hl hp
  rw [if_neg hs] at HC
  have hB := bA w (PSO o l p)
  go_enter Try.func24, Try.ntmps24
  go_wp2_with fail
  refine (HC.out _).mono ?_
  rintro e w2 ⟨rfl, hB2⟩
  go_wp2
  go_returns
  exact ⟨rfl, hB.trans (hB2.mono hB.size)⟩
set_option maxHeartbeats 1000000 in
theorem RRuns_no (o l p : Int) (w : World) (ho : In64 o) (hl : In64 l) (hp : 0 ≤ p ∧ p < 65536) (hs : ¬ setOk o l p) :
    Calls Try.prog 25 #[PS o l p] w fun e w' => e = .returned (.tuple #[.slice none 0 0, .int .i64 90]) ∧ Below w.heap.size w w' := by
  have HC : Hid _ := fun W => Right_any o l p W ho hl hp
  rw [decide_eq_false hs] at HC
  have hB := bA w (PSO o l p)
  go_enter Try.func25, Try.ntmps25
  go_wp2_with fail
  refine (HC.out _).mono ?_
  rintro e w2 ⟨rfl, hB2⟩
  go_wp2
  go_returns
  exact ⟨rfl, hB.trans (hB2.mono hB.size)⟩

set_option maxHeartbeats 2000000 in
theorem RRuns_yes (o l p : Nat) (w : World) (ho : o ≤ 15) (hl : l ≤ 16 - o) (hp : p < 2 ^ l) :
    Calls Try.prog 25 #[PS o l p] w fun e w' => ∃ v, e = .returned (.tuple #[v, .int .i64 0]) ∧ RowP w.heap.size w' v (runsTo (fun n => decide (hasN o l p n)) 65536) ∧ Below w.heap.size w w' := by
  obtain ⟨hs, g1, g2, g3⟩ := setIn ho hl hp
  have HC : Hid _ := fun W => Right_any o l p W g1 g2 g3
  rw [decide_eq_true hs] at HC
  have HH : Hid (∀ m : Nat, m < 65536 → ∀ W, Calls Try.prog 12 #[PS o l p, .int .u16 m] W fun e w' => e = .returned (HasE ((fun n => decide (hasN o l p n)) m) 0) ∧ Below W.heap.size W w') := fun m hm W => RHas_yes o l p m W ho hl hp hm
  have hB := bA w (PSO o l p)
  clear hs g1 g2 g3
  generalize (fun n => decide (hasN o l p n)) = P at *
  go_enter Try.func25, Try.ntmps25
  go_wp2_with fail
  refine (HC.out _).mono ?_
  rintro e w2 ⟨rfl, hB2⟩
  clear HC
  have hs1 : (w.alloc (PSO o l p)).heap.size = w.heap.size + 1 := by simp
  have HS1 : Hid _ := hs1
  clear hs1
  go_wp2
  go_loopw [4, 5, 6] (fun v b i wr => ∃ j : Nat, j ≤ 65536 ∧ i = .int .i64 j ∧ b = .bool (wasN P j) ∧ RowP (w.heap.size + 1) wr v (runsTo P j) ∧ Below (w.alloc (PSO o l p)).heap.size (w.alloc (PSO o l p)) wr) (fun _ _ i _ => 65536 - (intOf i).toNat)
  case atStart => exact ⟨0, by omega, rfl, rfl, ⟨rfl, .inl ⟨rfl, rfl⟩⟩, hB2⟩
  case round =>
    obtain ⟨j, hj, rfl, rfl, hrow, hb⟩ := hrel
    obtain ⟨ad, cap, rfl⟩ := row_form hrow
    have hk := ps_at hb
    obtain ⟨c0, c1, c2⟩ := ps_c hk
    have hBw := hB.trans (hb.mono hB.size)
    have hz := hb.size
    rw [HS1.out] at hz
    by_cases hlt : j < 65536
    · have hh := HH.out j hlt
      have hlt2 : (j : Int) ≤ 65535 := by omega
      have hle := runsTo_le P j
      cases hpj : P j with
      | false =>
        rw [hpj] at hh
        have e1 : runsTo P (j + 1) = runsTo P j := by rw [runsTo, hpj]; rfl
        have HE : Hid _ := e1
        have HW : Hid (wasN P (j + 1) = false) := hpj
        have HJ : Hid _ := hh
        have HR : Hid (RowP (w.heap.size + 1) wr (.slice ad (runsTo P j).length cap) (runsTo P j)) := hrow
        clear hh e1 hpj HH hrow
        generalize runsTo P j = L at *
        generalize wasN P j = b at *
        go_wp2_with fail
        refine (HJ.out _).mono ?_
        rintro e w3 ⟨rfl, hB3⟩
        have hrow3 : RowP (w.heap.size + 1) w3 (.slice ad L.length cap) L := row_on HR.out hB3
        go_wp2
        refine ⟨⟨j + 1, by omega, by simp, by rw [HW.out], by rw [HE.out]; exact hrow3, hb.trans (hB3.mono hb.size)⟩, by simp [intOf]; omega⟩
      | true =>
        rw [hpj] at hh
        have HW : Hid (wasN P (j + 1) = true) := hpj
        have HJ : Hid _ := hh
        cases hwj : wasN P j with
        | false =>
          have e1 : runsTo P (j + 1) = runsTo P j ++ [(j, j)] := by rw [runsTo, hpj, if_pos rfl, hwj]; rfl
          have HE : Hid _ := e1
          have HR : Hid (RowP (w.heap.size + 1) wr (.slice ad (runsTo P j).length cap) (runsTo P j)) := hrow
          clear hh e1 hpj HH hrow hwj
          generalize runsTo P j = L at *
          go_wp2_with fail
          refine (HJ.out _).mono ?_
          rintro e w3 ⟨rfl, hB3⟩
          obtain ⟨v', W', hrun, hrow', hbl⟩ := row_push (row_on HR.out hB3) (by have := hB3.size; omega) (by omega) j j 51
          obtain ⟨ad', cap', rfl⟩ := row_form hrow'
          have HRUN : Hid _ := hrun
          have HR2 : Hid (RowP (w.heap.size + 1) W' (.slice ad' (L ++ [(j, j)]).length cap') (L ++ [(j, j)])) := hrow'
          have hbW := (hb.trans (hB3.mono hb.size)).trans (hbl.mono (by rw [HS1.out]; exact Nat.le_refl _))
          clear hrun hrow' hbl HR HJ
          generalize (L ++ [(j, j)]).length = n' at *
          go_wp2_with (at_builtin; refine wpList_append_run rfl _ _ _ _ rfl rfl rfl HRUN.out ?_)
          exact ⟨⟨j + 1, by omega, by simp, by rw [HW.out], by rw [HE.out]; exact HR2.out, hbW⟩, by simp [intOf]; omega⟩
        | true =>
          have e1 : runsTo P (j + 1) = setLast (runsTo P j) j := by rw [runsTo, hpj, if_pos rfl, hwj]; rfl
          have h1 := runsTo_was P j hwj
          have HE : Hid _ := e1
          have HR : Hid (RowP (w.heap.size + 1) wr (.slice ad (runsTo P j).length cap) (runsTo P j)) := hrow
          clear hh e1 hpj HH hrow hwj
          generalize runsTo P j = L at *
          go_wp2_with fail
          refine (HJ.out _).mono ?_
          rintro e w3 ⟨rfl, hB3⟩
          obtain ⟨m, hm⟩ : ∃ m, L.length = m + 1 := ⟨L.length - 1, by omega⟩
          have hrow3 := row_on HR.out hB3
          obtain ⟨g, hg⟩ : ∃ g, ad = some ⟨g, 0, none⟩ := by
            rcases hrow3.2 with ⟨e, h0⟩ | ⟨g, cap, cur, e, _⟩
            · omega
            · cases e; exact ⟨g, rfl⟩
          subst hg
          have hst := hrow3.stored (2 * (L.length - 1) + 1) (.int .u16 (j : Nat))
          have hfz := fun q => hrow3.frozenAt q
          have hcl := hrow3.cellAt (2 * m + 1) (by omega)
          have hca := (cellsP_at L m (by omega)).2
          rw [hca, Nat.mul_comm 2 m] at hcl
          have hlt3 := hrow3.lt g rfl
          rw [← cellsP_setLast L j h1, show 2 * (L.length - 1) + 1 = m * 2 + 1 by omega] at hst
          have hst2 : RowP (w.heap.size + 1) (w3.setCell ⟨g, m * 2 + 1, none⟩ (.int .u16 (j : Nat))) (.slice (some ⟨g, 0, none⟩) (m + 1) cap) (setLast L j) := by
            show World.ownsRow _ _ _ _ _ _ _
            rw [setLast_length, ← hm]
            exact hst.1
          have HST : Hid (RowP (w.heap.size + 1) (w3.setCell ⟨g, m * 2 + 1, none⟩ (.int .u16 (j : Nat))) (.slice (some ⟨g, 0, none⟩) (m + 1) cap) (setLast L j)) := hst2
          have hbW : Below (w.alloc (PSO o l p)).heap.size (w.alloc (PSO o l p)) (w3.setCell ⟨g, m * 2 + 1, none⟩ (.int .u16 (j : Nat))) := (hb.trans (hB3.mono hb.size)).setCell (p := ⟨g, m * 2 + 1, none⟩) (by rw [HS1.out]; exact hlt3.1) _
          clear hst hst2 hca hrow3
          rw [hm]
          go_wp2
          exact ⟨⟨j + 1, by omega, by simp, by rw [HW.out], by rw [HE.out]; exact HST.out, hbW⟩, by simp [intOf]; omega⟩
    · obtain rfl : j = 65536 := by omega
      go_wp2
      go_returns
      exact ⟨_, rfl, hrow.mono (by omega), hBw⟩

set_option maxHeartbeats 1000000 in
theorem Same_row (b1 b2 : Nat) (v1 v2 : Value) (L : List (Nat × Nat)) (w : World) (h1 : RowP b1 w v1 L) (h2 : RowP b2 w v2 L) (hl : L.length ≤ 65536) :
    Calls Try.prog 26 #[v1, v2] w fun e w' => e = .returned (.bool true) ∧ Below w.heap.size w w' := by
  obtain ⟨a1, k1, rfl⟩ := row_form h1
  obtain ⟨a2, k2, rfl⟩ := row_form h2
  have HR : Hid (∀ i, i < L.length → ∃ g1 g2, a1 = some ⟨g1, 0, none⟩ ∧ a2 = some ⟨g2, 0, none⟩ ∧ ∃ x y : Nat, ∀ W, Below w.heap.size w W → W.cell? ⟨g1, i * 2, none⟩ = some (.int .u16 x) ∧ W.cell? ⟨g1, i * 2 + 1, none⟩ = some (.int .u16 y) ∧ W.cell? ⟨g2, i * 2, none⟩ = some (.int .u16 x) ∧ W.cell? ⟨g2, i * 2 + 1, none⟩ = some (.int .u16 y)) := by
    intro i hi
    rcases h1.2 with ⟨_, h0⟩ | ⟨g1, c1, cur1, e1, _⟩
    · omega
    rcases h2.2 with ⟨_, h0⟩ | ⟨g2, c2, cur2, e2, _⟩
    · omega
    cases e1
    cases e2
    have q1 := (h1.lt g1 rfl).2
    have q2 := (h2.lt g2 rfl).2
    obtain ⟨p1, p2⟩ := cellsP_at L i hi
    refine ⟨g1, g2, rfl, rfl, (L[i]?.getD (0, 0)).1, (L[i]?.getD (0, 0)).2, fun W hW => ⟨?_, ?_, ?_, ?_⟩⟩
    · have := h1.cellAt (2 * i) (by omega)
      rw [p1, Nat.mul_comm] at this
      exact (hW.cell (p := ⟨g1, i * 2, none⟩) (by assumption)).trans this
    · have := h1.cellAt (2 * i + 1) (by omega)
      rw [p2, Nat.mul_comm] at this
      exact (hW.cell (p := ⟨g1, i * 2 + 1, none⟩) (by assumption)).trans this
    · have := h2.cellAt (2 * i) (by omega)
      rw [p1, Nat.mul_comm] at this
      exact (hW.cell (p := ⟨g2, i * 2, none⟩) (by assumption)).trans this
    · have := h2.cellAt (2 * i + 1) (by omega)
      rw [p2, Nat.mul_comm] at this
      exact (hW.cell (p := ⟨g2, i * 2 + 1, none⟩) (by assumption)).trans this
  clear h1 h2
  generalize L.length = N at *
  go_enter Try.func26, Try.ntmps26
  go_wp2
  go_loopw [5] (fun i wr => ∃ j : Nat, j ≤ N ∧ i = .int .i64 j ∧ Below w.heap.size w wr) (fun i _ => N - (intOf i).toNat)
  case atStart => exact ⟨0, by omega, rfl, Below.refl _ _⟩
  case round =>
    obtain ⟨j, hj, rfl, hb⟩ := hrel
    by_cases hlt : j < N
    · obtain ⟨g1, g2, rfl, rfl, x, y, hx⟩ := HR.out j hlt
      have x1 : ∀ X : Hi wr, X.W.cell? ⟨g1, j * 2, none⟩ = some (.int .u16 x) := fun X => (hx X.W (hb.trans (X.below.mono hb.size))).1
      have x2 : ∀ X : Hi wr, X.W.cell? ⟨g1, j * 2 + 1, none⟩ = some (.int .u16 y) := fun X => (hx X.W (hb.trans (X.below.mono hb.size))).2.1
      have x3 : ∀ X : Hi wr, X.W.cell? ⟨g2, j * 2, none⟩ = some (.int .u16 x) := fun X => (hx X.W (hb.trans (X.below.mono hb.size))).2.2.1
      have x4 : ∀ X : Hi wr, X.W.cell? ⟨g2, j * 2 + 1, none⟩ = some (.int .u16 y) := fun X => (hx X.W (hb.trans (X.below.mono hb.size))).2.2.2
      clear HR hx
      have hlt2 : (j : Int) < (N : Int) := by omega
      go_wp2_with fail
      refine wp_region_hi (by kernel_rfl) (by kernel_rfl) ?_
      repeat (go_big_quiet_step (fail))
      refine wpQuiet_nil ?_
      intro _ hw
      obtain ⟨Y, rfl⟩ := hw
      go_wp2
      exact ⟨⟨j + 1, by omega, by simp, hb.trans (Y.below.mono hb.size)⟩, by simp [intOf]; omega⟩
    · obtain rfl : j = N := by omega
      go_wp2
      go_ret
      exact ⟨rfl, hb⟩

theorem runs_both (o l p : Int) (ho : In64 o) (hl : In64 l) (hp : 0 ≤ p ∧ p < 65536) : ∃ (L : List (Nat × Nat)) (g : Int), L.length ≤ 65536 ∧
    (∀ W, Calls Try.prog 24 #[PS o l p] W fun e w' => ∃ v, e = .returned (.tuple #[v, .int .i64 g]) ∧ RowP W.heap.size w' v L ∧ Below W.heap.size W w') ∧
    (∀ W, Calls Try.prog 25 #[PS o l p] W fun e w' => ∃ v, e = .returned (.tuple #[v, .int .i64 g]) ∧ RowP W.heap.size w' v L ∧ Below W.heap.size W w') := by
  by_cases h : setOk o l p
  · obtain ⟨o', l', p', rfl, rfl, rfl, h1, h2, h3⟩ := nat_of h hp.1
    have e := (runs_all o' l' p' h1 h2 h3).1
    refine ⟨_, 0, runsTo_le _ 65536, fun W => ?_, fun W => RRuns_yes o' l' p' W h1 h2 h3⟩
    rw [e]
    exact Runs_yes o' l' p' W h1 h2 h3
  · exact ⟨[], 90, by simp, fun W => (Runs_no o l p W ho hl hp h).mono fun e w' ⟨he, hb⟩ => ⟨_, he, ⟨rfl, .inl ⟨rfl, rfl⟩⟩, hb⟩, fun W => (RRuns_no o l p W ho hl hp h).mono fun e w' ⟨he, hb⟩ => ⟨_, he, ⟨rfl, .inl ⟨rfl, rfl⟩⟩, hb⟩⟩

set_option maxHeartbeats 2000000 in
theorem portsetRuns_walk (o l p : Int) (w : World) (ho : In64 o) (hl : In64 l) (hp : 0 ≤ p ∧ p < 65536) :
    Calls Try.prog 5 #[PS o l p] w fun e w' => e = .returned (.bool true) ∧ Below w.heap.size w w' := by
  obtain ⟨L, g, hLl, h1, h2⟩ := runs_both o l p ho hl hp
  have H1 : Hid _ := h1
  have H2 : Hid _ := h2
  have hB := bA w (PSO o l p)
  clear h1 h2
  go_enter Try.func5, Try.ntmps5
  go_wp2_with fail
  refine (H1.out _).mono ?_
  rintro e w2 ⟨v1, rfl, hr1, hB2⟩
  obtain ⟨c0, c1, c2⟩ := ps_c (ps_at hB2)
  obtain ⟨a1, k1, rfl⟩ := row_form hr1
  have HR1 : Hid (RowP (w.alloc (PSO o l p)).heap.size w2 (.slice a1 L.length k1) L) := hr1
  clear H1 hr1
  go_wp2_with fail
  refine (H2.out _).mono ?_
  rintro e w3 ⟨v2, rfl, hr2, hB3⟩
  obtain ⟨a2, k2, rfl⟩ := row_form hr2
  have HS : Hid _ := Same_row _ _ _ _ L w3 (row_on HR1.out hB3) hr2 hLl
  have hBw := (hB.trans (hB2.mono hB.size)).trans (hB3.mono (Nat.le_trans hB.size hB2.size))
  clear H2 hr2 HR1 c0 c1 c2 hB2 hB3 hB
  generalize L.length = N at *
  go_wp2_with fail
  refine Calls.mono HS.out ?_
  rintro e w4 ⟨rfl, hB4⟩
  have hBw4 := hBw.trans (hB4.mono hBw.size)
  go_wp2_with fail
  refine (alive_calls _).mono ?_
  rintro e w5 ⟨rfl, hB5⟩
  go_wp2
  go_ret
  exact ⟨rfl, hBw4.trans (hB5.mono hBw4.size)⟩

theorem portsetRuns_open {H : Type} {enc : TypeId × Value → H} {W : World} {base : Nat} (v0 : Value) {d0 : DataW H} {p0 : List MemPlace}
    (o0 : Value.okWide Try.prog W .any base 24 v0) (h0 : DataW.Trod enc Try.prog W 0 (fun _ => true) true 24 v0 d0 p0) :
    Calls Try.prog 5 #[v0] W fun e w' => e = .returned (.bool true) ∧ Below W.heap.size W w' := by
  obtain ⟨o, l, p, rfl, ho, hl, hp⟩ := open_set h0
  exact portsetRuns_walk o l p W ho hl hp

end Go.Proofs.Ytmcofmdogopfjaa
