/-
  Rows of entries of one's own; who takes into them.
  over, under into a row of one's own.
-/
import Derived.Test.YtenahbdopgmpfaaFold27
import Derived.Test.YtenahbdopgmpfaaFold21
import Derived.Maps.AppendAt
import Derived.Great.BuildSlice
namespace Go.Proofs.Ytenahbdopgmpfaa
open Go Go.RowKit Go.Shelf
set_option linter.unusedVariables false
set_option linter.unusedSimpArgs false

theorem own_sameT {w w' : World} {base size n : Nat} {e : TypeId} {v : Value} {xs : List Value} (h : w.ownsRow base e size v n xs) (hb : ∀ b, v.ownBlock = some b → w'.heap[b]? = w.heap[b]?) : w'.ownsRow base e size v n xs := by
  refine ⟨h.1, ?_⟩
  rcases h.2 with h2 | ⟨g, cap, cur, rfl, h1, h2, h3⟩
  · exact .inl h2
  · exact .inr ⟨g, cap, cur, rfl, h1, (hb g rfl).trans h2, h3⟩
theorem own_ltT {w : World} {base size n : Nat} {e : TypeId} {v : Value} {xs : List Value} (h : w.ownsRow base e size v n xs) {b : Nat} (hb : v.ownBlock = some b) : base ≤ b ∧ b < w.heap.size := by
  rcases h.2 with ⟨rfl, _⟩ | ⟨g, cap, cur, rfl, h1, h2, h3⟩
  · simp [Value.ownBlock] at hb
  · simp [Value.ownBlock] at hb
    subst hb
    exact ⟨h1, (Array.getElem?_eq_some_iff.1 h2).1⟩
theorem own_slcT {w : World} {base size n : Nat} {e : TypeId} {v : Value} {xs : List Value} (h : w.ownsRow base e size v n xs) : ∃ a c, v = .slice a n c := by
  rcases h.2 with ⟨rfl, h0⟩ | ⟨g, cap, cur, rfl, _⟩
  · rw [h0]; exact ⟨_, _, rfl⟩
  · exact ⟨_, _, rfl⟩
theorem wp_appendT {o : Oper} {a : Act} {d : Option Nat} {w w2 : World} {K : Act → World → Prop} {Q : Exit → Act → World → Prop} (s x : Operand) (t : TypeId) (hop : o.op = Op.call { callee := Callee.builtin Builtin.append, args := #[s, x], argTypes := #[t, t] }) (hd : o.dst = d) {vs vx v : Value} (hs : a.eval s = vs) (hx : a.eval x = vx) (hrun : (Builtin.append_ #[t, t] o.type #[vs, vx]).run Try.prog w = .ok v w2) (hK : K (a.put d v) w2) : o.wp Try.prog a w K Q := by
  subst hd
  unfold Oper.wp
  simp [execOp, hop, resolve, invoke, builtin, hs, hx, hrun, Result.andThen]
  exact hK
theorem wp_buildT {P : Program} {o : Oper} {a : Act} {d : Option Nat} {w w2 : World} {K : Act → World → Prop} {Q : Exit → Act → World → Prop} (x : Operand) (t : TypeId) (hop : o.op = Op.buildSlice t 1 #[(0, x)]) (hd : o.dst = d) {vx v : Value} (hx : a.eval x = vx) (hrun : (Instr.buildSlice t 1 #[(0, vx)]).run P w = .ok v w2) (hK : K (a.put d v) w2) : o.wp P a w K Q := by
  subst hd
  unfold Oper.wp
  simp [execOp, hop, hx, hrun, Result.andThen]
  exact hK
def ec4 (e : Ent) : List Value := enC ((bytN 16 e.1).take 4) e.1.length e.2
theorem ec4_len (e : Ent) : (ec4 e).length = 6 := by unfold ec4; rw [enC_len]; simp [bytN_length]
theorem ec4_one (e : Ent) : ∀ u ∈ ec4 e, u.oneCell' = true := enC_one _ _ _
theorem infoE4 : ∃ i, Try.prog.info? 47 = some i ∧ i.zero = some (.agg ([.int .u8 0, .int .u8 0, .int .u8 0, .int .u8 0, .int .i64 0, .int .i64 0] : List Value).toArray) ∧ i.size = 6 ∧ i.bytes = 24 := by
  have : (Try.prog.info? 47).map (fun i => (i.zero, i.size, i.bytes)) = some (some (.agg ([.int .u8 0, .int .u8 0, .int .u8 0, .int .u8 0, .int .i64 0, .int .i64 0] : List Value).toArray), 6, 24) := by kernel_rfl
  obtain ⟨i, h1, h2⟩ := Option.map_eq_some_iff.1 this
  injection h2 with h2 h3
  injection h3 with h3 h4
  exact ⟨i, h1, h2, h3, h4⟩
theorem pushE4 {base : Nat} {W : World} {v : Value} {L : List Ent} (h : W.ownsRow base 47 6 v L.length (L.flatMap ec4)) (hb : base ≤ W.heap.size) (hl : L.length ≤ 100000) (e : Ent) (ty : TypeId) :
    ∃ v' W', (Builtin.append_ #[54, 54] ty #[v, .slice (some ⟨W.heap.size, 0, none⟩) 1 1]).run Try.prog (W.alloc (.cells (ec4 e).toArray 47)) = .ok v' W' ∧ W'.ownsRow base 47 6 v' (L ++ [e]).length ((L ++ [e]).flatMap ec4) ∧ Below base W W' ∧ ∀ j, j < W.heap.size → v.ownBlock ≠ some j → W'.heap[j]? = W.heap[j]? := by
  obtain ⟨i, hi, hz, hsz, hby⟩ := infoE4
  have hB1 := (Below.refl W.heap.size W).alloc (Nat.le_refl _) (.cells (ec4 e).toArray 47)
  have ho1 := own_sameT (w' := W.alloc (.cells (ec4 e).toArray 47)) h (fun b hb' => hB1.block b (own_ltT h hb').2)
  obtain ⟨v', w', hrun, hown, hgr, _, hat⟩ := run_append_own_at (P := Try.prog) (W.alloc (.cells (ec4 e).toArray 47)) base 54 ty 47 i (.agg ([.int .u8 0, .int .u8 0, .int .u8 0, .int .u8 0, .int .i64 0, .int .i64 0] : List Value).toArray) 6 24 Try.underlying54 hi hz hsz hby rfl (by decide) v L.length (L.flatMap ec4) ho1 ⟨W.heap.size, 0, none⟩ 1 1 (ec4 e) (by rw [ec4_len])
    (fun j x hj => by
      rw [Go.WideShapes.add_plain]
      have := CellsAt.of_blk (blk_new W (.cells (ec4 e).toArray 47)) j x (by simpa using hj)
      simpa using this) (ec4_one e) (by unfold maxLen; omega) (by omega) (by simp; omega)
  have hfr : ∀ j, j < W.heap.size → v.ownBlock ≠ some j → w'.heap[j]? = W.heap[j]? := fun j hj hn => (hgr.block j (by simp; omega) (fun e => hn e.symm)).trans (hB1.block j hj)
  refine ⟨v', w', hrun, ?_, ⟨hgr.os, hgr.tape, hgr.output, Nat.le_trans hB1.size hgr.size, fun j hj => hfr j (by omega) (fun e => ?_)⟩, hfr⟩
  · rw [List.flatMap_append, List.length_append]
    simpa using hown
  · have := (own_ltT h e).1
    omega
theorem bsE4 (W : World) (e : Ent) : (Instr.buildSlice 54 1 #[(0, .agg (ec4 e).toArray)]).run Try.prog W = .ok (.slice (some ⟨W.heap.size, 0, none⟩) 1 1) (W.alloc (.cells (ec4 e).toArray 47)) := by
  obtain ⟨i, hi, hz, hsz, hby⟩ := infoE4
  refine run_buildSlice W 54 47 1 #[(0, .agg (ec4 e).toArray)] (ec4 e).toArray i (.agg ([.int .u8 0, .int .u8 0, .int .u8 0, .int .u8 0, .int .i64 0, .int .i64 0] : List Value).toArray) Try.underlying54 hi hz (by rw [hsz]; omega) (by rw [hsz]; omega) ?_
  have := Go.Great.fill_whole (s := 6) (by omega) [.agg (ec4 e).toArray] ((Array.range (1 * i.size)).map ((Value.agg ([.int .u8 0, .int .u8 0, .int .u8 0, .int .u8 0, .int .i64 0, .int .i64 0] : List Value).toArray).cells[· % (Value.agg ([.int .u8 0, .int .u8 0, .int .u8 0, .int .u8 0, .int .i64 0, .int .i64 0] : List Value).toArray).cells.size]!)) (fun v hv => by simp at hv; rw [hv]; simp [Value.cells, ec4_len]) (by simp [hsz])
  rw [hsz] at this ⊢
  simpa [Value.cells] using this
theorem st_slc4 {W : World} {b : Nat} {u : Value} {t : TypeId} (h : W.heap[b]? = some (.cells [u].toArray t)) {v : Value} (hv : ∃ x n m, v = .slice x n m) : (Instr.storeAt 54 (.pointer (some ⟨b, 0, none⟩)) v).run Try.prog W = .ok () (W.setCell ⟨b, 0, none⟩ v) := by
  obtain ⟨x, n, m, rfl⟩ := hv
  have h1 : W.cell? ⟨b, 0, none⟩ = some u := blk_cell h rfl
  have h2 := blk_open h 0
  simp [Instr.storeAt, go_sem, h1, h2]
theorem ld_slc4 {W : World} {b : Nat} {u : Value} {t : TypeId} (h : W.heap[b]? = some (.cells [u].toArray t)) (hv : ∃ x n m, u = .slice x n m) : (Instr.loadAt 54 (.pointer (some ⟨b, 0, none⟩))).run Try.prog W = .ok u W := by
  obtain ⟨x, n, m, rfl⟩ := hv
  have h1 : W.cell? ⟨b, 0, none⟩ = some (.slice x n m) := blk_cell h rfl
  simp [Instr.loadAt, go_sem, h1]
set_option maxHeartbeats 4000000 in
set_option maxRecDepth 100000 in
theorem take4_calls (bo base : Nat) (hbb : bo < base) (l : List Ent) (k : Bs) (v : Int) (W : World) (vs : Value) (hbo : W.heap[bo]? = some (.cells [vs].toArray 54)) (hrow : W.ownsRow base 47 6 vs l.length (l.flatMap ec4)) (hbs : base ≤ W.heap.size) (hl : l.length ≤ 100000) :
    Calls Try.prog 73 #[LF k v, .pointer (some ⟨bo, 0, none⟩)] W fun e w' => e = .returned (.tuple #[]) ∧ ∃ vs', w'.heap[bo]? = some (.cells [vs'].toArray 54) ∧ w'.ownsRow base 47 6 vs' (l ++ [(k, v)]).length ((l ++ [(k, v)]).flatMap ec4) ∧ (∀ j, j < base → j ≠ bo → w'.heap[j]? = W.heap[j]?) ∧ Below bo W w' := by
  generalize hQ : (fun (e : Ending) (w' : World) => e = .returned (.tuple #[]) ∧ ∃ vs', w'.heap[bo]? = some (.cells [vs'].toArray 54) ∧ w'.ownsRow base 47 6 vs' (l ++ [(k, v)]).length ((l ++ [(k, v)]).flatMap ec4) ∧ (∀ j, j < base → j ≠ bo → w'.heap[j]? = W.heap[j]?) ∧ Below bo W w') = Q
  have HQ : Hid (∀ e w', (e = .returned (.tuple #[]) ∧ ∃ vs', w'.heap[bo]? = some (.cells [vs'].toArray 54) ∧ w'.ownsRow base 47 6 vs' (l ++ [(k, v)]).length ((l ++ [(k, v)]).flatMap ec4) ∧ (∀ j, j < base → j ≠ bo → w'.heap[j]? = W.heap[j]?) ∧ Below bo W w') → Q e w') := fun e w' hh => by rw [← hQ]; exact hh
  clear hQ
  obtain ⟨W1, hW1⟩ : ∃ W1, W1 = W.alloc (.cells (lfC k v).toArray 85) := ⟨_, rfl⟩
  have hB1 : Below W.heap.size W W1 := by rw [hW1]; exact (Below.refl W.heap.size W).alloc (Nat.le_refl _) _
  have hsL : W1.heap[W.heap.size]? = some (.cells (lfC k v).toArray 85) := by rw [hW1]; exact blk_new W _
  have hO1 := blk_on hbo hB1
  have hR1 := own_sameT (w' := W1) hrow (fun b hb => hB1.block b (own_ltT hrow hb).2)
  have hsv : ∃ x n c, vs = .slice x n c := by obtain ⟨a, c, e⟩ := own_slcT hrow; exact ⟨_, _, _, e⟩
  have HEC : Hid (∀ X : World, Calls Try.prog 44 #[LF k v] X fun e w' => e = .returned (.agg (ec4 (k, v)).toArray) ∧ Below X.heap.size X w') := fun X => entry4_any (bytN 16 k) (bytN_length _ _) k.length v X
  have hlt : bo < W.heap.size := by omega
  have hne : ∀ j, j ≤ bo → vs.ownBlock ≠ some j := fun j hj e => by have := (own_ltT hrow e).1; omega
  have hnl : vs.ownBlock ≠ some W.heap.size := fun e => by have := (own_ltT hrow e).2; omega
  have hnr : ∀ j, j < base → vs.ownBlock ≠ some j := fun j hj e => by have := (own_ltT hrow e).1; omega
  have HSL : Hid (W1.heap[W.heap.size]? = some (.cells (lfC k v).toArray 85)) := hsL
  have HO1 : Hid (W1.heap[bo]? = some (.cells [vs].toArray 54)) := hO1
  have HR1 : Hid (W1.ownsRow base 47 6 vs l.length (l.flatMap ec4)) := hR1
  have HB1 : Hid (Below W.heap.size W W1) := hB1
  have HSV : Hid (∃ x n c, vs = .slice x n c) := hsv
  have HNN : Hid ((∀ j, j ≤ bo → vs.ownBlock ≠ some j) ∧ vs.ownBlock ≠ some W.heap.size ∧ (∀ j, j < base → vs.ownBlock ≠ some j) ∧ bo < W.heap.size ∧ bo < base ∧ base ≤ W.heap.size ∧ l.length ≤ 100000) := ⟨hne, hnl, hnr, hlt, hbb, hbs, hl⟩
  have hW := hW1.symm
  clear hsL hO1 hR1 hB1 hW1 hbo hrow hbs hl hbb hlt hne hnl hnr hsv
  go_enter Try.func73, Try.ntmps73
  go_wp2_with fail
  refine wp_region_held (S := fun X => (∃ u, X.heap[bo]? = some (.cells [u].toArray 54)) ∧ X.heap[W.heap.size]? = some (.cells (lfC k v).toArray 85)) (by kernel_rfl) ?_
  show wpAnyH _ _ _ _ _ 6 (Array.replicate 6 false) _ W1.drew
  have hO0 : W1.drew.heap[bo]? = some (.cells [vs].toArray 54) := HO1.out
  have hL0 : W1.drew.heap[W.heap.size]? = some (.cells (lfC k v).toArray 85) := HSL.out
  have hb0 : Below W1.heap.size W1 W1.drew := (Below.refl W1.heap.size W1).drew
  generalize W1.drew = X0 at *
  refine take_one (i := 1) (d := some 4) (v := LF k v) rfl rfl rfl (by kernel_rfl) (by kernel_rfl) (by kernel_rfl) (fun _ _ d _ _ h => by cases d <;> exact h) (fun X hS => ex_loadA (.tmp 2) 85 rfl rfl (lf_load hS.2)) ⟨⟨_, hO0⟩, hL0⟩ ?_
  simp only [Act.put, List.setIfInBounds_toArray, List.set_cons_zero, List.set_cons_succ]
  refine all_two (i1 := 0) (i2 := 2) (by kernel_rfl) rfl rfl rfl rfl ?_ ?_
  · skip
    refine wp_effX (d := some 3) (v := vs) rfl (ex_loadA (.tmp 1) 54 rfl rfl (ld_slc4 hO0 HSV.out)) ⟨⟨⟨_, hO0⟩, hL0⟩, ?_⟩
    simp only [Act.put, List.setIfInBounds_toArray, List.set_cons_zero, List.set_cons_succ]
    refine all_one (i := 2) (by kernel_rfl) rfl rfl ?_
    refine wp_call (d := some 5) 44 _ rfl (by kernel_rfl) (callR (HEC.out _)) ?_
    rintro _ X1 ⟨rfl, hc1⟩
    have hO1 := blk_kept hO0 hc1
    have hL1 := blk_kept hL0 hc1
    have hb1 := hb0.trans (hc1.mono hb0.size)
    refine ⟨⟨⟨_, hO1⟩, hL1⟩, ?_⟩
    simp only [Act.put, List.setIfInBounds_toArray, List.set_cons_zero, List.set_cons_succ]
    refine all_one (i := 3) (by kernel_rfl) rfl rfl ?_
    obtain ⟨X2, hX2⟩ : ∃ X2, X2 = X1.alloc (.cells (ec4 (k, v)).toArray 47) := ⟨_, rfl⟩
    have hc2 : Below X1.heap.size X1 X2 := by rw [hX2]; exact (Below.refl X1.heap.size X1).alloc (Nat.le_refl _) _
    have hO2 := blk_kept hO1 hc2
    have hL2 := blk_kept hL1 hc2
    refine wp_buildT (.tmp 5) 54 rfl rfl rfl (bsE4 X1 (k, v)) ?_
    rw [← hX2]
    refine ⟨⟨⟨_, hO2⟩, hL2⟩, ?_⟩
    simp only [Act.put, List.setIfInBounds_toArray, List.set_cons_zero, List.set_cons_succ]
    have hz1 : W.heap.size ≤ X1.heap.size := Nat.le_trans HB1.out.size hb1.size
    have hRX := own_sameT (w' := X1) HR1.out (fun b hb => hb1.block b (own_ltT HR1.out hb).2)
    obtain ⟨hne, hnl, hnr, hlt, hbb, hbs, hl⟩ := HNN.out
    obtain ⟨v5, X3, hap, hrow3, hbl3, hfr3⟩ := pushE4 hRX (Nat.le_trans hbs hz1) hl (k, v) 54
    rw [← hX2] at hap
    have hlf : W.heap.size < X1.heap.size := (Array.getElem?_eq_some_iff.1 hL1).1
    have hO3 := (hfr3 bo (by omega) (hne bo (Nat.le_refl _))).trans hO1
    have hL3 := (hfr3 W.heap.size hlf hnl).trans hL1
    refine all_one (i := 4) (by kernel_rfl) rfl rfl ?_
    refine wp_appendT (d := some 7) (.tmp 3) (.tmp 6) 54 rfl rfl rfl rfl hap ⟨⟨⟨_, hO3⟩, hL3⟩, ?_⟩
    simp only [Act.put, List.setIfInBounds_toArray, List.set_cons_zero, List.set_cons_succ]
    have hsv5 : ∃ x n c, v5 = .slice x n c := by obtain ⟨a, c, e⟩ := own_slcT hrow3; exact ⟨_, _, _, e⟩
    have hst := st_slc4 hO3 hsv5
    have hO4 := blk_set hO3 0 v5
    have on4 : Only bo X3 (X3.setCell ⟨bo, 0, none⟩ v5) := (Only.refl bo X3).set 0 _
    have hL4 := (on4.other W.heap.size (by omega)).trans hL3
    refine all_one (i := 5) (by kernel_rfl) rfl rfl ?_
    refine wp_storeA (.tmp 1) (.tmp 7) 54 rfl rfl rfl rfl hst ⟨⟨⟨_, hO4⟩, hL4⟩, ?_⟩
    refine wpAnyH_done (by kernel_rfl) ?_ _
    have hrow4 := own_sameT (w' := X3.setCell ⟨bo, 0, none⟩ v5) hrow3 (fun b hb => on4.other b (by have := (own_ltT hrow3 hb).1; omega))
    have hkeep : ∀ j, j < base → j ≠ bo → (X3.setCell ⟨bo, 0, none⟩ v5).heap[j]? = W.heap[j]? := fun j hj hn => (on4.other j hn).trans ((hfr3 j (by omega) (hnr j hj)).trans ((hb1.block j (Nat.lt_of_lt_of_le (Nat.lt_of_lt_of_le hj hbs) HB1.out.size)).trans (HB1.out.block j (Nat.lt_of_lt_of_le hj hbs))))
    have hbel : Below bo W (X3.setCell ⟨bo, 0, none⟩ v5) := (((HB1.out.mono (Nat.le_of_lt hlt)).trans (hb1.mono (Nat.le_trans (Nat.le_of_lt hlt) HB1.out.size))).trans (hbl3.mono (Nat.le_of_lt hbb))).trans (on4.below (Nat.le_refl _))
    have HF : Hid (Q (.returned (.tuple #[])) (X3.setCell ⟨bo, 0, none⟩ v5)) := HQ.out _ _ ⟨rfl, v5, hO4, hrow4, hkeep, hbel⟩
    clear hO4 hL4 hrow4 hkeep hbel hst on4 hL3 hO3 hrow3 hfr3 hbl3 hap hRX HQ HNN HSV HB1 HR1 HO1 HSL HEC
    generalize X3.setCell ⟨bo, 0, none⟩ v5 = V at *
    go_show
    go_wp2
    try go_returns
    exact HF.out
  · skip
    refine wp_call (d := some 5) 44 _ rfl (by kernel_rfl) (callR (HEC.out _)) ?_
    rintro _ X1 ⟨rfl, hc1⟩
    have hO1 := blk_kept hO0 hc1
    have hL1 := blk_kept hL0 hc1
    have hb1 := hb0.trans (hc1.mono hb0.size)
    refine ⟨⟨⟨_, hO1⟩, hL1⟩, ?_⟩
    simp only [Act.put, List.setIfInBounds_toArray, List.set_cons_zero, List.set_cons_succ]
    refine all_two (i1 := 0) (i2 := 3) (by kernel_rfl) rfl rfl rfl rfl ?_ ?_
    · skip
      refine wp_effX (d := some 3) (v := vs) rfl (ex_loadA (.tmp 1) 54 rfl rfl (ld_slc4 hO1 HSV.out)) ⟨⟨⟨_, hO1⟩, hL1⟩, ?_⟩
      simp only [Act.put, List.setIfInBounds_toArray, List.set_cons_zero, List.set_cons_succ]
      refine all_one (i := 3) (by kernel_rfl) rfl rfl ?_
      obtain ⟨X2, hX2⟩ : ∃ X2, X2 = X1.alloc (.cells (ec4 (k, v)).toArray 47) := ⟨_, rfl⟩
      have hc2 : Below X1.heap.size X1 X2 := by rw [hX2]; exact (Below.refl X1.heap.size X1).alloc (Nat.le_refl _) _
      have hO2 := blk_kept hO1 hc2
      have hL2 := blk_kept hL1 hc2
      refine wp_buildT (.tmp 5) 54 rfl rfl rfl (bsE4 X1 (k, v)) ?_
      rw [← hX2]
      refine ⟨⟨⟨_, hO2⟩, hL2⟩, ?_⟩
      simp only [Act.put, List.setIfInBounds_toArray, List.set_cons_zero, List.set_cons_succ]
      have hz1 : W.heap.size ≤ X1.heap.size := Nat.le_trans HB1.out.size hb1.size
      have hRX := own_sameT (w' := X1) HR1.out (fun b hb => hb1.block b (own_ltT HR1.out hb).2)
      obtain ⟨hne, hnl, hnr, hlt, hbb, hbs, hl⟩ := HNN.out
      obtain ⟨v5, X3, hap, hrow3, hbl3, hfr3⟩ := pushE4 hRX (Nat.le_trans hbs hz1) hl (k, v) 54
      rw [← hX2] at hap
      have hlf : W.heap.size < X1.heap.size := (Array.getElem?_eq_some_iff.1 hL1).1
      have hO3 := (hfr3 bo (by omega) (hne bo (Nat.le_refl _))).trans hO1
      have hL3 := (hfr3 W.heap.size hlf hnl).trans hL1
      refine all_one (i := 4) (by kernel_rfl) rfl rfl ?_
      refine wp_appendT (d := some 7) (.tmp 3) (.tmp 6) 54 rfl rfl rfl rfl hap ⟨⟨⟨_, hO3⟩, hL3⟩, ?_⟩
      simp only [Act.put, List.setIfInBounds_toArray, List.set_cons_zero, List.set_cons_succ]
      have hsv5 : ∃ x n c, v5 = .slice x n c := by obtain ⟨a, c, e⟩ := own_slcT hrow3; exact ⟨_, _, _, e⟩
      have hst := st_slc4 hO3 hsv5
      have hO4 := blk_set hO3 0 v5
      have on4 : Only bo X3 (X3.setCell ⟨bo, 0, none⟩ v5) := (Only.refl bo X3).set 0 _
      have hL4 := (on4.other W.heap.size (by omega)).trans hL3
      refine all_one (i := 5) (by kernel_rfl) rfl rfl ?_
      refine wp_storeA (.tmp 1) (.tmp 7) 54 rfl rfl rfl rfl hst ⟨⟨⟨_, hO4⟩, hL4⟩, ?_⟩
      refine wpAnyH_done (by kernel_rfl) ?_ _
      have hrow4 := own_sameT (w' := X3.setCell ⟨bo, 0, none⟩ v5) hrow3 (fun b hb => on4.other b (by have := (own_ltT hrow3 hb).1; omega))
      have hkeep : ∀ j, j < base → j ≠ bo → (X3.setCell ⟨bo, 0, none⟩ v5).heap[j]? = W.heap[j]? := fun j hj hn => (on4.other j hn).trans ((hfr3 j (by omega) (hnr j hj)).trans ((hb1.block j (Nat.lt_of_lt_of_le (Nat.lt_of_lt_of_le hj hbs) HB1.out.size)).trans (HB1.out.block j (Nat.lt_of_lt_of_le hj hbs))))
      have hbel : Below bo W (X3.setCell ⟨bo, 0, none⟩ v5) := (((HB1.out.mono (Nat.le_of_lt hlt)).trans (hb1.mono (Nat.le_trans (Nat.le_of_lt hlt) HB1.out.size))).trans (hbl3.mono (Nat.le_of_lt hbb))).trans (on4.below (Nat.le_refl _))
      have HF : Hid (Q (.returned (.tuple #[])) (X3.setCell ⟨bo, 0, none⟩ v5)) := HQ.out _ _ ⟨rfl, v5, hO4, hrow4, hkeep, hbel⟩
      clear hO4 hL4 hrow4 hkeep hbel hst on4 hL3 hO3 hrow3 hfr3 hbl3 hap hRX HQ HNN HSV HB1 HR1 HO1 HSL HEC
      generalize X3.setCell ⟨bo, 0, none⟩ v5 = V at *
      go_show
      go_wp2
      try go_returns
      exact HF.out
    · skip
      obtain ⟨X2, hX2⟩ : ∃ X2, X2 = X1.alloc (.cells (ec4 (k, v)).toArray 47) := ⟨_, rfl⟩
      have hc2 : Below X1.heap.size X1 X2 := by rw [hX2]; exact (Below.refl X1.heap.size X1).alloc (Nat.le_refl _) _
      have hO2 := blk_kept hO1 hc2
      have hL2 := blk_kept hL1 hc2
      refine wp_buildT (.tmp 5) 54 rfl rfl rfl (bsE4 X1 (k, v)) ?_
      rw [← hX2]
      refine ⟨⟨⟨_, hO2⟩, hL2⟩, ?_⟩
      simp only [Act.put, List.setIfInBounds_toArray, List.set_cons_zero, List.set_cons_succ]
      refine all_one (i := 0) (by kernel_rfl) rfl rfl ?_
      refine wp_effX (d := some 3) (v := vs) rfl (ex_loadA (.tmp 1) 54 rfl rfl (ld_slc4 hO2 HSV.out)) ⟨⟨⟨_, hO2⟩, hL2⟩, ?_⟩
      simp only [Act.put, List.setIfInBounds_toArray, List.set_cons_zero, List.set_cons_succ]
      have hz1 : W.heap.size ≤ X1.heap.size := Nat.le_trans HB1.out.size hb1.size
      have hRX := own_sameT (w' := X1) HR1.out (fun b hb => hb1.block b (own_ltT HR1.out hb).2)
      obtain ⟨hne, hnl, hnr, hlt, hbb, hbs, hl⟩ := HNN.out
      obtain ⟨v5, X3, hap, hrow3, hbl3, hfr3⟩ := pushE4 hRX (Nat.le_trans hbs hz1) hl (k, v) 54
      rw [← hX2] at hap
      have hlf : W.heap.size < X1.heap.size := (Array.getElem?_eq_some_iff.1 hL1).1
      have hO3 := (hfr3 bo (by omega) (hne bo (Nat.le_refl _))).trans hO1
      have hL3 := (hfr3 W.heap.size hlf hnl).trans hL1
      refine all_one (i := 4) (by kernel_rfl) rfl rfl ?_
      refine wp_appendT (d := some 7) (.tmp 3) (.tmp 6) 54 rfl rfl rfl rfl hap ⟨⟨⟨_, hO3⟩, hL3⟩, ?_⟩
      simp only [Act.put, List.setIfInBounds_toArray, List.set_cons_zero, List.set_cons_succ]
      have hsv5 : ∃ x n c, v5 = .slice x n c := by obtain ⟨a, c, e⟩ := own_slcT hrow3; exact ⟨_, _, _, e⟩
      have hst := st_slc4 hO3 hsv5
      have hO4 := blk_set hO3 0 v5
      have on4 : Only bo X3 (X3.setCell ⟨bo, 0, none⟩ v5) := (Only.refl bo X3).set 0 _
      have hL4 := (on4.other W.heap.size (by omega)).trans hL3
      refine all_one (i := 5) (by kernel_rfl) rfl rfl ?_
      refine wp_storeA (.tmp 1) (.tmp 7) 54 rfl rfl rfl rfl hst ⟨⟨⟨_, hO4⟩, hL4⟩, ?_⟩
      refine wpAnyH_done (by kernel_rfl) ?_ _
      have hrow4 := own_sameT (w' := X3.setCell ⟨bo, 0, none⟩ v5) hrow3 (fun b hb => on4.other b (by have := (own_ltT hrow3 hb).1; omega))
      have hkeep : ∀ j, j < base → j ≠ bo → (X3.setCell ⟨bo, 0, none⟩ v5).heap[j]? = W.heap[j]? := fun j hj hn => (on4.other j hn).trans ((hfr3 j (by omega) (hnr j hj)).trans ((hb1.block j (Nat.lt_of_lt_of_le (Nat.lt_of_lt_of_le hj hbs) HB1.out.size)).trans (HB1.out.block j (Nat.lt_of_lt_of_le hj hbs))))
      have hbel : Below bo W (X3.setCell ⟨bo, 0, none⟩ v5) := (((HB1.out.mono (Nat.le_of_lt hlt)).trans (hb1.mono (Nat.le_trans (Nat.le_of_lt hlt) HB1.out.size))).trans (hbl3.mono (Nat.le_of_lt hbb))).trans (on4.below (Nat.le_refl _))
      have HF : Hid (Q (.returned (.tuple #[])) (X3.setCell ⟨bo, 0, none⟩ v5)) := HQ.out _ _ ⟨rfl, v5, hO4, hrow4, hkeep, hbel⟩
      clear hO4 hL4 hrow4 hkeep hbel hst on4 hL3 hO3 hrow3 hfr3 hbl3 hap hRX HQ HNN HSV HB1 HR1 HO1 HSL HEC
      generalize X3.setCell ⟨bo, 0, none⟩ v5 = V at *
      go_show
      go_wp2
      try go_returns
      exact HF.out
def ec6 (e : Ent) : List Value := enC (bytN 16 e.1) e.1.length e.2
theorem ec6_len (e : Ent) : (ec6 e).length = 18 := by unfold ec6; rw [enC_len]; simp [bytN_length]
theorem ec6_one (e : Ent) : ∀ u ∈ ec6 e, u.oneCell' = true := enC_one _ _ _
theorem infoE6 : ∃ i, Try.prog.info? 51 = some i ∧ i.zero = some (.agg (zL : List Value).toArray) ∧ i.size = 18 ∧ i.bytes = 32 := by
  have : (Try.prog.info? 51).map (fun i => (i.zero, i.size, i.bytes)) = some (some (.agg (zL : List Value).toArray), 18, 32) := by kernel_rfl
  obtain ⟨i, h1, h2⟩ := Option.map_eq_some_iff.1 this
  injection h2 with h2 h3
  injection h3 with h3 h4
  exact ⟨i, h1, h2, h3, h4⟩
theorem pushE6 {base : Nat} {W : World} {v : Value} {L : List Ent} (h : W.ownsRow base 51 18 v L.length (L.flatMap ec6)) (hb : base ≤ W.heap.size) (hl : L.length ≤ 100000) (e : Ent) (ty : TypeId) :
    ∃ v' W', (Builtin.append_ #[56, 56] ty #[v, .slice (some ⟨W.heap.size, 0, none⟩) 1 1]).run Try.prog (W.alloc (.cells (ec6 e).toArray 51)) = .ok v' W' ∧ W'.ownsRow base 51 18 v' (L ++ [e]).length ((L ++ [e]).flatMap ec6) ∧ Below base W W' ∧ ∀ j, j < W.heap.size → v.ownBlock ≠ some j → W'.heap[j]? = W.heap[j]? := by
  obtain ⟨i, hi, hz, hsz, hby⟩ := infoE6
  have hB1 := (Below.refl W.heap.size W).alloc (Nat.le_refl _) (.cells (ec6 e).toArray 51)
  have ho1 := own_sameT (w' := W.alloc (.cells (ec6 e).toArray 51)) h (fun b hb' => hB1.block b (own_ltT h hb').2)
  obtain ⟨v', w', hrun, hown, hgr, _, hat⟩ := run_append_own_at (P := Try.prog) (W.alloc (.cells (ec6 e).toArray 51)) base 56 ty 51 i (.agg (zL : List Value).toArray) 18 32 Try.underlying56 hi hz hsz hby rfl (by decide) v L.length (L.flatMap ec6) ho1 ⟨W.heap.size, 0, none⟩ 1 1 (ec6 e) (by rw [ec6_len])
    (fun j x hj => by
      rw [Go.WideShapes.add_plain]
      have := CellsAt.of_blk (blk_new W (.cells (ec6 e).toArray 51)) j x (by simpa using hj)
      simpa using this) (ec6_one e) (by unfold maxLen; omega) (by omega) (by simp; omega)
  have hfr : ∀ j, j < W.heap.size → v.ownBlock ≠ some j → w'.heap[j]? = W.heap[j]? := fun j hj hn => (hgr.block j (by simp; omega) (fun e => hn e.symm)).trans (hB1.block j hj)
  refine ⟨v', w', hrun, ?_, ⟨hgr.os, hgr.tape, hgr.output, Nat.le_trans hB1.size hgr.size, fun j hj => hfr j (by omega) (fun e => ?_)⟩, hfr⟩
  · rw [List.flatMap_append, List.length_append]
    simpa using hown
  · have := (own_ltT h e).1
    omega
theorem bsE6 (W : World) (e : Ent) : (Instr.buildSlice 56 1 #[(0, .agg (ec6 e).toArray)]).run Try.prog W = .ok (.slice (some ⟨W.heap.size, 0, none⟩) 1 1) (W.alloc (.cells (ec6 e).toArray 51)) := by
  obtain ⟨i, hi, hz, hsz, hby⟩ := infoE6
  refine run_buildSlice W 56 51 1 #[(0, .agg (ec6 e).toArray)] (ec6 e).toArray i (.agg (zL : List Value).toArray) Try.underlying56 hi hz (by rw [hsz]; omega) (by rw [hsz]; omega) ?_
  have := Go.Great.fill_whole (s := 18) (by omega) [.agg (ec6 e).toArray] ((Array.range (1 * i.size)).map ((Value.agg (zL : List Value).toArray).cells[· % (Value.agg (zL : List Value).toArray).cells.size]!)) (fun v hv => by simp at hv; rw [hv]; simp [Value.cells, ec6_len]) (by simp [hsz])
  rw [hsz] at this ⊢
  simpa [Value.cells] using this
theorem st_slc6 {W : World} {b : Nat} {u : Value} {t : TypeId} (h : W.heap[b]? = some (.cells [u].toArray t)) {v : Value} (hv : ∃ x n m, v = .slice x n m) : (Instr.storeAt 56 (.pointer (some ⟨b, 0, none⟩)) v).run Try.prog W = .ok () (W.setCell ⟨b, 0, none⟩ v) := by
  obtain ⟨x, n, m, rfl⟩ := hv
  have h1 : W.cell? ⟨b, 0, none⟩ = some u := blk_cell h rfl
  have h2 := blk_open h 0
  simp [Instr.storeAt, go_sem, h1, h2]
theorem ld_slc6 {W : World} {b : Nat} {u : Value} {t : TypeId} (h : W.heap[b]? = some (.cells [u].toArray t)) (hv : ∃ x n m, u = .slice x n m) : (Instr.loadAt 56 (.pointer (some ⟨b, 0, none⟩))).run Try.prog W = .ok u W := by
  obtain ⟨x, n, m, rfl⟩ := hv
  have h1 : W.cell? ⟨b, 0, none⟩ = some (.slice x n m) := blk_cell h rfl
  simp [Instr.loadAt, go_sem, h1]
set_option maxHeartbeats 4000000 in
set_option maxRecDepth 100000 in
theorem take6_calls (bo base : Nat) (hbb : bo < base) (l : List Ent) (k : Bs) (v : Int) (W : World) (vs : Value) (hbo : W.heap[bo]? = some (.cells [vs].toArray 56)) (hrow : W.ownsRow base 51 18 vs l.length (l.flatMap ec6)) (hbs : base ≤ W.heap.size) (hl : l.length ≤ 100000) :
    Calls Try.prog 47 #[LF k v, .pointer (some ⟨bo, 0, none⟩)] W fun e w' => e = .returned (.tuple #[]) ∧ ∃ vs', w'.heap[bo]? = some (.cells [vs'].toArray 56) ∧ w'.ownsRow base 51 18 vs' (l ++ [(k, v)]).length ((l ++ [(k, v)]).flatMap ec6) ∧ (∀ j, j < base → j ≠ bo → w'.heap[j]? = W.heap[j]?) ∧ Below bo W w' := by
  generalize hQ : (fun (e : Ending) (w' : World) => e = .returned (.tuple #[]) ∧ ∃ vs', w'.heap[bo]? = some (.cells [vs'].toArray 56) ∧ w'.ownsRow base 51 18 vs' (l ++ [(k, v)]).length ((l ++ [(k, v)]).flatMap ec6) ∧ (∀ j, j < base → j ≠ bo → w'.heap[j]? = W.heap[j]?) ∧ Below bo W w') = Q
  have HQ : Hid (∀ e w', (e = .returned (.tuple #[]) ∧ ∃ vs', w'.heap[bo]? = some (.cells [vs'].toArray 56) ∧ w'.ownsRow base 51 18 vs' (l ++ [(k, v)]).length ((l ++ [(k, v)]).flatMap ec6) ∧ (∀ j, j < base → j ≠ bo → w'.heap[j]? = W.heap[j]?) ∧ Below bo W w') → Q e w') := fun e w' hh => by rw [← hQ]; exact hh
  clear hQ
  obtain ⟨W1, hW1⟩ : ∃ W1, W1 = W.alloc (.cells (lfC k v).toArray 85) := ⟨_, rfl⟩
  have hB1 : Below W.heap.size W W1 := by rw [hW1]; exact (Below.refl W.heap.size W).alloc (Nat.le_refl _) _
  have hsL : W1.heap[W.heap.size]? = some (.cells (lfC k v).toArray 85) := by rw [hW1]; exact blk_new W _
  have hO1 := blk_on hbo hB1
  have hR1 := own_sameT (w' := W1) hrow (fun b hb => hB1.block b (own_ltT hrow hb).2)
  have hsv : ∃ x n c, vs = .slice x n c := by obtain ⟨a, c, e⟩ := own_slcT hrow; exact ⟨_, _, _, e⟩
  have HEC : Hid (∀ X : World, Calls Try.prog 45 #[LF k v] X fun e w' => e = .returned (.agg (ec6 (k, v)).toArray) ∧ Below X.heap.size X w') := fun X => entry6_any (bytN 16 k) (bytN_length _ _) k.length v X
  have hlt : bo < W.heap.size := by omega
  have hne : ∀ j, j ≤ bo → vs.ownBlock ≠ some j := fun j hj e => by have := (own_ltT hrow e).1; omega
  have hnl : vs.ownBlock ≠ some W.heap.size := fun e => by have := (own_ltT hrow e).2; omega
  have hnr : ∀ j, j < base → vs.ownBlock ≠ some j := fun j hj e => by have := (own_ltT hrow e).1; omega
  have HSL : Hid (W1.heap[W.heap.size]? = some (.cells (lfC k v).toArray 85)) := hsL
  have HO1 : Hid (W1.heap[bo]? = some (.cells [vs].toArray 56)) := hO1
  have HR1 : Hid (W1.ownsRow base 51 18 vs l.length (l.flatMap ec6)) := hR1
  have HB1 : Hid (Below W.heap.size W W1) := hB1
  have HSV : Hid (∃ x n c, vs = .slice x n c) := hsv
  have HNN : Hid ((∀ j, j ≤ bo → vs.ownBlock ≠ some j) ∧ vs.ownBlock ≠ some W.heap.size ∧ (∀ j, j < base → vs.ownBlock ≠ some j) ∧ bo < W.heap.size ∧ bo < base ∧ base ≤ W.heap.size ∧ l.length ≤ 100000) := ⟨hne, hnl, hnr, hlt, hbb, hbs, hl⟩
  have hW := hW1.symm
  clear hsL hO1 hR1 hB1 hW1 hbo hrow hbs hl hbb hlt hne hnl hnr hsv
  go_enter Try.func47, Try.ntmps47
  go_wp2_with fail
  refine wp_region_held (S := fun X => (∃ u, X.heap[bo]? = some (.cells [u].toArray 56)) ∧ X.heap[W.heap.size]? = some (.cells (lfC k v).toArray 85)) (by kernel_rfl) ?_
  show wpAnyH _ _ _ _ _ 6 (Array.replicate 6 false) _ W1.drew
  have hO0 : W1.drew.heap[bo]? = some (.cells [vs].toArray 56) := HO1.out
  have hL0 : W1.drew.heap[W.heap.size]? = some (.cells (lfC k v).toArray 85) := HSL.out
  have hb0 : Below W1.heap.size W1 W1.drew := (Below.refl W1.heap.size W1).drew
  generalize W1.drew = X0 at *
  refine take_one (i := 1) (d := some 4) (v := LF k v) rfl rfl rfl (by kernel_rfl) (by kernel_rfl) (by kernel_rfl) (fun _ _ d _ _ h => by cases d <;> exact h) (fun X hS => ex_loadA (.tmp 2) 85 rfl rfl (lf_load hS.2)) ⟨⟨_, hO0⟩, hL0⟩ ?_
  simp only [Act.put, List.setIfInBounds_toArray, List.set_cons_zero, List.set_cons_succ]
  refine all_two (i1 := 0) (i2 := 2) (by kernel_rfl) rfl rfl rfl rfl ?_ ?_
  · skip
    refine wp_effX (d := some 3) (v := vs) rfl (ex_loadA (.tmp 1) 56 rfl rfl (ld_slc6 hO0 HSV.out)) ⟨⟨⟨_, hO0⟩, hL0⟩, ?_⟩
    simp only [Act.put, List.setIfInBounds_toArray, List.set_cons_zero, List.set_cons_succ]
    refine all_one (i := 2) (by kernel_rfl) rfl rfl ?_
    refine wp_call (d := some 5) 45 _ rfl (by kernel_rfl) (callR (HEC.out _)) ?_
    rintro _ X1 ⟨rfl, hc1⟩
    have hO1 := blk_kept hO0 hc1
    have hL1 := blk_kept hL0 hc1
    have hb1 := hb0.trans (hc1.mono hb0.size)
    refine ⟨⟨⟨_, hO1⟩, hL1⟩, ?_⟩
    simp only [Act.put, List.setIfInBounds_toArray, List.set_cons_zero, List.set_cons_succ]
    refine all_one (i := 3) (by kernel_rfl) rfl rfl ?_
    obtain ⟨X2, hX2⟩ : ∃ X2, X2 = X1.alloc (.cells (ec6 (k, v)).toArray 51) := ⟨_, rfl⟩
    have hc2 : Below X1.heap.size X1 X2 := by rw [hX2]; exact (Below.refl X1.heap.size X1).alloc (Nat.le_refl _) _
    have hO2 := blk_kept hO1 hc2
    have hL2 := blk_kept hL1 hc2
    refine wp_buildT (.tmp 5) 56 rfl rfl rfl (bsE6 X1 (k, v)) ?_
    rw [← hX2]
    refine ⟨⟨⟨_, hO2⟩, hL2⟩, ?_⟩
    simp only [Act.put, List.setIfInBounds_toArray, List.set_cons_zero, List.set_cons_succ]
    have hz1 : W.heap.size ≤ X1.heap.size := Nat.le_trans HB1.out.size hb1.size
    have hRX := own_sameT (w' := X1) HR1.out (fun b hb => hb1.block b (own_ltT HR1.out hb).2)
    obtain ⟨hne, hnl, hnr, hlt, hbb, hbs, hl⟩ := HNN.out
    obtain ⟨v5, X3, hap, hrow3, hbl3, hfr3⟩ := pushE6 hRX (Nat.le_trans hbs hz1) hl (k, v) 56
    rw [← hX2] at hap
    have hlf : W.heap.size < X1.heap.size := (Array.getElem?_eq_some_iff.1 hL1).1
    have hO3 := (hfr3 bo (by omega) (hne bo (Nat.le_refl _))).trans hO1
    have hL3 := (hfr3 W.heap.size hlf hnl).trans hL1
    refine all_one (i := 4) (by kernel_rfl) rfl rfl ?_
    refine wp_appendT (d := some 7) (.tmp 3) (.tmp 6) 56 rfl rfl rfl rfl hap ⟨⟨⟨_, hO3⟩, hL3⟩, ?_⟩
    simp only [Act.put, List.setIfInBounds_toArray, List.set_cons_zero, List.set_cons_succ]
    have hsv5 : ∃ x n c, v5 = .slice x n c := by obtain ⟨a, c, e⟩ := own_slcT hrow3; exact ⟨_, _, _, e⟩
    have hst := st_slc6 hO3 hsv5
    have hO4 := blk_set hO3 0 v5
    have on4 : Only bo X3 (X3.setCell ⟨bo, 0, none⟩ v5) := (Only.refl bo X3).set 0 _
    have hL4 := (on4.other W.heap.size (by omega)).trans hL3
    refine all_one (i := 5) (by kernel_rfl) rfl rfl ?_
    refine wp_storeA (.tmp 1) (.tmp 7) 56 rfl rfl rfl rfl hst ⟨⟨⟨_, hO4⟩, hL4⟩, ?_⟩
    refine wpAnyH_done (by kernel_rfl) ?_ _
    have hrow4 := own_sameT (w' := X3.setCell ⟨bo, 0, none⟩ v5) hrow3 (fun b hb => on4.other b (by have := (own_ltT hrow3 hb).1; omega))
    have hkeep : ∀ j, j < base → j ≠ bo → (X3.setCell ⟨bo, 0, none⟩ v5).heap[j]? = W.heap[j]? := fun j hj hn => (on4.other j hn).trans ((hfr3 j (by omega) (hnr j hj)).trans ((hb1.block j (Nat.lt_of_lt_of_le (Nat.lt_of_lt_of_le hj hbs) HB1.out.size)).trans (HB1.out.block j (Nat.lt_of_lt_of_le hj hbs))))
    have hbel : Below bo W (X3.setCell ⟨bo, 0, none⟩ v5) := (((HB1.out.mono (Nat.le_of_lt hlt)).trans (hb1.mono (Nat.le_trans (Nat.le_of_lt hlt) HB1.out.size))).trans (hbl3.mono (Nat.le_of_lt hbb))).trans (on4.below (Nat.le_refl _))
    have HF : Hid (Q (.returned (.tuple #[])) (X3.setCell ⟨bo, 0, none⟩ v5)) := HQ.out _ _ ⟨rfl, v5, hO4, hrow4, hkeep, hbel⟩
    clear hO4 hL4 hrow4 hkeep hbel hst on4 hL3 hO3 hrow3 hfr3 hbl3 hap hRX HQ HNN HSV HB1 HR1 HO1 HSL HEC
    generalize X3.setCell ⟨bo, 0, none⟩ v5 = V at *
    go_show
    go_wp2
    try go_returns
    exact HF.out
  · skip
    refine wp_call (d := some 5) 45 _ rfl (by kernel_rfl) (callR (HEC.out _)) ?_
    rintro _ X1 ⟨rfl, hc1⟩
    have hO1 := blk_kept hO0 hc1
    have hL1 := blk_kept hL0 hc1
    have hb1 := hb0.trans (hc1.mono hb0.size)
    refine ⟨⟨⟨_, hO1⟩, hL1⟩, ?_⟩
    simp only [Act.put, List.setIfInBounds_toArray, List.set_cons_zero, List.set_cons_succ]
    refine all_two (i1 := 0) (i2 := 3) (by kernel_rfl) rfl rfl rfl rfl ?_ ?_
    · skip
      refine wp_effX (d := some 3) (v := vs) rfl (ex_loadA (.tmp 1) 56 rfl rfl (ld_slc6 hO1 HSV.out)) ⟨⟨⟨_, hO1⟩, hL1⟩, ?_⟩
      simp only [Act.put, List.setIfInBounds_toArray, List.set_cons_zero, List.set_cons_succ]
      refine all_one (i := 3) (by kernel_rfl) rfl rfl ?_
      obtain ⟨X2, hX2⟩ : ∃ X2, X2 = X1.alloc (.cells (ec6 (k, v)).toArray 51) := ⟨_, rfl⟩
      have hc2 : Below X1.heap.size X1 X2 := by rw [hX2]; exact (Below.refl X1.heap.size X1).alloc (Nat.le_refl _) _
      have hO2 := blk_kept hO1 hc2
      have hL2 := blk_kept hL1 hc2
      refine wp_buildT (.tmp 5) 56 rfl rfl rfl (bsE6 X1 (k, v)) ?_
      rw [← hX2]
      refine ⟨⟨⟨_, hO2⟩, hL2⟩, ?_⟩
      simp only [Act.put, List.setIfInBounds_toArray, List.set_cons_zero, List.set_cons_succ]
      have hz1 : W.heap.size ≤ X1.heap.size := Nat.le_trans HB1.out.size hb1.size
      have hRX := own_sameT (w' := X1) HR1.out (fun b hb => hb1.block b (own_ltT HR1.out hb).2)
      obtain ⟨hne, hnl, hnr, hlt, hbb, hbs, hl⟩ := HNN.out
      obtain ⟨v5, X3, hap, hrow3, hbl3, hfr3⟩ := pushE6 hRX (Nat.le_trans hbs hz1) hl (k, v) 56
      rw [← hX2] at hap
      have hlf : W.heap.size < X1.heap.size := (Array.getElem?_eq_some_iff.1 hL1).1
      have hO3 := (hfr3 bo (by omega) (hne bo (Nat.le_refl _))).trans hO1
      have hL3 := (hfr3 W.heap.size hlf hnl).trans hL1
      refine all_one (i := 4) (by kernel_rfl) rfl rfl ?_
      refine wp_appendT (d := some 7) (.tmp 3) (.tmp 6) 56 rfl rfl rfl rfl hap ⟨⟨⟨_, hO3⟩, hL3⟩, ?_⟩
      simp only [Act.put, List.setIfInBounds_toArray, List.set_cons_zero, List.set_cons_succ]
      have hsv5 : ∃ x n c, v5 = .slice x n c := by obtain ⟨a, c, e⟩ := own_slcT hrow3; exact ⟨_, _, _, e⟩
      have hst := st_slc6 hO3 hsv5
      have hO4 := blk_set hO3 0 v5
      have on4 : Only bo X3 (X3.setCell ⟨bo, 0, none⟩ v5) := (Only.refl bo X3).set 0 _
      have hL4 := (on4.other W.heap.size (by omega)).trans hL3
      refine all_one (i := 5) (by kernel_rfl) rfl rfl ?_
      refine wp_storeA (.tmp 1) (.tmp 7) 56 rfl rfl rfl rfl hst ⟨⟨⟨_, hO4⟩, hL4⟩, ?_⟩
      refine wpAnyH_done (by kernel_rfl) ?_ _
      have hrow4 := own_sameT (w' := X3.setCell ⟨bo, 0, none⟩ v5) hrow3 (fun b hb => on4.other b (by have := (own_ltT hrow3 hb).1; omega))
      have hkeep : ∀ j, j < base → j ≠ bo → (X3.setCell ⟨bo, 0, none⟩ v5).heap[j]? = W.heap[j]? := fun j hj hn => (on4.other j hn).trans ((hfr3 j (by omega) (hnr j hj)).trans ((hb1.block j (Nat.lt_of_lt_of_le (Nat.lt_of_lt_of_le hj hbs) HB1.out.size)).trans (HB1.out.block j (Nat.lt_of_lt_of_le hj hbs))))
      have hbel : Below bo W (X3.setCell ⟨bo, 0, none⟩ v5) := (((HB1.out.mono (Nat.le_of_lt hlt)).trans (hb1.mono (Nat.le_trans (Nat.le_of_lt hlt) HB1.out.size))).trans (hbl3.mono (Nat.le_of_lt hbb))).trans (on4.below (Nat.le_refl _))
      have HF : Hid (Q (.returned (.tuple #[])) (X3.setCell ⟨bo, 0, none⟩ v5)) := HQ.out _ _ ⟨rfl, v5, hO4, hrow4, hkeep, hbel⟩
      clear hO4 hL4 hrow4 hkeep hbel hst on4 hL3 hO3 hrow3 hfr3 hbl3 hap hRX HQ HNN HSV HB1 HR1 HO1 HSL HEC
      generalize X3.setCell ⟨bo, 0, none⟩ v5 = V at *
      go_show
      go_wp2
      try go_returns
      exact HF.out
    · skip
      obtain ⟨X2, hX2⟩ : ∃ X2, X2 = X1.alloc (.cells (ec6 (k, v)).toArray 51) := ⟨_, rfl⟩
      have hc2 : Below X1.heap.size X1 X2 := by rw [hX2]; exact (Below.refl X1.heap.size X1).alloc (Nat.le_refl _) _
      have hO2 := blk_kept hO1 hc2
      have hL2 := blk_kept hL1 hc2
      refine wp_buildT (.tmp 5) 56 rfl rfl rfl (bsE6 X1 (k, v)) ?_
      rw [← hX2]
      refine ⟨⟨⟨_, hO2⟩, hL2⟩, ?_⟩
      simp only [Act.put, List.setIfInBounds_toArray, List.set_cons_zero, List.set_cons_succ]
      refine all_one (i := 0) (by kernel_rfl) rfl rfl ?_
      refine wp_effX (d := some 3) (v := vs) rfl (ex_loadA (.tmp 1) 56 rfl rfl (ld_slc6 hO2 HSV.out)) ⟨⟨⟨_, hO2⟩, hL2⟩, ?_⟩
      simp only [Act.put, List.setIfInBounds_toArray, List.set_cons_zero, List.set_cons_succ]
      have hz1 : W.heap.size ≤ X1.heap.size := Nat.le_trans HB1.out.size hb1.size
      have hRX := own_sameT (w' := X1) HR1.out (fun b hb => hb1.block b (own_ltT HR1.out hb).2)
      obtain ⟨hne, hnl, hnr, hlt, hbb, hbs, hl⟩ := HNN.out
      obtain ⟨v5, X3, hap, hrow3, hbl3, hfr3⟩ := pushE6 hRX (Nat.le_trans hbs hz1) hl (k, v) 56
      rw [← hX2] at hap
      have hlf : W.heap.size < X1.heap.size := (Array.getElem?_eq_some_iff.1 hL1).1
      have hO3 := (hfr3 bo (by omega) (hne bo (Nat.le_refl _))).trans hO1
      have hL3 := (hfr3 W.heap.size hlf hnl).trans hL1
      refine all_one (i := 4) (by kernel_rfl) rfl rfl ?_
      refine wp_appendT (d := some 7) (.tmp 3) (.tmp 6) 56 rfl rfl rfl rfl hap ⟨⟨⟨_, hO3⟩, hL3⟩, ?_⟩
      simp only [Act.put, List.setIfInBounds_toArray, List.set_cons_zero, List.set_cons_succ]
      have hsv5 : ∃ x n c, v5 = .slice x n c := by obtain ⟨a, c, e⟩ := own_slcT hrow3; exact ⟨_, _, _, e⟩
      have hst := st_slc6 hO3 hsv5
      have hO4 := blk_set hO3 0 v5
      have on4 : Only bo X3 (X3.setCell ⟨bo, 0, none⟩ v5) := (Only.refl bo X3).set 0 _
      have hL4 := (on4.other W.heap.size (by omega)).trans hL3
      refine all_one (i := 5) (by kernel_rfl) rfl rfl ?_
      refine wp_storeA (.tmp 1) (.tmp 7) 56 rfl rfl rfl rfl hst ⟨⟨⟨_, hO4⟩, hL4⟩, ?_⟩
      refine wpAnyH_done (by kernel_rfl) ?_ _
      have hrow4 := own_sameT (w' := X3.setCell ⟨bo, 0, none⟩ v5) hrow3 (fun b hb => on4.other b (by have := (own_ltT hrow3 hb).1; omega))
      have hkeep : ∀ j, j < base → j ≠ bo → (X3.setCell ⟨bo, 0, none⟩ v5).heap[j]? = W.heap[j]? := fun j hj hn => (on4.other j hn).trans ((hfr3 j (by omega) (hnr j hj)).trans ((hb1.block j (Nat.lt_of_lt_of_le (Nat.lt_of_lt_of_le hj hbs) HB1.out.size)).trans (HB1.out.block j (Nat.lt_of_lt_of_le hj hbs))))
      have hbel : Below bo W (X3.setCell ⟨bo, 0, none⟩ v5) := (((HB1.out.mono (Nat.le_of_lt hlt)).trans (hb1.mono (Nat.le_trans (Nat.le_of_lt hlt) HB1.out.size))).trans (hbl3.mono (Nat.le_of_lt hbb))).trans (on4.below (Nat.le_refl _))
      have HF : Hid (Q (.returned (.tuple #[])) (X3.setCell ⟨bo, 0, none⟩ v5)) := HQ.out _ _ ⟨rfl, v5, hO4, hrow4, hkeep, hbel⟩
      clear hO4 hL4 hrow4 hkeep hbel hst on4 hL3 hO3 hrow3 hfr3 hbl3 hap hRX HQ HNN HSV HB1 HR1 HO1 HSL HEC
      generalize X3.setCell ⟨bo, 0, none⟩ v5 = V at *
      go_show
      go_wp2
      try go_returns
      exact HF.out
end Go.Proofs.Ytenahbdopgmpfaa

namespace Go.Proofs.Ytenahbdopgmpfaa
open Go Go.RowKit Go.Shelf
set_option linter.unusedVariables false
set_option linter.unusedSimpArgs false

theorem own_monoT {w : World} {base base' size n : Nat} {e : TypeId} {v : Value} {xs : List Value} (h : w.ownsRow base e size v n xs) (hb : base' ≤ base) : w.ownsRow base' e size v n xs := by
  refine ⟨h.1, ?_⟩
  rcases h.2 with h2 | ⟨g, cap, cur, rfl, h1, h2, h3⟩
  · exact .inl h2
  · exact .inr ⟨g, cap, cur, rfl, Nat.le_trans hb h1, h2, h3⟩
def Took4 (bo base : Nat) (W0 : World) (l : List Ent) (W : World) : Prop := (∃ vs, W.heap[bo]? = some (.cells [vs].toArray 54) ∧ W.ownsRow base 47 6 vs l.length (l.flatMap ec4)) ∧ base ≤ W.heap.size ∧ (∀ j, j < base → j ≠ bo → W.heap[j]? = W0.heap[j]?) ∧ Below bo W0 W
theorem eg_take4 : ∀ args w, (callFunc 73 args).run Try.prog w = .ok (.enter 73 args) w := enters_of Try.func73 (by kernel_rfl) rfl
theorem Took4.keep {bo base : Nat} {W0 : World} {l : List Ent} {W W' : World} (h : Took4 bo base W0 l W) (hb : Below W.heap.size W W') : Took4 bo base W0 l W' := by
  obtain ⟨⟨vs, h1, h2⟩, h3, h4, h5⟩ := h
  have hl := (Array.getElem?_eq_some_iff.1 h1).1
  exact ⟨⟨vs, blk_kept h1 hb, own_sameT h2 (fun b e => hb.block b (own_ltT h2 e).2)⟩, Nat.le_trans h3 hb.size, fun j hj hn => (hb.block j (by omega)).trans (h4 j hj hn), h5.trans (hb.mono (Nat.le_of_lt hl))⟩
theorem Took4.tak {bo base : Nat} (hbb : bo < base) (W0 : World) (Z : World → Prop) (hZ : ∀ l W, Took4 bo base W0 l W → Z W) : TakN 100000 (fun l W => Took4 bo base W0 l W ∧ Z W) (.func (.func 73) #[] #[.pointer (some ⟨bo, 0, none⟩)]) :=
  ⟨fun l W W' h hb => ⟨h.1.keep hb, hZ _ _ (h.1.keep hb)⟩, _, _, rfl, eg_take4, fun l k v W hk hl h => by
    obtain ⟨⟨⟨vs, h1, h2⟩, h3, h4, h5⟩, -⟩ := h
    refine (take4_calls bo base hbb l k v W vs h1 h2 h3 (Nat.le_of_lt hl)).mono ?_
    rintro e w' ⟨rfl, vs', g1, g2, g3, g4⟩
    have q : Took4 bo base W0 (l ++ [(k, v)]) w' := ⟨⟨vs', g1, g2⟩, Nat.le_trans h3 g4.size, fun j hj hn => (g3 j hj hn).trans (h4 j hj hn), h5.trans g4⟩
    exact ⟨rfl, q, hZ _ _ q⟩⟩
def Took6 (bo base : Nat) (W0 : World) (l : List Ent) (W : World) : Prop := (∃ vs, W.heap[bo]? = some (.cells [vs].toArray 56) ∧ W.ownsRow base 51 18 vs l.length (l.flatMap ec6)) ∧ base ≤ W.heap.size ∧ (∀ j, j < base → j ≠ bo → W.heap[j]? = W0.heap[j]?) ∧ Below bo W0 W
theorem eg_take6 : ∀ args w, (callFunc 47 args).run Try.prog w = .ok (.enter 47 args) w := enters_of Try.func47 (by kernel_rfl) rfl
theorem Took6.keep {bo base : Nat} {W0 : World} {l : List Ent} {W W' : World} (h : Took6 bo base W0 l W) (hb : Below W.heap.size W W') : Took6 bo base W0 l W' := by
  obtain ⟨⟨vs, h1, h2⟩, h3, h4, h5⟩ := h
  have hl := (Array.getElem?_eq_some_iff.1 h1).1
  exact ⟨⟨vs, blk_kept h1 hb, own_sameT h2 (fun b e => hb.block b (own_ltT h2 e).2)⟩, Nat.le_trans h3 hb.size, fun j hj hn => (hb.block j (by omega)).trans (h4 j hj hn), h5.trans (hb.mono (Nat.le_of_lt hl))⟩
theorem Took6.tak {bo base : Nat} (hbb : bo < base) (W0 : World) (Z : World → Prop) (hZ : ∀ l W, Took6 bo base W0 l W → Z W) : TakN 100000 (fun l W => Took6 bo base W0 l W ∧ Z W) (.func (.func 47) #[] #[.pointer (some ⟨bo, 0, none⟩)]) :=
  ⟨fun l W W' h hb => ⟨h.1.keep hb, hZ _ _ (h.1.keep hb)⟩, _, _, rfl, eg_take6, fun l k v W hk hl h => by
    obtain ⟨⟨⟨vs, h1, h2⟩, h3, h4, h5⟩, -⟩ := h
    refine (take6_calls bo base hbb l k v W vs h1 h2 h3 (Nat.le_of_lt hl)).mono ?_
    rintro e w' ⟨rfl, vs', g1, g2, g3, g4⟩
    have q : Took6 bo base W0 (l ++ [(k, v)]) w' := ⟨⟨vs', g1, g2⟩, Nat.le_trans h3 g4.size, fun j hj hn => (g3 j hj hn).trans (h4 j hj hn), h5.trans g4⟩
    exact ⟨rfl, q, hZ _ _ q⟩⟩
theorem over4_row (p : Bs) (hp : p.length ≤ 128) (t : Tr) (hok : t.Ok) (hn : t.ents.length ≤ 100000) (bo : Nat) (X : World) (hbo : X.heap[bo]? = some (.cells [.slice none 0 0].toArray 54)) :
    Calls Try.prog 58 #[enc t, KV p, (.func (.func 73) #[] #[.pointer (some ⟨bo, 0, none⟩)])] X fun e w' => e = .returned (.tuple #[]) ∧ ∃ vs, w'.heap[bo]? = some (.cells [vs].toArray 54) ∧ w'.ownsRow X.heap.size 47 6 vs (t.walk (fun k => pre k p)).length ((t.walk (fun k => pre k p)).flatMap ec4) ∧ (∀ j, j < X.heap.size → j ≠ bo → w'.heap[j]? = X.heap[j]?) ∧ Below bo X w' ∧ X.heap.size ≤ w'.heap.size := by
  have hl := (Array.getElem?_eq_some_iff.1 hbo).1
  have hB : Below X.heap.size X (X.alloc (.cells (kC p).toArray 39)) := (Below.refl X.heap.size X).alloc (Nat.le_refl _) _
  have hz : (X.alloc (.cells (kC p).toArray 39)).heap.size = X.heap.size + 1 := by simp
  have hw := walk_le (g := fun k => pre k p) t
  have hS : Took4 bo (X.heap.size + 1) (X.alloc (.cells (kC p).toArray 39)) [] (X.alloc (.cells (kC p).toArray 39)) := ⟨⟨_, blk_kept hbo hB, World.ownsRow_nil _ _ _ _⟩, by rw [hz]; exact Nat.le_refl _, fun j _ _ => rfl, Below.refl _ _⟩
  have hT := Took4.tak (bo := bo) (base := X.heap.size + 1) (by omega) (X.alloc (.cells (kC p).toArray 39)) (fun W => W.heap[X.heap.size]? = some (.cells (kC p).toArray 39)) (fun l W h => by
    obtain ⟨_, _, h4, _⟩ := h
    exact (h4 X.heap.size (by omega) (by omega)).trans (blk_new X _))
  refine (over_anyN p hp t hok [] X hS (by simp only [List.length_nil]; omega) hT).mono ?_
  rintro e w' ⟨rfl, ⟨vs, g1, g2⟩, g3, g4, g5⟩
  rw [List.nil_append] at g2
  exact ⟨rfl, vs, g1, own_monoT g2 (by omega), fun j hj hne => (g4 j (by omega) hne).trans (hB.block j hj), (hB.mono (Nat.le_of_lt hl)).trans g5, by omega⟩
theorem under4_row (p : Bs) (hp : p.length ≤ 128) (t : Tr) (hok : t.Ok) (hn : t.ents.length ≤ 100000) (bo : Nat) (X : World) (hbo : X.heap[bo]? = some (.cells [.slice none 0 0].toArray 54)) :
    Calls Try.prog 46 #[enc t, KV p, (.func (.func 73) #[] #[.pointer (some ⟨bo, 0, none⟩)])] X fun e w' => e = .returned (.tuple #[]) ∧ ∃ vs, w'.heap[bo]? = some (.cells [vs].toArray 54) ∧ w'.ownsRow X.heap.size 47 6 vs ((t.walk (fun k => pre p k || pre k p)).filter (fun e => pre p e.1)).length (((t.walk (fun k => pre p k || pre k p)).filter (fun e => pre p e.1)).flatMap ec4) ∧ (∀ j, j < X.heap.size → j ≠ bo → w'.heap[j]? = X.heap[j]?) ∧ Below bo X w' ∧ X.heap.size ≤ w'.heap.size := by
  have hl := (Array.getElem?_eq_some_iff.1 hbo).1
  have hB : Below X.heap.size X ((X.alloc (.cells (kC p).toArray 39)).alloc (.cells [(.func (.func 73) #[] #[.pointer (some ⟨bo, 0, none⟩)])].toArray 92)) := ((Below.refl X.heap.size X).alloc (Nat.le_refl _) _).alloc (by simp) _
  have hz : ((X.alloc (.cells (kC p).toArray 39)).alloc (.cells [(.func (.func 73) #[] #[.pointer (some ⟨bo, 0, none⟩)])].toArray 92)).heap.size = X.heap.size + 2 := by simp
  have hw := walk_le (g := fun k => pre p k || pre k p) t
  have hS : Took4 bo (X.heap.size + 2) ((X.alloc (.cells (kC p).toArray 39)).alloc (.cells [(.func (.func 73) #[] #[.pointer (some ⟨bo, 0, none⟩)])].toArray 92)) [] ((X.alloc (.cells (kC p).toArray 39)).alloc (.cells [(.func (.func 73) #[] #[.pointer (some ⟨bo, 0, none⟩)])].toArray 92)) := ⟨⟨_, blk_kept hbo hB, World.ownsRow_nil _ _ _ _⟩, by rw [hz]; exact Nat.le_refl _, fun j _ _ => rfl, Below.refl _ _⟩
  have hT := Took4.tak (bo := bo) (base := X.heap.size + 2) (by omega) ((X.alloc (.cells (kC p).toArray 39)).alloc (.cells [(.func (.func 73) #[] #[.pointer (some ⟨bo, 0, none⟩)])].toArray 92)) (BxU p (.func (.func 73) #[] #[.pointer (some ⟨bo, 0, none⟩)]) X.heap.size) (fun l W h => by
    obtain ⟨_, _, h4, _⟩ := h
    refine ⟨(h4 X.heap.size (by omega) (by omega)).trans (blk_alloc (blk_new X _) _), (h4 (X.heap.size + 1) (by omega) (by omega)).trans ?_⟩
    have := blk_new (X.alloc (.cells (kC p).toArray 39)) (.cells [(.func (.func 73) #[] #[.pointer (some ⟨bo, 0, none⟩)])].toArray 92)
    rwa [show (X.alloc (.cells (kC p).toArray 39)).heap.size = X.heap.size + 1 by simp] at this)
  refine (under_anyN p hp t hok [] X hS (by simp only [List.length_nil]; omega) hT).mono ?_
  rintro e w' ⟨rfl, ⟨vs, g1, g2⟩, g3, g4, g5⟩
  rw [List.nil_append] at g2
  exact ⟨rfl, vs, g1, own_monoT g2 (by omega), fun j hj hne => (g4 j (by omega) hne).trans (hB.block j hj), (hB.mono (Nat.le_of_lt hl)).trans g5, by omega⟩
theorem under6_row (p : Bs) (hp : p.length ≤ 128) (t : Tr) (hok : t.Ok) (hn : t.ents.length ≤ 100000) (bo : Nat) (X : World) (hbo : X.heap[bo]? = some (.cells [.slice none 0 0].toArray 56)) :
    Calls Try.prog 46 #[enc t, KV p, (.func (.func 47) #[] #[.pointer (some ⟨bo, 0, none⟩)])] X fun e w' => e = .returned (.tuple #[]) ∧ ∃ vs, w'.heap[bo]? = some (.cells [vs].toArray 56) ∧ w'.ownsRow X.heap.size 51 18 vs ((t.walk (fun k => pre p k || pre k p)).filter (fun e => pre p e.1)).length (((t.walk (fun k => pre p k || pre k p)).filter (fun e => pre p e.1)).flatMap ec6) ∧ (∀ j, j < X.heap.size → j ≠ bo → w'.heap[j]? = X.heap[j]?) ∧ Below bo X w' ∧ X.heap.size ≤ w'.heap.size := by
  have hl := (Array.getElem?_eq_some_iff.1 hbo).1
  have hB : Below X.heap.size X ((X.alloc (.cells (kC p).toArray 39)).alloc (.cells [(.func (.func 47) #[] #[.pointer (some ⟨bo, 0, none⟩)])].toArray 92)) := ((Below.refl X.heap.size X).alloc (Nat.le_refl _) _).alloc (by simp) _
  have hz : ((X.alloc (.cells (kC p).toArray 39)).alloc (.cells [(.func (.func 47) #[] #[.pointer (some ⟨bo, 0, none⟩)])].toArray 92)).heap.size = X.heap.size + 2 := by simp
  have hw := walk_le (g := fun k => pre p k || pre k p) t
  have hS : Took6 bo (X.heap.size + 2) ((X.alloc (.cells (kC p).toArray 39)).alloc (.cells [(.func (.func 47) #[] #[.pointer (some ⟨bo, 0, none⟩)])].toArray 92)) [] ((X.alloc (.cells (kC p).toArray 39)).alloc (.cells [(.func (.func 47) #[] #[.pointer (some ⟨bo, 0, none⟩)])].toArray 92)) := ⟨⟨_, blk_kept hbo hB, World.ownsRow_nil _ _ _ _⟩, by rw [hz]; exact Nat.le_refl _, fun j _ _ => rfl, Below.refl _ _⟩
  have hT := Took6.tak (bo := bo) (base := X.heap.size + 2) (by omega) ((X.alloc (.cells (kC p).toArray 39)).alloc (.cells [(.func (.func 47) #[] #[.pointer (some ⟨bo, 0, none⟩)])].toArray 92)) (BxU p (.func (.func 47) #[] #[.pointer (some ⟨bo, 0, none⟩)]) X.heap.size) (fun l W h => by
    obtain ⟨_, _, h4, _⟩ := h
    refine ⟨(h4 X.heap.size (by omega) (by omega)).trans (blk_alloc (blk_new X _) _), (h4 (X.heap.size + 1) (by omega) (by omega)).trans ?_⟩
    have := blk_new (X.alloc (.cells (kC p).toArray 39)) (.cells [(.func (.func 47) #[] #[.pointer (some ⟨bo, 0, none⟩)])].toArray 92)
    rwa [show (X.alloc (.cells (kC p).toArray 39)).heap.size = X.heap.size + 1 by simp] at this)
  refine (under_anyN p hp t hok [] X hS (by simp only [List.length_nil]; omega) hT).mono ?_
  rintro e w' ⟨rfl, ⟨vs, g1, g2⟩, g3, g4, g5⟩
  rw [List.nil_append] at g2
  exact ⟨rfl, vs, g1, own_monoT g2 (by omega), fun j hj hne => (g4 j (by omega) hne).trans (hB.block j hj), (hB.mono (Nat.le_of_lt hl)).trans g5, by omega⟩
end Go.Proofs.Ytenahbdopgmpfaa
