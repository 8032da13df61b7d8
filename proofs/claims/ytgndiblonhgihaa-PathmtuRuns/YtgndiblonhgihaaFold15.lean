/-
  forget of nothing; goOn.
  goOn: the time goes on.
-/
import Derived.Test.YtgndiblonhgihaaFold14
namespace Go.Proofs.Ytgndiblonhgihaa
open Go Go.RowKit Go.Lib
set_option linter.unusedVariables false
set_option linter.unusedSimpArgs false

theorem Fr.trans {pb mb : Nat} {l1 l2 : Value} {A B C : World} (h : Fr pb mb l1 A B) (g : Fr pb mb l2 B C) (hl : l2.ownBlock = l1.ownBlock) : Fr pb mb l1 A C :=
  ⟨g.os.trans h.os, g.tape.trans h.tape, g.output.trans h.output, Nat.le_trans h.size g.size, fun k hk h1 h2 h3 => (g.other k (Nat.lt_of_lt_of_le hk h.size) h1 h2 (by rw [hl]; exact h3)).trans (h.other k hk h1 h2 h3)⟩
theorem Fr.below {pb mb : Nat} {l : Value} {A B : World} (h : Below A.heap.size A B) : Fr pb mb l A B := ⟨h.os, h.tape, h.output, h.size, fun k hk _ _ _ => h.block k hk⟩
theorem Keeps.on {pb mb : Nat} {cf : Cf} {now : Int} {line : Value} {L : List (PE × Nat)} {W W' : World} (h : Keeps pb cf now mb line L W) (hb : Below W.heap.size W W') : Keeps pb cf now mb line L W' := by
  obtain ⟨M, h1, h2⟩ := h.m
  exact ⟨h.p.on hb, ⟨M, h1.on (hb.block _ h1.lt), h2⟩, h.kn⟩
set_option maxHeartbeats 4000000 in
set_option maxRecDepth 100000 in
theorem forget_none {V : World} {pb mb : Nat} {cf : Cf} {now : Int} {line : Value} {L : List (PE × Nat)} (h : Keeps pb cf now mb line L V) {i : Nat} (hi : i ≤ L.length) :
    Calls Try.prog 37 #[.pointer (some ⟨pb, 0, none⟩), .int .i64 (i : Int), .int .i64 (i : Int)] V fun e w' => e = .returned (.tuple #[]) ∧ Keeps pb cf now mb line L w' ∧ Fr pb mb line V w' ∧ w'.heap.size = V.heap.size := by
  generalize hQ : (fun (e : Ending) (w' : World) => e = .returned (.tuple #[]) ∧ Keeps pb cf now mb line L w' ∧ Fr pb mb line V w' ∧ w'.heap.size = V.heap.size) = Q
  have HQ : Hid (∀ e w', (e = .returned (.tuple #[]) ∧ Keeps pb cf now mb line L w' ∧ Fr pb mb line V w' ∧ w'.heap.size = V.heap.size) → Q e w') := fun e w' hh => by rw [← hQ]; exact hh
  clear hQ
  obtain ⟨la, lc, hline⟩ := h.p.slc
  have hsl : ∃ a' c', ∀ w : World, (Instr.sliceAt 62 (.slice la L.length lc) (some (.int .i64 i)) (some (.int .i64 i)) none).run Try.prog w = .ok (.slice a' 0 c') w := by
    rcases h.p.row.2 with ⟨h1, h0⟩ | ⟨g, cap, cur, hv, _, _, h3, h4, _⟩
    · rw [hline] at h1
      injection h1 with e1 e2 e3
      subst e1 e3
      obtain rfl : i = 0 := by omega
      rw [h0]
      exact ⟨none, 0, fun w => by simp [Instr.sliceAt, go_sem]⟩
    · rw [hline] at hv
      injection hv with e1 e2 e3
      subst e1 e3
      have h5 : (0 : Int) ≤ i := by omega
      by_cases hc : lc = i
      · exact ⟨some ⟨g, 0, none⟩, 0, fun w => by simp [Instr.sliceAt, go_sem, h5, hc, hi]⟩
      · refine ⟨some ⟨g, i, none⟩, lc - i, fun w => ?_⟩
        have h6 : i ≤ lc := by omega
        simp [Instr.sliceAt, go_sem, h5, hc, hi, h6]
  obtain ⟨a', c', hsl⟩ := hsl
  have HD := del_none h.p.row hi
  have b0 := h.p.box
  rw [hline] at HD b0
  have c6 : V.cell? ⟨pb, 6, none⟩ = some (.slice la L.length lc) := blk_cell (j := 6) b0 rfl
  have f6 : V.frozen? ⟨pb, 6, none⟩ = false := blk_open b0 6
  obtain ⟨w3, hw3⟩ : ∃ w3, w3 = V.setCell ⟨pb, 6, none⟩ (.slice la L.length lc) := ⟨_, rfl⟩
  have b3 : w3.heap[pb]? = V.heap[pb]? := by rw [hw3, b0]; exact blk_set b0 6 _
  have o3 : Only pb V w3 := by rw [hw3]; exact (Only.refl pb V).set 6 _
  have hall : ∀ k, w3.heap[k]? = V.heap[k]? := fun k => by
    by_cases hk : k = pb
    · rw [hk]; exact b3
    · exact o3.other k hk
  have HF : Hid (Keeps pb cf now mb line L w3 ∧ Fr pb mb line V w3 ∧ w3.heap.size = V.heap.size) := by
    obtain ⟨M, h1, h2⟩ := h.m
    exact ⟨⟨h.p.same (hall _) (fun b _ => hall b) (fun x _ => hall _), ⟨M, h1.on (hall _), h2⟩, h.kn⟩, ⟨o3.os, o3.tape, o3.output, by rw [o3.size]; exact Nat.le_refl _, fun k _ _ _ _ => hall k⟩, o3.size⟩
  have HD : Hid _ := HD
  have hw := hw3.symm
  have HSL : Hid _ := hsl
  have hil : i ≤ L.length := hi
  have hmax : lc ≤ 9223372036854775807 ∧ L.length ≤ lc := by
    rcases h.p.row.2 with ⟨h1, h0⟩ | ⟨g, cap, cur, hv, _, _, h3, h4, _⟩
    · rw [hline] at h1
      injection h1 with e1 e2 e3
      omega
    · rw [hline] at hv
      injection hv with e1 e2 e3
      unfold maxLen at h4
      omega
  obtain ⟨hm1, hm2⟩ := hmax
  clear hw3 b0 b3 o3 hall h hline hi
  go_enter Try.func37, Try.ntmps37
  go_wp2_with first
    | ((with_reducible show wpList _ _ _ ({ dst := _, op := Op.slice 62 _ _ _ none, type := _, pos := _, after := _, guard := _ } :: _) _ _); refine wpList_plain rfl fun K hK => ?_; unfold Oper.wp; rw [ex_slcE (.tmp 11) (some (.tmp 12)) (some (.tmp 13)) rfl rfl rfl rfl (hsl _)]; refine hK _ _ ?_)
  go_loopw [16] (fun iv wr => iv = .int .i64 0 ∧ wr = V) (fun _ _ => 0)
  case atStart => exact ⟨rfl, rfl⟩
  case round =>
    obtain ⟨rfl, rfl⟩ := hrel
    go_wp2_with fail
    refine Calls.mono HD.out ?_
    rintro e w2 ⟨rfl, rfl⟩
    go_wp2_with fail
    try go_returns
    first
    | exact HQ.out _ _ ⟨rfl, HF.out⟩
    | (rw [hw]; exact HQ.out _ _ ⟨rfl, HF.out⟩)
theorem forget_any {V : World} {pb mb : Nat} {cf : Cf} {now : Int} {line : Value} {L : List (PE × Nat)} (h : Keeps pb cf now mb line L V) {i j : Nat} (hij : i ≤ j) (hj : j ≤ L.length) :
    Calls Try.prog 37 #[.pointer (some ⟨pb, 0, none⟩), .int .i64 (i : Int), .int .i64 (j : Int)] V fun e w' => e = .returned (.tuple #[]) ∧ ∃ line', Keeps pb cf now mb line' (L.take i ++ L.drop j) w' ∧ line'.ownBlock = line.ownBlock ∧ Fr pb mb line V w' ∧ w'.heap.size = V.heap.size := by
  by_cases e : i = j
  · subst e
    refine (forget_none h hj).mono ?_
    rintro e w' ⟨rfl, h1, h2, h3⟩
    exact ⟨rfl, line, by rw [List.take_append_drop]; exact h1, rfl, h2, h3⟩
  · exact forget_some h (by omega) hj
end Go.Proofs.Ytgndiblonhgihaa

namespace Go.Proofs.Ytgndiblonhgihaa
open Go Go.RowKit Go.Lib
set_option linter.unusedVariables false
set_option linter.unusedSimpArgs false

def ovB (L : List (PE × Nat)) (t : Int) (i : Nat) : Bool := match L[i]? with | some x => decide (x.1.u > t) | none => true
theorem cE_u {x y : PE × Nat} (h : cE x y = -1) : x.1.u ≤ y.1.u := by
  unfold cE cmpE cmpN at h
  by_cases c : x.1.u < y.1.u
  · omega
  · by_cases d : x.1.u > y.1.u
    · simp [c, d] at h
    · omega
theorem ovB_mono {L : List (PE × Nat)} (hs : SortE L) (t : Int) : ∀ a b, a ≤ b → b < L.length → ovB L t a = true → ovB L t b = true := by
  intro a b hab hb ha
  obtain ⟨xa, hxa⟩ : ∃ x, L[a]? = some x := ⟨_, List.getElem?_eq_getElem (by omega)⟩
  obtain ⟨xb, hxb⟩ : ∃ x, L[b]? = some x := ⟨_, List.getElem?_eq_getElem (by omega)⟩
  unfold ovB at ha ⊢
  rw [hxa] at ha
  rw [hxb]
  simp only [decide_eq_true_eq] at ha ⊢
  by_cases e : a = b
  · subst e
    rw [hxa] at hxb
    injection hxb with hxb
    subst hxb
    exact ha
  · have h1 := cE_u (hs a b xa xb (by omega) hxa hxb)
    omega
theorem drop_filter {α : Type} (L : List α) (p : α → Bool) (k : Nat) (h1 : ∀ i x, i < k → L[i]? = some x → p x = false) (h2 : ∀ i x, k ≤ i → L[i]? = some x → p x = true) : L.drop k = L.filter p := by
  conv => rhs; rw [← List.take_append_drop k L]
  rw [List.filter_append]
  have e1 : (L.take k).filter p = [] := by
    rw [List.filter_eq_nil_iff]
    intro x hx
    obtain ⟨i, hi⟩ := List.getElem?_of_mem hx
    rw [List.getElem?_take] at hi
    split at hi
    · rename_i hlt
      rw [h1 i x hlt hi]
      simp
    · simp at hi
  have e2 : (L.drop k).filter p = L.drop k := by
    rw [List.filter_eq_self]
    intro x hx
    obtain ⟨i, hi⟩ := List.getElem?_of_mem hx
    rw [List.getElem?_drop] at hi
    exact h2 (k + i) x (by omega) hi
  rw [e1, e2]
  rfl
/-- The entries that count yet. -/
def live (L : List (PE × Nat)) (t : Int) : List (PE × Nat) := L.filter fun x => decide (x.1.u > t)
theorem live_sub (L : List (PE × Nat)) (t : Int) : (live L t).Sublist L := List.filter_sublist
theorem SortE.drop {L : List (PE × Nat)} (h : SortE L) (k : Nat) : SortE (L.drop k) := by
  intro i j x y hij hx hy
  rw [List.getElem?_drop] at hx hy
  exact h (k + i) (k + j) x y (by omega) hx hy
theorem SortE.cut {L : List (PE × Nat)} (h : SortE L) (k : Nat) : SortE (L.take k ++ L.drop (k + 1)) := by
  have hg : ∀ i, (L.take k ++ L.drop (k + 1))[i]? = if i < k then (if k ≤ L.length then L[i]? else L[i]?) else (if k ≤ L.length then L[i + 1]? else none) := by
    intro i
    by_cases hk : k ≤ L.length
    · rw [if_pos hk, if_pos hk]
      have hl : (L.take k).length = k := by simp; omega
      by_cases hi : i < k
      · rw [if_pos hi, List.getElem?_append_left (by omega), List.getElem?_take, if_pos hi]
      · rw [if_neg hi, List.getElem?_append_right (by omega), hl, List.getElem?_drop]
        congr 1
        omega
    · rw [if_neg hk, if_neg hk, List.take_of_length_le (by omega), List.drop_eq_nil_of_le (by omega), List.append_nil]
      by_cases hi : i < k
      · rw [if_pos hi]
      · rw [if_neg hi, List.getElem?_eq_none (by omega)]
  intro i j x y hij hx hy
  rw [hg] at hx hy
  by_cases hk : k ≤ L.length
  · simp only [if_pos hk] at hx hy
    split at hx <;> split at hy
    · exact h i j x y hij hx hy
    · exact h i (j + 1) x y (by omega) hx hy
    · omega
    · exact h (i + 1) (j + 1) x y (by omega) hx hy
  · simp only [if_neg hk] at hx hy
    split at hx <;> split at hy
    · exact h i j x y hij hx hy
    · simp at hy
    · simp at hx
    · simp at hx
theorem Keeps.now {V : World} {pb mb : Nat} {cf : Cf} {now : Int} {line : Value} {L : List (PE × Nat)} (h : Keeps pb cf now mb line L V) (t : Int) : Keeps pb cf t mb line L (V.setCell ⟨pb, 4, none⟩ (.int .i64 t)) ∧ Fr pb mb line V (V.setCell ⟨pb, 4, none⟩ (.int .i64 t)) ∧ Only pb V (V.setCell ⟨pb, 4, none⟩ (.int .i64 t)) := by
  have o : Only pb V (V.setCell ⟨pb, 4, none⟩ (.int .i64 t)) := (Only.refl pb V).set 4 _
  have hb := blk_set h.p.box 4 (.int .i64 t)
  obtain ⟨M, h1, h2⟩ := h.m
  refine ⟨⟨⟨hb, own_same h.p.row (fun b hb' => o.other b (fun e => h.lp (by rw [← e]; exact hb'))), fun x hx => ⟨(h.p.ents x hx).1, (h.p.ents x hx).2.on (o.other _ (h.ep hx))⟩⟩, ⟨M, h1.on (o.other mb (Ne.symm h.pm)), h2⟩, h.kn⟩, ⟨o.os, o.tape, o.output, by rw [o.size]; exact Nat.le_refl _, fun k _ h3 _ _ => o.other k h3⟩, o⟩
theorem wp_callV {P : Program} {o : Oper} {a : Act} {w : World} {K : Act → World → Prop} {Q : Exit → Act → World → Prop} {R : World → Prop} (f : FuncId) (vs : Array Value)
    (hrun : (execOp a.eval o).run P w = .ok (.enter f vs) w) (hc : Calls P f vs w fun e w' => e = .returned (.tuple #[]) ∧ R w') (hK : ∀ v w2, R w2 → K (a.put o.dst v) w2) : o.wp P a w K Q := by
  unfold Oper.wp
  rw [hrun]
  refine hc.mono ?_
  rintro e w' ⟨rfl, hr⟩
  exact hK _ w' hr
set_option maxHeartbeats 8000000 in
set_option maxRecDepth 100000 in
theorem goOn_any {V : World} {pb mb : Nat} {cf : Cf} {now : Int} {line : Value} {L : List (PE × Nat)} (h : Keeps pb cf now mb line L V) (hs : SortE L) (hl : L.length ≤ 1000000) (t : Int) :
    Calls Try.prog 28 #[.pointer (some ⟨pb, 0, none⟩), .int .i64 t] V fun e w' => e = .returned (.tuple #[]) ∧ ∃ line', Keeps pb cf t mb line' (live L t) w' ∧ line'.ownBlock = line.ownBlock ∧ Fr pb mb line V w' := by
  generalize hQ : (fun (e : Ending) (w' : World) => e = .returned (.tuple #[]) ∧ ∃ line', Keeps pb cf t mb line' (live L t) w' ∧ line'.ownBlock = line.ownBlock ∧ Fr pb mb line V w') = Q
  have HQ : Hid (∀ e w', (e = .returned (.tuple #[]) ∧ ∃ line', Keeps pb cf t mb line' (live L t) w' ∧ line'.ownBlock = line.ownBlock ∧ Fr pb mb line V w') → Q e w') := fun e w' hh => by rw [← hQ]; exact hh
  clear hQ
  obtain ⟨W1, hW1⟩ : ∃ W1, W1 = (V.alloc (.cells [Value.pointer (some ⟨pb, 0, none⟩)].toArray 50)).alloc (.cells [Value.int .i64 t].toArray 3) := ⟨_, rfl⟩
  have hs1 : W1.heap.size = V.heap.size + 1 + 1 := by rw [hW1]; simp
  have hB1 : Below V.heap.size V W1 := by rw [hW1]; exact ((Below.refl V.heap.size V).alloc (Nat.le_refl _) _).alloc (by simp) _
  have hx1 : W1.heap[V.heap.size]? = some (.cells [Value.pointer (some ⟨pb, 0, none⟩)].toArray 50) := by rw [hW1]; exact blk_alloc (blk_new V _) _
  have hx2 : W1.heap[V.heap.size + 1]? = some (.cells [Value.int .i64 t].toArray 3) := by
    have := blk_new (V.alloc (.cells [Value.pointer (some ⟨pb, 0, none⟩)].toArray 50)) (.cells [Value.int .i64 t].toArray 3)
    rw [show (V.alloc (.cells [Value.pointer (some ⟨pb, 0, none⟩)].toArray 50)).heap.size = V.heap.size + 1 by simp] at this
    rw [hW1]; exact this
  have k1 := h.on hB1
  obtain ⟨W2, hW2⟩ : ∃ W2, W2 = W1.setCell ⟨pb, 4, none⟩ (.int .i64 t) := ⟨_, rfl⟩
  have k2 := k1.now t
  rw [← hW2] at k2
  obtain ⟨k2, fr2, o2⟩ := k2
  have c1 : W1.cell? ⟨V.heap.size, 0, none⟩ = some (.pointer (some ⟨pb, 0, none⟩)) := blk_cell (j := 0) hx1 rfl
  have c2 : W1.cell? ⟨V.heap.size + 1, 0, none⟩ = some (.int .i64 t) := blk_cell (j := 0) hx2 rfl
  have c4 : W1.cell? ⟨pb, 4, none⟩ = some (.int .i64 now) := k1.p.cell 4 _ rfl
  have f4 : W1.frozen? ⟨pb, 4, none⟩ = false := blk_open k1.p.box 4
  have hpV := h.p.lt
  have hmV : mb < V.heap.size := by obtain ⟨M, h1, _⟩ := h.m; exact h1.lt
  have y1 : W2.heap[V.heap.size]? = some (.cells [Value.pointer (some ⟨pb, 0, none⟩)].toArray 50) := (o2.other _ (by omega)).trans hx1
  have y2 : W2.heap[V.heap.size + 1]? = some (.cells [Value.int .i64 t].toArray 3) := (o2.other _ (by omega)).trans hx2
  have hS : ∀ X, Below W2.heap.size W2 X → Calls Try.prog 38 #[.int .i64 (L.length : Int), .func (.func 39) #[] #[.pointer (some ⟨V.heap.size, 0, none⟩), .pointer (some ⟨V.heap.size + 1, 0, none⟩)]] X fun e w' => ∃ k : Nat, e = .returned (.int .i64 (k : Int)) ∧ k ≤ L.length ∧ (∀ i, i < k → ovB L t i = false) ∧ (∀ i, k ≤ i → i < L.length → ovB L t i = true) ∧ Below X.heap.size X w' := by
    intro X hX
    refine search_any L.length hl 39 #[.pointer (some ⟨V.heap.size, 0, none⟩), .pointer (some ⟨V.heap.size + 1, 0, none⟩)] (ovB L t) X (entersP Try.func39 (by kernel_rfl) rfl) ?_ (ovB_mono hs t)
    intro Y hY i hi
    obtain ⟨x, hx⟩ : ∃ x, L[i]? = some x := ⟨_, List.getElem?_eq_getElem hi⟩
    have hp : ovB L t i = decide (x.1.u > t) := by unfold ovB; rw [hx]
    rw [hp]
    have hZ : Below W2.heap.size W2 Y := hX.trans (hY.mono hX.size)
    exact over_calls (k2.p.on hZ) ((hZ.block _ (by rw [o2.size]; omega)).trans y1) ((hZ.block _ (by rw [o2.size]; omega)).trans y2) hx
  have HS : Hid _ := hS
  have HK : Hid (Keeps pb cf t mb line L W2) := k2
  have HFR : Hid (Fr pb mb line V W2) := (Fr.below hB1).trans fr2 rfl
  have HY : Hid (W2.heap[V.heap.size]? = some (.cells [Value.pointer (some ⟨pb, 0, none⟩)].toArray 50)) := y1
  have HN : Hid (pb < V.heap.size ∧ mb < V.heap.size ∧ W2.heap.size = V.heap.size + 1 + 1 ∧ ∀ b, line.ownBlock = some b → b < V.heap.size) := ⟨hpV, hmV, by rw [o2.size]; exact hs1, fun b hb => own_lt h.p.row hb⟩
  obtain ⟨la, lc, hline⟩ := h.p.slc
  have hW := hW1.symm
  have hw2 := hW2.symm
  clear hW1 hs1 hB1 hx1 hx2 k1 hW2 k2 fr2 o2 hpV hmV y1 y2 hS h hs hl
  go_enter Try.func28, Try.ntmps28
  go_wp2_with fail
  refine wp_region_held (S := fun X => X.heap[V.heap.size]? = some (.cells [Value.pointer (some ⟨pb, 0, none⟩)].toArray 50)) (by kernel_rfl) ?_
  show wpAnyH _ _ _ _ _ 9 (Array.replicate 9 false) _ W2.drew
  have s0 : W2.drew.heap[V.heap.size]? = some (.cells [Value.pointer (some ⟨pb, 0, none⟩)].toArray 50) := HY.out
  have b0 : Below W2.heap.size W2 W2.drew := (Below.refl _ W2).drew
  generalize W2.drew = V0 at *
  refine take_one (i := 0) (d := some 8) (v := .pointer (some ⟨pb, 0, none⟩)) rfl rfl rfl (by kernel_rfl) (by kernel_rfl) (by kernel_rfl) (fun _ _ d _ _ h => by cases d <;> exact h) (fun W hS => ex_loadA (.tmp 2) 50 rfl rfl (ld_pp (blk_cell (j := 0) hS rfl))) s0 ?_
  simp only [Act.put, List.setIfInBounds_toArray, List.set_cons_zero, List.set_cons_succ]
  refine take_one (i := 1) (d := some 9) (v := .pointer (some ⟨pb, 0, none⟩)) rfl rfl rfl (by kernel_rfl) (by kernel_rfl) (by kernel_rfl) (fun _ _ d _ _ h => by cases d <;> exact h) (fun W hS => ex_loadA (.tmp 2) 50 rfl rfl (ld_pp (blk_cell (j := 0) hS rfl))) s0 ?_
  simp only [Act.put, List.setIfInBounds_toArray, List.set_cons_zero, List.set_cons_succ]
  refine take_one (i := 2) (d := some 10) (v := .pointer (some ⟨pb, 0, none⟩)) rfl rfl rfl (by kernel_rfl) (by kernel_rfl) (by kernel_rfl) (fun _ _ d _ _ h => by cases d <;> exact h) (fun W hS => by kernel_rfl) s0 ?_
  simp only [Act.put, List.setIfInBounds_toArray, List.set_cons_zero, List.set_cons_succ]
  refine take_one (i := 3) (d := some 11) (v := .pointer (some ⟨pb, 6, none⟩)) rfl rfl rfl (by kernel_rfl) (by kernel_rfl) (by kernel_rfl) (fun _ _ d _ _ h => by cases d <;> exact h) (fun W hS => by kernel_rfl) s0 ?_
  simp only [Act.put, List.setIfInBounds_toArray, List.set_cons_zero, List.set_cons_succ]
  refine take_one (i := 6) (d := some 14) (v := .func (.func 39) #[] #[.pointer (some ⟨V.heap.size, 0, none⟩), .pointer (some ⟨V.heap.size + 1, 0, none⟩)]) rfl rfl rfl (by kernel_rfl) (by kernel_rfl) (by kernel_rfl) (fun _ _ d _ _ h => by cases d <;> exact h) (fun W hS => by kernel_rfl) s0 ?_
  simp only [Act.put, List.setIfInBounds_toArray, List.set_cons_zero, List.set_cons_succ]
  refine all_one (i := 4) (by kernel_rfl) rfl rfl ?_
  refine wp_effX (d := some 12) (v := .slice la L.length lc) (w2 := V0) rfl (ex_loadA (.tmp 11) 62 rfl rfl (ld_row ((HK.out.p.on b0).cell 6 _ (by rw [hline]; rfl)))) ⟨s0, ?_⟩
  simp only [Act.put, List.setIfInBounds_toArray, List.set_cons_zero, List.set_cons_succ]
  refine take_one (i := 5) (d := some 13) (v := .int .i64 (L.length : Int)) rfl rfl rfl (by kernel_rfl) (by kernel_rfl) (by kernel_rfl) (fun _ _ d _ _ h => by cases d <;> exact h) (fun W hS => by kernel_rfl) s0 ?_
  simp only [Act.put, List.setIfInBounds_toArray, List.set_cons_zero, List.set_cons_succ]
  refine all_one (i := 7) (by kernel_rfl) rfl rfl ?_
  refine wp_call (d := some 15) (R := fun v w' => ∃ k : Nat, v = .int .i64 (k : Int) ∧ k ≤ L.length ∧ (∀ i, i < k → ovB L t i = false) ∧ (∀ i, k ≤ i → i < L.length → ovB L t i = true) ∧ Below V0.heap.size V0 w') 38 _ rfl (by kernel_rfl) ((HS.out V0 b0).mono (fun e w' hh => by obtain ⟨k, rfl, hk⟩ := hh; exact ⟨_, rfl, k, rfl, hk⟩)) ?_
  rintro _ X1 ⟨k, rfl, hk, hlo, hhi, hb1⟩
  have b1 : Below W2.heap.size W2 X1 := b0.trans (hb1.mono b0.size)
  have s1 : X1.heap[V.heap.size]? = some (.cells [Value.pointer (some ⟨pb, 0, none⟩)].toArray 50) := (b1.block _ (by have := HN.out; omega)).trans HY.out
  refine ⟨s1, ?_⟩
  simp only [Act.put, List.setIfInBounds_toArray, List.set_cons_zero, List.set_cons_succ]
  refine all_one (i := 8) (by kernel_rfl) rfl rfl ?_
  refine wp_callV (R := fun w' => ∃ line', Keeps pb cf t mb line' (L.take 0 ++ L.drop k) w' ∧ line'.ownBlock = line.ownBlock ∧ Fr pb mb line X1 w' ∧ w'.heap.size = X1.heap.size) 37 _ (by kernel_rfl) (forget_any (i := 0) (HK.out.on b1) (Nat.zero_le _) hk) ?_
  rintro v X2 ⟨line2, k2, l2, f2, z2⟩
  have s2 : X2.heap[V.heap.size]? = some (.cells [Value.pointer (some ⟨pb, 0, none⟩)].toArray 50) := (f2.other _ (by have := HN.out; have := b1.size; omega) (by have := HN.out; omega) (by have := HN.out; omega) (fun e => by have := HN.out.2.2.2 _ e; omega)).trans s1
  refine ⟨s2, ?_⟩
  simp only [Act.put, List.setIfInBounds_toArray, List.set_cons_zero, List.set_cons_succ]
  refine wpAnyH_done (by kernel_rfl) ?_ _
  have hk2 : L.take 0 ++ L.drop k = live L t := by
    rw [List.take_zero, List.nil_append]
    refine drop_filter L _ k (fun i x hi hx => ?_) (fun i x hi hx => ?_)
    · have := hlo i hi
      unfold ovB at this
      rw [hx] at this
      exact this
    · have := hhi i hi (List.getElem?_eq_some_iff.1 hx).1
      unfold ovB at this
      rw [hx] at this
      exact this
  rw [hk2] at k2
  have HF : Hid (∃ line', Keeps pb cf t mb line' (live L t) X2 ∧ line'.ownBlock = line.ownBlock ∧ Fr pb mb line V X2) := ⟨line2, k2, l2, (HFR.out.trans (Fr.below b1) rfl).trans f2 rfl⟩
  clear s0 b0 hlo hhi hb1 b1 s1 k2 l2 f2 z2 s2 hk2 HS HK HFR HY HN hW hw2
  first
  | (try go_returns
     exact HQ.out _ _ ⟨rfl, HF.out⟩)
  | (go_wp2_with fail
     try go_returns
     exact HQ.out _ _ ⟨rfl, HF.out⟩)
end Go.Proofs.Ytgndiblonhgihaa
