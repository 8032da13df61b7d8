/-
  place; what a map and a line have in common; mtu.
  What a map and a line have in common; mtu.
-/
import Derived.Test.YtgndiblonhgihaaFold12
namespace Go.Proofs.Ytgndiblonhgihaa
open Go Go.RowKit
set_option linter.unusedVariables false
set_option linter.unusedSimpArgs false

theorem entersP {P : Program} {f : FuncId} {fn : Func} {b : Code} (hf : P.funcs[f]? = some fn) (hname : (fn.name == "runtime.NumGoroutine") = false) (hb : fn.body = some b) : ∀ args w, (callFunc f args).run P w = .ok (.enter f args) w := by
  intro args w
  have h1 : fn.name ≠ "runtime.NumGoroutine" := by simpa using hname
  simp [callFunc, hf, h1, hb]
abbrev cE (x y : PE × Nat) : Int := cmpE x.1.u x.1.k y.1.u y.1.k
/-- A line in order. -/
def SortE (L : List (PE × Nat)) : Prop := ∀ (i j : Nat) (x y : PE × Nat), i < j → L[i]? = some x → L[j]? = some y → cE x y = -1
theorem cE_neg {x y : PE × Nat} (h : ¬ 0 ≤ cE x y) : cE x y = -1 := by
  rcases cmpE_vals x.1.u x.1.k y.1.u y.1.k with g | g | g <;> (unfold cE at h ⊢; omega)
def plcB (L : List (PE × Nat)) (y : PE × Nat) (i : Nat) : Bool := match L[i]? with | some x => decide (cE x y ≥ 0) | none => true
theorem plcB_mono {L : List (PE × Nat)} (hs : SortE L) (y : PE × Nat) : ∀ a b, a ≤ b → b < L.length → plcB L y a = true → plcB L y b = true := by
  intro a b hab hb ha
  obtain ⟨xa, hxa⟩ : ∃ x, L[a]? = some x := ⟨_, List.getElem?_eq_getElem (by omega)⟩
  obtain ⟨xb, hxb⟩ : ∃ x, L[b]? = some x := ⟨_, List.getElem?_eq_getElem (by omega)⟩
  unfold plcB at ha ⊢
  rw [hxa] at ha
  rw [hxb]
  simp only [decide_eq_true_eq] at ha ⊢
  by_cases e : a = b
  · subst e
    rw [hxa] at hxb
    injection hxb with hxb
    subst hxb
    exact ha
  · have h1 := hs a b xa xb (by omega) hxa hxb
    by_cases h2 : 0 ≤ cE xb y
    · exact h2
    · have h3 := cE_neg h2
      have h4 : cE xa y = -1 := cmpE_trans h1 h3
      rw [h4] at ha
      omega
/-- Where an entry stands in a line, or would. -/
def Stands (L : List (PE × Nat)) (y : PE × Nat) (k : Nat) : Prop := k ≤ L.length ∧ (∀ i x, i < k → L[i]? = some x → cE x y = -1) ∧ (∀ i x, k ≤ i → L[i]? = some x → 0 ≤ cE x y)
set_option maxHeartbeats 4000000 in
set_option maxRecDepth 100000 in
theorem place_any {V : World} {pb mb : Nat} {cf : Cf} {now : Int} {line : Value} {L : List (PE × Nat)} (h : Paths pb cf now mb line L V) (hs : SortE L) (hl : L.length ≤ 1000000) {y : PE × Nat} (hy : y.1.Ok ∧ PE.At V y) :
    Calls Try.prog 42 #[.pointer (some ⟨pb, 0, none⟩), .pointer (some ⟨y.2, 0, none⟩)] V fun e w' => ∃ k : Nat, e = .returned (.int .i64 (k : Int)) ∧ Stands L y k ∧ Below V.heap.size V w' := by
  generalize hQ : (fun (e : Ending) (w' : World) => ∃ k : Nat, e = .returned (.int .i64 (k : Int)) ∧ Stands L y k ∧ Below V.heap.size V w') = Q
  have HQ : Hid (∀ e w', (∃ k : Nat, e = .returned (.int .i64 (k : Int)) ∧ Stands L y k ∧ Below V.heap.size V w') → Q e w') := fun e w' hh => by rw [← hQ]; exact hh
  clear hQ
  obtain ⟨W1, hW1⟩ : ∃ W1, W1 = (V.alloc (.cells [Value.pointer (some ⟨pb, 0, none⟩)].toArray 50)).alloc (.cells [Value.pointer (some ⟨y.2, 0, none⟩)].toArray 74) := ⟨_, rfl⟩
  have hs1 : W1.heap.size = V.heap.size + 1 + 1 := by rw [hW1]; simp
  have hB1 : Below V.heap.size V W1 := by rw [hW1]; exact ((Below.refl V.heap.size V).alloc (Nat.le_refl _) _).alloc (by simp) _
  have hx1 : W1.heap[V.heap.size]? = some (.cells [Value.pointer (some ⟨pb, 0, none⟩)].toArray 50) := by rw [hW1]; exact blk_alloc (blk_new V _) _
  have hx2 : W1.heap[V.heap.size + 1]? = some (.cells [Value.pointer (some ⟨y.2, 0, none⟩)].toArray 74) := by
    have := blk_new (V.alloc (.cells [Value.pointer (some ⟨pb, 0, none⟩)].toArray 50)) (.cells [Value.pointer (some ⟨y.2, 0, none⟩)].toArray 74)
    rw [show (V.alloc (.cells [Value.pointer (some ⟨pb, 0, none⟩)].toArray 50)).heap.size = V.heap.size + 1 by simp] at this
    rw [hW1]; exact this
  have h1 := h.on hB1
  obtain ⟨sa, sc, hsl⟩ := h.slc
  have c1 : W1.cell? ⟨V.heap.size, 0, none⟩ = some (.pointer (some ⟨pb, 0, none⟩)) := blk_cell (j := 0) hx1 rfl
  have c6 : W1.cell? ⟨pb, 6, none⟩ = some (.slice sa L.length sc) := by rw [← hsl]; exact h1.cell 6 _ rfl
  have hS : Calls Try.prog 38 #[.int .i64 (L.length : Int), .func (.func 49) #[] #[.pointer (some ⟨V.heap.size, 0, none⟩), .pointer (some ⟨V.heap.size + 1, 0, none⟩)]] W1 fun e w' => ∃ k : Nat, e = .returned (.int .i64 (k : Int)) ∧ k ≤ L.length ∧ (∀ i, i < k → plcB L y i = false) ∧ (∀ i, k ≤ i → i < L.length → plcB L y i = true) ∧ Below W1.heap.size W1 w' := by
    refine search_any L.length hl 49 #[.pointer (some ⟨V.heap.size, 0, none⟩), .pointer (some ⟨V.heap.size + 1, 0, none⟩)] (plcB L y) W1 (entersP Try.func49 (by kernel_rfl) rfl) ?_ (plcB_mono hs y)
    intro X hX i hi
    obtain ⟨x, hx⟩ : ∃ x, L[i]? = some x := ⟨_, List.getElem?_eq_getElem hi⟩
    have hp : plcB L y i = decide (cE x y ≥ 0) := by unfold plcB; rw [hx]
    rw [hp]
    exact place1_calls (h1.on hX) ((hX.block _ (by omega)).trans hx1) (y := y) ((hX.block _ (by omega)).trans hx2) ⟨hy.1, (hy.2.on (hB1.block _ hy.2.lt)).on (hX.block _ (by have := hy.2.lt; omega))⟩ hx
  have HS : Hid _ := hS
  have HB1 : Hid (Below V.heap.size V W1) := hB1
  have HS1 : Hid (W1.heap.size = V.heap.size + 1 + 1) := hs1
  have hW := hW1.symm
  clear hW1 hs1 hB1 hx1 hx2 h1 hS hsl h hs hl hy
  go_enter Try.func42, Try.ntmps42
  go_wp2_with fail
  refine Calls.mono HS.out ?_
  rintro e w2 ⟨k, rfl, hk, hlo, hhi, hb⟩
  have HF : Hid (Stands L y k) := by
    refine ⟨hk, fun i x hi hx => ?_, fun i x hi hx => ?_⟩
    · have := hlo i hi
      unfold plcB at this
      rw [hx] at this
      simp only [decide_eq_false_iff_not] at this
      exact cE_neg this
    · have := hhi i hi (List.getElem?_eq_some_iff.1 hx).1
      unfold plcB at this
      rw [hx] at this
      simpa using this
  have HB : Hid (Below V.heap.size V w2) := HB1.out.trans (hb.mono HB1.out.size)
  clear hlo hhi hb hk c1 c6 hW
  go_wp2_with fail
  try go_returns
  exact HQ.out _ _ ⟨k, rfl, HF.out, HB.out⟩
end Go.Proofs.Ytgndiblonhgihaa

namespace Go.Proofs.Ytgndiblonhgihaa
open Go Go.RowKit
set_option linter.unusedVariables false
set_option linter.unusedSimpArgs false

theorem fnd_some {d : List Int} : ∀ {M : List (List Int × Nat)} {i : Nat} {r : Nat × Nat}, fnd d M i = some r → ∃ j, r.1 = i + j ∧ M[j]? = some (d, r.2)
  | [], i, r, h => by simp [fnd] at h
  | x :: M, i, r, h => by
    unfold fnd at h
    by_cases c : d = x.1
    · rw [if_pos c] at h
      injection h with h
      subst h
      exact ⟨0, rfl, by rw [c]; rfl⟩
    · rw [if_neg c] at h
      obtain ⟨j, h1, h2⟩ := fnd_some h
      exact ⟨j + 1, by omega, by simpa using h2⟩
theorem fnd_none {d : List Int} : ∀ {M : List (List Int × Nat)} {i : Nat}, fnd d M i = none → ∀ x ∈ M, x.1 ≠ d
  | [], _, _, x, hx => by simp at hx
  | y :: M, i, h, x, hx => by
    unfold fnd at h
    by_cases c : d = y.1
    · rw [if_pos c] at h
      simp at h
    · rw [if_neg c] at h
      rcases List.mem_cons.1 hx with rfl | hx
      · exact fun e => c e.symm
      · exact fnd_none h x hx
/-- A map holds the entries of a line by their addresses. -/
structure MapL (M : List (List Int × Nat)) (L : List (PE × Nat)) : Prop where
  mem : ∀ d q, (d, q) ∈ M ↔ ∃ x ∈ L, x.1.k = d ∧ x.2 = q
  nd : (M.map (·.1)).Nodup
/-- No address has two entries. -/
def KD (L : List (PE × Nat)) : Prop := ∀ x ∈ L, ∀ y ∈ L, x.1.k = y.1.k → x = y
theorem MapL.keys {M : List (List Int × Nat)} {L : List (PE × Nat)} (h : MapL M L) (hk : ∀ x ∈ L, x.1.Ok) : ∀ x ∈ M, K16 x.1 := by
  intro x hx
  obtain ⟨y, hy, h1, h2⟩ := (h.mem x.1 x.2).1 hx
  rw [← h1]
  exact ⟨(hk y hy).1, (hk y hy).2⟩
theorem MapL.found {M : List (List Int × Nat)} {L : List (PE × Nat)} (h : MapL M L) {d : List Int} {r : Nat × Nat} (hr : fnd d M 0 = some r) : ∃ x ∈ L, x.1.k = d ∧ x.2 = r.2 := by
  obtain ⟨j, h1, h2⟩ := fnd_some hr
  exact (h.mem d r.2).1 (List.mem_of_getElem? h2)
theorem MapL.lacks {M : List (List Int × Nat)} {L : List (PE × Nat)} (h : MapL M L) {d : List Int} (hr : fnd d M 0 = none) : ∀ x ∈ L, x.1.k ≠ d := by
  intro x hx e
  exact fnd_none hr (d, x.2) ((h.mem d x.2).2 ⟨x, hx, e, rfl⟩) rfl
theorem MapL.none {M : List (List Int × Nat)} {L : List (PE × Nat)} (h : MapL M L) {d : List Int} (hn : ∀ x ∈ L, x.1.k ≠ d) : fnd d M 0 = none := by
  cases hr : fnd d M 0 with
  | none => rfl
  | some r =>
    obtain ⟨x, hx, h1, _⟩ := h.found hr
    exact absurd h1 (hn x hx)
theorem nd_erase {α : Type} [DecidableEq α] : ∀ {l : List α} {j : Nat} {a : α}, l.Nodup → l[j]? = some a → ∀ b, b ∈ l.eraseIdx j ↔ b ∈ l ∧ b ≠ a
  | [], j, a, _, h, b => by simp at h
  | x :: l, 0, a, hn, h, b => by
    simp at h
    subst h
    have := (List.nodup_cons.1 hn).1
    simp only [List.eraseIdx_cons_zero, List.mem_cons]
    constructor
    · intro hb
      exact ⟨.inr hb, fun e => this (e ▸ hb)⟩
    · rintro ⟨rfl | hb, hne⟩
      · exact absurd rfl hne
      · exact hb
  | x :: l, j + 1, a, hn, h, b => by
    have h1 := List.nodup_cons.1 hn
    have ih := nd_erase h1.2 (by simpa using h) b
    simp only [List.eraseIdx_cons_succ, List.mem_cons, ih]
    have hxa : x ≠ a := fun e => h1.1 (e ▸ List.mem_of_getElem? (by simpa using h))
    constructor
    · rintro (rfl | ⟨h2, h3⟩)
      · exact ⟨.inl rfl, hxa⟩
      · exact ⟨.inr h2, h3⟩
    · rintro ⟨rfl | h2, h3⟩
      · exact .inl rfl
      · exact .inr ⟨h2, h3⟩
theorem nd_sub : ∀ {l : List (List Int × Nat)} (j : Nat), (l.map (·.1)).Nodup → ((l.eraseIdx j).map (·.1)).Nodup := by
  intro l j h
  exact List.Sublist.nodup ((List.eraseIdx_sublist l j).map _) h
theorem nd_pair {l : List (List Int × Nat)} (h : (l.map (·.1)).Nodup) : l.Nodup := List.Pairwise.of_map (fun x : List Int × Nat => x.1) (fun a b h e => h (by rw [e])) h
theorem nd_key {l : List (List Int × Nat)} (h : (l.map (·.1)).Nodup) {x y : List Int × Nat} (hx : x ∈ l) (hy : y ∈ l) (e : x.1 = y.1) : x = y := by
  induction l with
  | nil => simp at hx
  | cons z l ih =>
    simp only [List.map_cons, List.nodup_cons] at h
    rcases List.mem_cons.1 hx with ex | hx
    · rcases List.mem_cons.1 hy with ey | hy
      · rw [ex, ey]
      · exact absurd (List.mem_map.2 ⟨y, hy, by rw [← e, ex]⟩) h.1
    · rcases List.mem_cons.1 hy with ey | hy
      · exact absurd (List.mem_map.2 ⟨x, hx, by rw [e, ey]⟩) h.1
      · exact ih h.2 hx hy
/-- An entry goes. -/
theorem MapL.drop {M : List (List Int × Nat)} {L L' : List (PE × Nat)} (h : MapL M L) {d : List Int} {r : Nat × Nat} (hr : fnd d M 0 = some r) (hL : ∀ x, x ∈ L' ↔ x ∈ L ∧ x.1.k ≠ d) : MapL (M.eraseIdx r.1) L' := by
  obtain ⟨j, h1, h2⟩ := fnd_some hr
  rw [show r.1 = j by omega]
  refine ⟨fun d' q' => ?_, nd_sub j h.nd⟩
  rw [nd_erase (nd_pair h.nd) h2, h.mem]
  constructor
  · rintro ⟨⟨x, hx, e1, e2⟩, hne⟩
    refine ⟨x, (hL x).2 ⟨hx, fun e => hne ?_⟩, e1, e2⟩
    exact nd_key h.nd ((h.mem d' q').2 ⟨x, hx, e1, e2⟩) (List.mem_of_getElem? h2) (by rw [← e1, e])
  · rintro ⟨x, hx, e1, e2⟩
    have h3 := (hL x).1 hx
    refine ⟨⟨x, h3.1, e1, e2⟩, fun e => h3.2 ?_⟩
    rw [e1]
    exact congrArg (·.1) e
/-- An entry comes. -/
theorem MapL.put {M : List (List Int × Nat)} {L L' : List (PE × Nat)} (h : MapL M L) {y : PE × Nat} (hn : ∀ x ∈ L, x.1.k ≠ y.1.k) (hL : ∀ x, x ∈ L' ↔ x ∈ L ∨ x = y) : MapL (M ++ [(y.1.k, y.2)]) L' := by
  refine ⟨fun d q => ?_, ?_⟩
  · rw [List.mem_append, h.mem]
    constructor
    · rintro (⟨x, hx, e1, e2⟩ | hm)
      · exact ⟨x, (hL x).2 (.inl hx), e1, e2⟩
      · simp only [List.mem_singleton, Prod.mk.injEq] at hm
        exact ⟨y, (hL y).2 (.inr rfl), hm.1.symm, hm.2.symm⟩
    · rintro ⟨x, hx, e1, e2⟩
      rcases (hL x).1 hx with hx | rfl
      · exact .inl ⟨x, hx, e1, e2⟩
      · exact .inr (by simp [e1, e2])
  · rw [List.map_append, List.nodup_append]
    refine ⟨h.nd, by simp, ?_⟩
    intro a ha b hb
    simp at hb
    subst hb
    obtain ⟨z, hz, rfl⟩ := List.mem_map.1 ha
    obtain ⟨x, hx, e1, e2⟩ := (h.mem z.1 z.2).1 hz
    intro e
    exact hn x hx (e1.trans e)
theorem CellsAt.blkP {w : World} {b : Nat} {c : List Value} {t : TypeId} (h : w.heap[b]? = some (.cells c.toArray t)) : CellsAt w b 0 c := fun j v hj => by
  rw [Nat.zero_add]
  exact blk_cell h hj
/-- What is known of a path. -/
def mtuL (cf : Cf) (L : List (PE × Nat)) (d : List Int) : Int := match L.find? (fun x => decide (x.1.k = d)) with | some x => x.1.m | none => cf.link
theorem mtuL_in {cf : Cf} {L : List (PE × Nat)} (h : KD L) {x : PE × Nat} (hx : x ∈ L) : mtuL cf L x.1.k = x.1.m := by
  unfold mtuL
  cases hf : L.find? (fun y => decide (y.1.k = x.1.k)) with
  | none =>
    have := List.find?_eq_none.1 hf x hx
    simp at this
  | some y =>
    have h1 := List.find?_some hf
    have h2 := List.mem_of_find?_eq_some hf
    simp at h1
    rw [h y h2 x hx h1]
theorem mtuL_out {cf : Cf} {L : List (PE × Nat)} {d : List Int} (h : ∀ x ∈ L, x.1.k ≠ d) : mtuL cf L d = cf.link := by
  unfold mtuL
  cases hf : L.find? (fun y => decide (y.1.k = d)) with
  | none => rfl
  | some y =>
    have h1 := List.find?_some hf
    have h2 := List.mem_of_find?_eq_some hf
    simp at h1
    exact absurd h1 (h y h2)
theorem ex_lookM {o : Oper} {a : Act} {W : World} (p q : Operand) (hop : o.op = Op.lookup 61 p q false) {vp vq v : Value} (hp : a.eval p = vp) (hq : a.eval q = vq) (h : (Instr.lookup 61 vp vq false).run Try.prog W = .ok v W) : (execOp a.eval o).run Try.prog W = .ok (.value v) W := by
  generalize a.eval = ev at *
  simp [execOp, hop, hp, hq, h, Result.andThen]
set_option maxHeartbeats 8000000 in
set_option maxRecDepth 100000 in
theorem mtu_any {V : World} {pb mb : Nat} {cf : Cf} {now : Int} {line : Value} {L : List (PE × Nat)} {M : List (List Int × Nat)} (h : Paths pb cf now mb line L V) (hm : MapAt V mb M) (hML : MapL M L) (hk : KD L) {d : List Int} (hd : K16 d) :
    Calls Try.prog 29 #[.pointer (some ⟨pb, 0, none⟩), .agg (u8s d).toArray] V fun e w' => e = .returned (.int .i64 (mtuL cf L d)) ∧ Below V.heap.size V w' := by
  generalize hQ : (fun (e : Ending) (w' : World) => e = .returned (.int .i64 (mtuL cf L d)) ∧ Below V.heap.size V w') = Q
  have HQ : Hid (∀ e w', (e = .returned (.int .i64 (mtuL cf L d)) ∧ Below V.heap.size V w') → Q e w') := fun e w' hh => by rw [← hQ]; exact hh
  clear hQ
  have HK := hML.keys (fun x hx => (h.ents x hx).1)
  obtain ⟨W1, hW1⟩ : ∃ W1, W1 = V.alloc (.cells (u8s d).toArray 35) := ⟨_, rfl⟩
  have hs1 : W1.heap.size = V.heap.size + 1 := by rw [hW1]; simp
  have hB1 : Below V.heap.size V W1 := by rw [hW1]; exact (Below.refl V.heap.size V).alloc (Nat.le_refl _) _
  have hx1 : W1.heap[V.heap.size]? = some (.cells (u8s d).toArray 35) := by rw [hW1]; exact blk_new V _
  have h1 := h.on hB1
  have m1 := hm.on (hB1.block _ hm.lt)
  have hW := hW1.symm
  clear hW1
  go_enter Try.func29, Try.ntmps29
  go_wp2_with fail
  clear hW
  refine wp_region_held (S := fun X => Below W1.heap.size W1 X) (by kernel_rfl) ?_
  show wpAnyH _ _ _ _ _ 7 (Array.replicate 7 false) _ W1.drew
  have s0 : Below W1.heap.size W1 W1.drew := (Below.refl _ W1).drew
  generalize W1.drew = V0 at *
  refine take_one (i := 0) (d := some 6) (v := .pointer (some ⟨pb, 0, none⟩)) rfl rfl rfl (by kernel_rfl) (by kernel_rfl) (by kernel_rfl) (fun _ _ d _ _ h => by cases d <;> exact h) (fun W hS => by kernel_rfl) s0 ?_
  simp only [Act.put, List.setIfInBounds_toArray, List.set_cons_zero, List.set_cons_succ]
  refine take_one (i := 1) (d := some 7) (v := .pointer (some ⟨pb, 0, none⟩)) rfl rfl rfl (by kernel_rfl) (by kernel_rfl) (by kernel_rfl) (fun _ _ d _ _ h => by cases d <;> exact h) (fun W hS => by kernel_rfl) s0 ?_
  simp only [Act.put, List.setIfInBounds_toArray, List.set_cons_zero, List.set_cons_succ]
  refine take_one (i := 2) (d := some 8) (v := .pointer (some ⟨pb, 5, none⟩)) rfl rfl rfl (by kernel_rfl) (by kernel_rfl) (by kernel_rfl) (fun _ _ d _ _ h => by cases d <;> exact h) (fun W hS => by kernel_rfl) s0 ?_
  simp only [Act.put, List.setIfInBounds_toArray, List.set_cons_zero, List.set_cons_succ]
  refine take_one (i := 3) (d := some 9) (v := .map (some mb)) rfl rfl rfl (by kernel_rfl) (by kernel_rfl) (by kernel_rfl) (fun _ _ d _ _ h => by cases d <;> exact h) (fun W hS => ex_loadA (.tmp 8) 61 rfl rfl (ld_map ((h1.on hS).cell 5 _ rfl))) s0 ?_
  simp only [Act.put, List.setIfInBounds_toArray, List.set_cons_zero, List.set_cons_succ]
  refine take_one (i := 4) (d := some 10) (v := .agg (u8s d).toArray) rfl rfl rfl (by kernel_rfl) (by kernel_rfl) (by kernel_rfl) (fun _ _ d _ _ h => by cases d <;> exact h) (fun W hS => ex_loadA (.tmp 3) 35 rfl rfl (load6 hd.len (CellsAt.blkP (c := u8s d) (t := 35) ((hS.block _ (by omega)).trans hx1)))) s0 ?_
  simp only [Act.put, List.setIfInBounds_toArray, List.set_cons_zero, List.set_cons_succ]
  refine take_one (i := 5) (d := some 11) (v := ptrF d M) rfl rfl rfl (by kernel_rfl) (by kernel_rfl) (by kernel_rfl) (fun _ _ d _ _ h => by cases d <;> exact h) (fun W hS => ex_lookM (.tmp 9) (.tmp 10) rfl rfl rfl (look16 hd (m1.on (hS.block _ m1.lt)) HK)) s0 ?_
  simp only [Act.put, List.setIfInBounds_toArray, List.set_cons_zero, List.set_cons_succ]
  refine take_one (i := 6) (d := some 5) (v := ptrF d M) rfl rfl rfl (by kernel_rfl) (by kernel_rfl) (by kernel_rfl) (fun _ _ d _ _ h => by cases d <;> exact h) (fun W hS => by kernel_rfl) s0 ?_
  simp only [Act.put, List.setIfInBounds_toArray, List.set_cons_zero, List.set_cons_succ]
  refine wpAnyH_done (by kernel_rfl) ?_ _
  have HB : Hid (Below V.heap.size V V0) := hB1.trans (s0.mono hB1.size)
  have h2 := h1.on s0
  cases hr : fnd d M 0 with
  | none =>
    have hp : ptrF d M = .pointer none := by unfold ptrF; rw [hr]
    have hv := mtuL_out (cf := cf) (hML.lacks hr)
    have hc := h2.cell 1 _ rfl
    rw [hp]
    rw [hv] at HQ
    clear hp hv hr h2 h1 m1 s0 hB1 hx1 HK h hm hML hk
    go_wp2_with fail
    try go_returns
    exact HQ.out _ _ ⟨rfl, HB.out⟩
  | some r =>
    obtain ⟨x, hx, e1, e2⟩ := hML.found hr
    have hp : ptrF d M = .pointer (some ⟨x.2, 0, none⟩) := by unfold ptrF; rw [hr, e2]
    have hv := mtuL_in (cf := cf) hk hx
    rw [e1] at hv
    have hc := (h2.ents x hx).2.mtu (h2.ents x hx).1.2
    rw [hp]
    rw [hv] at HQ
    clear hp hv hr h2 h1 m1 s0 hB1 hx1 HK h hm hML hk e1 e2 hx
    go_wp2_with fail
    try go_returns
    exact HQ.out _ _ ⟨rfl, HB.out⟩
end Go.Proofs.Ytgndiblonhgihaa
