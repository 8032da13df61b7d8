/-
  An entry comes: what that is plainly; operations of put by hand.
-/
import Derived.Test.YtgndiblonhgihaaPnD
namespace Go.Proofs.Ytgndiblonhgihaa
open Go Go.RowKit Go.Lib
set_option linter.unusedVariables false
set_option linter.unusedSimpArgs false

theorem take_wT {d : Option Nat} {P : Program} {ops : Array Oper} {Q : Exit → Act → World → Prop} {md : Region.Mode} {S : World → Prop} {i : Nat} {o : Oper} {v : Value} {fuel : Nat} {listed : Array Bool} {a : Act} {w : World} (hi : ops[i]? = some o) (hw : Region.wanted o (yielded ops a.tmps) = true) (hd : o.dst = d)
    (hs : Region.noSelect ops = true) (hf : Region.free md ops listed i = true) (hr : (Region.ready md ops listed).contains i = true) (hQ : ∀ c (a : Act) d v w, Q (.panic c) (a.put d v) w → Q (.panic c) a w)
    (hy : ∀ w, S w → (execOp a.eval o).run P w = .ok (.value v) w) (hS : S w) (h : wpAnyH P md ops Q S fuel (listed.setIfInBounds i true) (a.put d v) w) : wpAnyH P md ops Q S (fuel + 1) listed a w :=
  wpAnyH_take hi hs hf hr (fun c a w q => hQ c a _ _ w q) (.inl ⟨hw, hy⟩) hS (hd ▸ h)
theorem all_wT {P : Program} {ops : Array Oper} {Q : Exit → Act → World → Prop} {md : Region.Mode} {S : World → Prop} {i : Nat} {o : Oper} {fuel : Nat} {listed : Array Bool} {a : Act} {w : World} (hr : Region.ready md ops listed = [i]) (hi : ops[i]? = some o) (hw : Region.wanted o (yielded ops a.tmps) = true)
    (h : o.wp P a w (fun a' w' => S w' ∧ wpAnyH P md ops Q S fuel (listed.setIfInBounds i true) a' w') Q) : wpAnyH P md ops Q S (fuel + 1) listed a w := by
  refine wpAnyH_all (rs := [i]) hr (by simp) ?_
  intro j hj
  obtain rfl : j = i := by simpa using hj
  unfold wpOp
  rw [hi]
  simp only
  rw [if_pos hw]
  exact .inl h
theorem all_three {P : Program} {ops : Array Oper} {Q : Exit → Act → World → Prop} {md : Region.Mode} {S : World → Prop} {i1 i2 i3 : Nat} {o1 o2 o3 : Oper} {fuel : Nat} {listed : Array Bool} {a : Act} {w : World} (hr : Region.ready md ops listed = [i1, i2, i3]) (h1 : ops[i1]? = some o1) (g1 : o1.guard = none) (h2 : ops[i2]? = some o2) (g2 : o2.guard = none) (h3 : ops[i3]? = some o3) (g3 : o3.guard = none)
    (k1 : o1.wp P a w (fun a' w' => S w' ∧ wpAnyH P md ops Q S fuel (listed.setIfInBounds i1 true) a' w') Q) (k2 : o2.wp P a w (fun a' w' => S w' ∧ wpAnyH P md ops Q S fuel (listed.setIfInBounds i2 true) a' w') Q) (k3 : o3.wp P a w (fun a' w' => S w' ∧ wpAnyH P md ops Q S fuel (listed.setIfInBounds i3 true) a' w') Q) : wpAnyH P md ops Q S (fuel + 1) listed a w := by
  refine wpAnyH_all (rs := [i1, i2, i3]) hr (by simp) ?_
  intro j hj
  simp at hj
  rcases hj with rfl | rfl | rfl
  · exact wpOp_none h1 g1 k1
  · exact wpOp_none h2 g2 k2
  · exact wpOp_none h3 g3 k3
theorem skip_wT {d : Option Nat} {P : Program} {ops : Array Oper} {Q : Exit → Act → World → Prop} {md : Region.Mode} {S : World → Prop} {i : Nat} {o : Oper} {fuel : Nat} {listed : Array Bool} {a : Act} {w : World} (hi : ops[i]? = some o) (hw : Region.wanted o (yielded ops a.tmps) = false) (hd : o.dst = d)
    (hs : Region.noSelect ops = true) (hf : Region.free md ops listed i = true) (hr : (Region.ready md ops listed).contains i = true) (hQ : ∀ c (a : Act) d v w, Q (.panic c) (a.put d v) w → Q (.panic c) a w)
    (hS : S w) (h : wpAnyH P md ops Q S fuel (listed.setIfInBounds i true) (a.put d undef) w) : wpAnyH P md ops Q S (fuel + 1) listed a w :=
  wpAnyH_take hi hs hf hr (fun c a w q => hQ c a _ _ w q) (.inr ⟨hw, rfl⟩) hS (hd ▸ h)
theorem ex_eqlP {o : Oper} {a : Act} {W : World} (p q : Operand) {t : TypeId} (hop : o.op = Op.binOp .eql 3 p q t) {x y : Int} (hp : a.eval p = .int .i64 x) (hq : a.eval q = .int .i64 y) : (execOp a.eval o).run Try.prog W = .ok (.value (.bool (x == y))) W := by
  generalize a.eval = ev at *
  simp [execOp, hop, hp, hq, go_sem]
theorem ex_pickP {P : Program} {o : Oper} {a : Act} {W : World} (p q r : Operand) (hop : o.op = Op.pick p q r) {c : Bool} (hp : a.eval p = .bool c) {v u : Value} (hv : a.eval q = v) (hu : a.eval r = u) : (execOp a.eval o).run P W = .ok (.value (if c then v else u)) W := by
  generalize a.eval = ev at *
  cases c <;> simp [execOp, hop, hp, hv, hu, go_sem]
theorem ex_notP {o : Oper} {a : Act} {W : World} (p : Operand) (hop : o.op = Op.unOp .not 4 p) {c : Bool} (hp : a.eval p = .bool c) : (execOp a.eval o).run Try.prog W = .ok (.value (.bool (!c))) W := by
  generalize a.eval = ev at *
  simp [execOp, hop, hp, go_sem]
theorem wp_updE {o : Oper} {a : Act} {w w2 : World} {K : Act → World → Prop} {Q : Exit → Act → World → Prop} (m k v : Operand) (hop : o.op = Op.mapUpdate 61 m k v) (hd : o.dst = none) {vm vk vv : Value} (hm : a.eval m = vm) (hk : a.eval k = vk) (hv : a.eval v = vv) (hrun : (Instr.mapUpdate 61 vm vk vv).run Try.prog w = .ok () w2) (hK : K a w2) : o.wp Try.prog a w K Q := by
  have hK' : K (a.put o.dst (.tuple #[])) w2 := by rw [hd]; exact hK
  unfold Oper.wp
  simp [execOp, hop, hm, hk, hv, hrun, Result.andThen]
  exact hK'
theorem ptrs_one (L : List (PE × Nat)) : ∀ u ∈ ptrs L, u.oneCell' = true := by
  intro u hu
  unfold ptrs at hu
  obtain ⟨x, _, rfl⟩ := List.mem_map.1 hu
  rfl
/-- Where a row is asked to take a pointer. -/
def InsK (n k : Nat) : Prop := ∀ (W : World) (v : Value) (xs : List Value) (vb : Nat) (p : Value), W.ownsRow 0 74 1 v n xs → p.oneCell' = true → W.heap[vb]? = some (.cells [p].toArray 74) → v.ownBlock ≠ some vb → (∀ u ∈ xs, u.oneCell' = true) → Calls Try.prog 41 #[v, .int .i64 (k : Int), .slice (some ⟨vb, 0, none⟩) 1 1] W fun e w' => Insd v n k xs p W e w'
theorem insK_end {n : Nat} (h : n ≤ 1000000) : InsK n n := fun W v xs vb p h1 h2 h3 _ _ => insert_end h1 h h2 h3
/-- A line with one more entry. -/
def putK (L : List (PE × Nat)) (k : Nat) (y : PE × Nat) : List (PE × Nat) := L.take k ++ y :: L.drop k
theorem putK_mem (L : List (PE × Nat)) (k : Nat) (y z : PE × Nat) : z ∈ putK L k y ↔ z ∈ L ∨ z = y := by
  unfold putK
  rw [List.mem_append, List.mem_cons]
  have : z ∈ L ↔ z ∈ L.take k ∨ z ∈ L.drop k := by
    conv => lhs; rw [← List.take_append_drop k L]
    rw [List.mem_append]
  rw [this]
  constructor
  · rintro (h | h | h)
    · exact .inl (.inl h)
    · exact .inr h
    · exact .inl (.inr h)
  · rintro ((h | h) | h)
    · exact .inl h
    · exact .inr (.inr h)
    · exact .inr (.inl h)
theorem putK_ptrs (L : List (PE × Nat)) (k : Nat) (y : PE × Nat) : ptrs (putK L k y) = (ptrs L).take k ++ .pointer (some ⟨y.2, 0, none⟩) :: (ptrs L).drop k := by
  simp [ptrs, putK, List.map_take, List.map_drop]
theorem putK_len {L : List (PE × Nat)} {k : Nat} (y : PE × Nat) (h : k ≤ L.length) : (putK L k y).length = L.length + 1 := by
  simp [putK]; omega
theorem KN.put {L : List (PE × Nat)} (h : KN L) {k : Nat} {y : PE × Nat} (hn : ∀ x ∈ L, x.1.k ≠ y.1.k) : KN (putK L k y) := by
  unfold KN putK at *
  have hp : (L.take k ++ y :: L.drop k).Perm (y :: L) := by
    have := List.perm_middle (a := y) (l₁ := L.take k) (l₂ := L.drop k)
    rwa [List.take_append_drop] at this
  rw [(hp.map _).nodup_iff, List.map_cons, List.nodup_cons]
  refine ⟨fun hm => ?_, h⟩
  obtain ⟨x, hx, e⟩ := List.mem_map.1 hm
  exact hn x hx e
theorem SortE.put {L : List (PE × Nat)} (h : SortE L) {k : Nat} {y : PE × Nat} (hk : Stands L y k) (hn : ∀ x ∈ L, x.1.k ≠ y.1.k) : SortE (putK L k y) := by
  obtain ⟨h1, h2, h3⟩ := hk
  have hl : (L.take k).length = k := by simp; omega
  have hg : ∀ i, (putK L k y)[i]? = if i < k then L[i]? else if i = k then some y else L[i - 1]? := by
    intro i
    unfold putK
    by_cases c : i < k
    · rw [if_pos c, List.getElem?_append_left (by omega), List.getElem?_take, if_pos c]
    · rw [if_neg c, List.getElem?_append_right (by omega), hl]
      by_cases d : i = k
      · rw [if_pos d, d, Nat.sub_self]
        rfl
      · rw [if_neg d, show i - k = (i - k - 1) + 1 by omega, List.getElem?_cons_succ, List.getElem?_drop]
        congr 1
        omega
  have hgt : ∀ i x, k ≤ i → L[i]? = some x → cE y x = -1 := fun i x hi hx => by
    have e := h3 i x hi hx
    have e1 : cE y x = - cE x y := cmpE_anti _ _ _ _
    have e2 : cE x y ≠ 0 := fun e => hn x (List.mem_of_getElem? hx) (cmpE_eq e).2
    have e3 := cmpE_vals x.1.u x.1.k y.1.u y.1.k
    have e4 : cE x y = cmpE x.1.u x.1.k y.1.u y.1.k := rfl
    omega
  intro i j x z hij hx hz
  rw [hg] at hx hz
  split at hx
  · split at hz
    · exact h i j x z hij hx hz
    · split at hz
      · injection hz with hz
        rw [← hz]
        exact h2 i x (by omega) hx
      · exact h i (j - 1) x z (by omega) hx hz
  · split at hx
    · injection hx with hx
      rw [if_neg (by omega), if_neg (by omega)] at hz
      rw [← hx]
      exact hgt (j - 1) z (by omega) hz
    · rw [if_neg (by omega), if_neg (by omega)] at hz
      exact h (i - 1) (j - 1) x z (by omega) hx hz
theorem lack_keys (L : List (PE × Nat)) (d : List Int) : ∀ x ∈ lackL L d, x.1.k ≠ d := by
  intro x hx
  have := (List.mem_filter.1 hx).2
  simpa using this
theorem SortE.sub {L : List (PE × Nat)} (h : SortE L) (d : List Int) (hn : KN L) : SortE (lackL L d) := by
  by_cases hh : ∃ x ∈ L, x.1.k = d
  · obtain ⟨x, hx, e⟩ := hh
    obtain ⟨m, hm⟩ := List.getElem?_of_mem hx
    rw [← e, ← lack_at hn hm]
    exact h.cut m
  · rw [(lack_none (fun x hx e => hh ⟨x, hx, e⟩)).1]
    exact h
/-- The end of a put: the pointer lies in the line, the line in its block. -/
theorem put_end {V X X2 X3 : World} {pb mb : Nat} {cf : Cf} {now : Int} {line line2 line3 : Value} {L : List (PE × Nat)} {y : PE × Nat} {M : List (List Int × Nat)} {k : Nat} (hp : Paths pb cf now mb line2 L X) (hm : MapAt X mb M) (hM : MapL M (putK L k y)) (hkn : KN (putK L k y)) (hk : k ≤ L.length) (hy : y.1.Ok ∧ PE.At X y)
    (hpm : pb ≠ mb) (hlp : line2.ownBlock ≠ some pb) (hlm : line2.ownBlock ≠ some mb) (hel : ∀ x, x ∈ putK L k y → line2.ownBlock ≠ some x.2) (hep : ∀ x, x ∈ putK L k y → x.2 ≠ pb)
    (hi : Insd line2 L.length k (ptrs L) (.pointer (some ⟨y.2, 0, none⟩)) X (.returned line3) X2) (h3 : X3 = X2.setCell ⟨pb, 6, none⟩ line3) :
    Keeps pb cf now mb line3 (putK L k y) X3 ∧ Fr pb mb line2 X X3 ∧ (line3.ownBlock = line2.ownBlock ∨ ∀ g, line3.ownBlock = some g → X.heap.size ≤ g) := by
  obtain ⟨v', ev, hrow, hblk, ho, ht, hu, hsz, hfr⟩ := hi
  injection ev with ev
  subst ev
  have b2 : X2.heap[pb]? = some (.cells (pC cf now mb line2).toArray 64) := (hfr pb hp.lt hlp).trans hp.box
  have o3 : Only pb X2 X3 := by rw [h3]; exact (Only.refl pb X2).set 6 _
  have b3 : X3.heap[pb]? = some (.cells (pC cf now mb line3).toArray 64) := by rw [h3]; exact blk_set b2 6 _
  have hin : ∀ x ∈ putK L k y, x.1.Ok ∧ PE.At X x := fun x hx => by
    rcases (putK_mem L k y x).1 hx with h | h
    · exact hp.ents x h
    · rw [h]; exact hy
  have hlt : pb < X.heap.size := hp.lt
  refine ⟨⟨⟨b3, ?_, fun x hx => ⟨(hin x hx).1, ((hin x hx).2.on (hfr x.2 (hin x hx).2.lt (hel x hx))).on (o3.other _ (hep x hx))⟩⟩, ⟨M, (hm.on (hfr mb hm.lt hlm)).on (o3.other mb (Ne.symm hpm)), hM⟩, hkn⟩, ⟨o3.os.trans ho, o3.tape.trans ht, o3.output.trans hu, by rw [o3.size]; exact hsz, fun g hg h1 h2 h4 => (o3.other g h1).trans (hfr g hg h4)⟩, hblk⟩
  rw [putK_len y hk, putK_ptrs]
  refine own_same hrow (fun g hg => o3.other g (fun e => ?_))
  rcases hblk with h | h
  · exact hlp (by rw [← h, hg, e])
  · have := h g hg
    omega
end Go.Proofs.Ytgndiblonhgihaa
