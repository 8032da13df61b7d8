/-
  drop: a path's entry goes.
  slices.Insert at the end of a row of pointers.
-/
import Derived.Test.YtgndiblonhgihaaFold15
import Derived.Maps.AppendAt
namespace Go.Proofs.Ytgndiblonhgihaa
open Go Go.RowKit Go.Lib
set_option linter.unusedVariables false
set_option linter.unusedSimpArgs false

/-- The entries but one path's. -/
def lackL (L : List (PE × Nat)) (d : List Int) : List (PE × Nat) := L.filter fun z => !decide (z.1.k = d)
def hasL (L : List (PE × Nat)) (d : List Int) : Bool := L.any fun z => decide (z.1.k = d)
theorem lack_none {L : List (PE × Nat)} {d : List Int} (h : ∀ x ∈ L, x.1.k ≠ d) : lackL L d = L ∧ hasL L d = false := by
  constructor
  · unfold lackL
    rw [List.filter_eq_self]
    intro x hx
    simp [h x hx]
  · unfold hasL
    rw [List.any_eq_false]
    intro x hx
    simp [h x hx]
theorem lack_at : ∀ {L : List (PE × Nat)} {m : Nat} {x : PE × Nat}, KN L → L[m]? = some x → L.take m ++ L.drop (m + 1) = lackL L x.1.k
  | [], m, x, _, h => by simp at h
  | y :: L, 0, x, hn, h => by
    simp at h
    subst h
    unfold KN at hn
    simp only [List.map_cons, List.nodup_cons] at hn
    have h1 : ∀ z ∈ L, z.1.k ≠ y.1.k := fun z hz e => hn.1 (List.mem_map.2 ⟨z, hz, e⟩)
    have h2 := (lack_none h1).1
    unfold lackL at h2 ⊢
    simp [h2]
  | y :: L, m + 1, x, hn, h => by
    have hx : L[m]? = some x := by simpa using h
    unfold KN at hn
    simp only [List.map_cons, List.nodup_cons] at hn
    have ih := lack_at (L := L) hn.2 hx
    have h1 : y.1.k ≠ x.1.k := fun e => hn.1 (List.mem_map.2 ⟨x, List.mem_of_getElem? hx, e.symm⟩)
    unfold lackL at ih ⊢
    simp [h1, ← ih]
theorem has_at {L : List (PE × Nat)} {x : PE × Nat} (h : x ∈ L) : hasL L x.1.k = true := by
  unfold hasL
  rw [List.any_eq_true]
  exact ⟨x, h, by simp⟩
theorem stands_at {L : List (PE × Nat)} (hs : SortE L) {m : Nat} {x : PE × Nat} (hx : L[m]? = some x) {k : Nat} (hk : Stands L x k) : k = m := by
  obtain ⟨h1, h2, h3⟩ := hk
  have hml := (List.getElem?_eq_some_iff.1 hx).1
  rcases Nat.lt_trichotomy m k with h | h | h
  · have := h2 m x h hx
    rw [show cE x x = 0 from cmpE_self _ _] at this
    omega
  · exact h.symm
  · obtain ⟨y, hy⟩ : ∃ y, L[k]? = some y := ⟨_, List.getElem?_eq_getElem (by omega)⟩
    have e1 := h3 k y (Nat.le_refl _) hy
    have e2 := hs k m y x h hy hx
    rw [e2] at e1
    omega
set_option maxHeartbeats 8000000 in
set_option maxRecDepth 100000 in
theorem drop_any {V : World} {pb mb : Nat} {cf : Cf} {now : Int} {line : Value} {L : List (PE × Nat)} (h : Keeps pb cf now mb line L V) (hs : SortE L) (hl : L.length ≤ 1000000) {d : List Int} (hd : K16 d) :
    Calls Try.prog 33 #[.pointer (some ⟨pb, 0, none⟩), .agg (u8s d).toArray] V fun e w' => e = .returned (.bool (hasL L d)) ∧ ∃ line', Keeps pb cf now mb line' (lackL L d) w' ∧ line'.ownBlock = line.ownBlock ∧ Fr pb mb line V w' := by
  generalize hQ : (fun (e : Ending) (w' : World) => e = .returned (.bool (hasL L d)) ∧ ∃ line', Keeps pb cf now mb line' (lackL L d) w' ∧ line'.ownBlock = line.ownBlock ∧ Fr pb mb line V w') = Q
  have HQ : Hid (∀ e w', (e = .returned (.bool (hasL L d)) ∧ ∃ line', Keeps pb cf now mb line' (lackL L d) w' ∧ line'.ownBlock = line.ownBlock ∧ Fr pb mb line V w') → Q e w') := fun e w' hh => by rw [← hQ]; exact hh
  clear hQ
  obtain ⟨W1, hW1⟩ : ∃ W1, W1 = V.alloc (.cells (u8s d).toArray 35) := ⟨_, rfl⟩
  have hs1 : W1.heap.size = V.heap.size + 1 := by rw [hW1]; simp
  have hB1 : Below V.heap.size V W1 := by rw [hW1]; exact (Below.refl V.heap.size V).alloc (Nat.le_refl _) _
  have hx1 : W1.heap[V.heap.size]? = some (.cells (u8s d).toArray 35) := by rw [hW1]; exact blk_new V _
  have k1 := h.on hB1
  obtain ⟨M, hm, hML⟩ := k1.m
  have HK := hML.keys (fun x hx => (k1.p.ents x hx).1)
  have HD16 : Hid (K16 d) := hd
  have hW := hW1.symm
  clear hW1
  go_enter Try.func33, Try.ntmps33
  go_wp2_with fail
  clear hW
  refine wp_region_held (S := fun X => Below W1.heap.size W1 X) (by kernel_rfl) ?_
  show wpAnyH _ _ _ _ _ 7 (Array.replicate 7 false) _ W1.drew
  have s0 : Below W1.heap.size W1 W1.drew := (Below.refl _ W1).drew
  generalize W1.drew = V0 at *
  refine take_one (i := 0) (d := some 7) (v := .pointer (some ⟨pb, 0, none⟩)) rfl rfl rfl (by kernel_rfl) (by kernel_rfl) (by kernel_rfl) (fun _ _ d _ _ h => by cases d <;> exact h) (fun W hS => by kernel_rfl) s0 ?_
  simp only [Act.put, List.setIfInBounds_toArray, List.set_cons_zero, List.set_cons_succ]
  refine take_one (i := 1) (d := some 8) (v := .pointer (some ⟨pb, 0, none⟩)) rfl rfl rfl (by kernel_rfl) (by kernel_rfl) (by kernel_rfl) (fun _ _ d _ _ h => by cases d <;> exact h) (fun W hS => by kernel_rfl) s0 ?_
  simp only [Act.put, List.setIfInBounds_toArray, List.set_cons_zero, List.set_cons_succ]
  refine take_one (i := 2) (d := some 9) (v := .pointer (some ⟨pb, 5, none⟩)) rfl rfl rfl (by kernel_rfl) (by kernel_rfl) (by kernel_rfl) (fun _ _ d _ _ h => by cases d <;> exact h) (fun W hS => by kernel_rfl) s0 ?_
  simp only [Act.put, List.setIfInBounds_toArray, List.set_cons_zero, List.set_cons_succ]
  refine take_one (i := 3) (d := some 10) (v := .map (some mb)) rfl rfl rfl (by kernel_rfl) (by kernel_rfl) (by kernel_rfl) (fun _ _ d _ _ h => by cases d <;> exact h) (fun W hS => ex_loadA (.tmp 9) 61 rfl rfl (ld_map ((k1.p.on hS).cell 5 _ rfl))) s0 ?_
  simp only [Act.put, List.setIfInBounds_toArray, List.set_cons_zero, List.set_cons_succ]
  refine take_one (i := 4) (d := some 11) (v := .agg (u8s d).toArray) rfl rfl rfl (by kernel_rfl) (by kernel_rfl) (by kernel_rfl) (fun _ _ d _ _ h => by cases d <;> exact h) (fun W hS => ex_loadA (.tmp 3) 35 rfl rfl (load6 hd.len (CellsAt.blkP (c := u8s d) (t := 35) ((hS.block _ (by omega)).trans hx1)))) s0 ?_
  simp only [Act.put, List.setIfInBounds_toArray, List.set_cons_zero, List.set_cons_succ]
  refine take_one (i := 5) (d := some 12) (v := ptrF d M) rfl rfl rfl (by kernel_rfl) (by kernel_rfl) (by kernel_rfl) (fun _ _ d _ _ h => by cases d <;> exact h) (fun W hS => ex_lookM (.tmp 10) (.tmp 11) rfl rfl rfl (look16 hd (hm.on (hS.block _ hm.lt)) HK)) s0 ?_
  simp only [Act.put, List.setIfInBounds_toArray, List.set_cons_zero, List.set_cons_succ]
  refine take_one (i := 6) (d := some 5) (v := ptrF d M) rfl rfl rfl (by kernel_rfl) (by kernel_rfl) (by kernel_rfl) (fun _ _ d _ _ h => by cases d <;> exact h) (fun W hS => by kernel_rfl) s0 ?_
  simp only [Act.put, List.setIfInBounds_toArray, List.set_cons_zero, List.set_cons_succ]
  refine wpAnyH_done (by kernel_rfl) ?_ _
  have HB : Hid (Below V.heap.size V V0) := hB1.trans (s0.mono hB1.size)
  have HK2 : Hid (Keeps pb cf now mb line L V0) := h.on HB.out
  cases hr : fnd d M 0 with
  | none =>
    have hp : ptrF d M = .pointer none := by unfold ptrF; rw [hr]
    have hv := lack_none (hML.lacks hr)
    rw [hp]
    rw [hv.1, hv.2] at HQ
    clear hp hv hr k1 hm s0 hB1 hx1 HK h hML hs hl
    go_wp2_with fail
    try go_returns
    exact HQ.out _ _ ⟨rfl, line, HK2.out, rfl, Fr.below HB.out⟩
  | some r =>
    obtain ⟨x, hx, e1, e2⟩ := hML.found hr
    have hp : ptrF d M = .pointer (some ⟨x.2, 0, none⟩) := by unfold ptrF; rw [hr, e2]
    rw [hp]
    obtain ⟨m, hm1⟩ := List.getElem?_of_mem hx
    have hv1 := has_at hx
    have hv2 := lack_at h.kn hm1
    rw [e1] at hv1 hv2
    rw [hv1, ← hv2] at HQ
    have hml : m < L.length := (List.getElem?_eq_some_iff.1 hm1).1
    have HPL := place_any HK2.out.p hs hl (y := x) ⟨(HK2.out.p.ents x hx).1, (HK2.out.p.ents x hx).2⟩
    have HPL : Hid _ := HPL
    have HST : Hid (∀ k, Stands L x k → k = m) := fun k hk => stands_at hs hm1 hk
    clear hp hr k1 hm s0 hB1 hx1 HK h hML e1 e2 hx hv1 hv2 hm1 hs
    go_wp2_with fail
    refine Calls.mono HPL.out ?_
    rintro e w2 ⟨k, rfl, hst, hb2⟩
    obtain rfl := HST.out k hst
    have HK3 : Hid (Keeps pb cf now mb line L w2) := HK2.out.on hb2
    have HB3 : Hid (Below V.heap.size V w2) := HB.out.trans (hb2.mono HB.out.size)
    have HFG := forget_any HK3.out (i := k) (j := k + 1) (by omega) (by omega)
    have HFG : Hid _ := HFG
    have hw : IntKind.i64.wrap ((k : Int) + 1) = ((k + 1 : Nat) : Int) := by rw [wrap_i64 _ ⟨by omega, by omega⟩]; simp
    clear hst hb2
    go_wp2_with fail
    refine Calls.mono HFG.out ?_
    rintro e w3 ⟨rfl, line2, k3, l3, f3, z3⟩
    have HF : Hid (∃ line', Keeps pb cf now mb line' (L.take k ++ L.drop (k + 1)) w3 ∧ line'.ownBlock = line.ownBlock ∧ Fr pb mb line V w3) := ⟨line2, k3, l3, (Fr.below HB3.out).trans f3 rfl⟩
    clear k3 l3 f3 z3
    go_wp2_with fail
    try go_returns
    exact HQ.out _ _ ⟨rfl, HF.out⟩
end Go.Proofs.Ytgndiblonhgihaa

namespace Go.Proofs.Ytgndiblonhgihaa
open Go Go.RowKit Go.Lib
set_option linter.unusedVariables false
set_option linter.unusedSimpArgs false

theorem infoP8 : ∃ i, Try.prog.info? 74 = some i ∧ i.zero = some (.pointer none) ∧ i.size = 1 ∧ i.bytes = 8 := by
  have : (Try.prog.info? 74).map (fun i => (i.zero, i.size, i.bytes)) = some (some (.pointer none), 1, 8) := by kernel_rfl
  obtain ⟨i, h1, h2⟩ := Option.map_eq_some_iff.1 this
  injection h2 with h2 h3
  injection h3 with h3 h4
  exact ⟨i, h1, h2, h3, h4⟩
/-- What an insertion leaves. -/
def Insd (v : Value) (n k : Nat) (xs : List Value) (p : Value) (W : World) (e : Ending) (w' : World) : Prop :=
  ∃ v', e = .returned v' ∧ w'.ownsRow 0 74 1 v' (n + 1) (xs.take k ++ p :: xs.drop k) ∧ (v'.ownBlock = v.ownBlock ∨ ∀ g, v'.ownBlock = some g → W.heap.size ≤ g) ∧
    w'.os = W.os ∧ w'.tape = W.tape ∧ w'.output = W.output ∧ W.heap.size ≤ w'.heap.size ∧ ∀ g, g < W.heap.size → v.ownBlock ≠ some g → w'.heap[g]? = W.heap[g]?
set_option maxHeartbeats 4000000 in
set_option maxRecDepth 100000 in
theorem insert_end {W : World} {v : Value} {n : Nat} {xs : List Value} (h : W.ownsRow 0 74 1 v n xs) (hn : n ≤ 1000000) {vb : Nat} {p : Value} (hp : p.oneCell' = true) (hb : W.heap[vb]? = some (.cells [p].toArray 74)) :
    Calls Try.prog 41 #[v, .int .i64 (n : Int), .slice (some ⟨vb, 0, none⟩) 1 1] W fun e w' => Insd v n n xs p W e w' := by
  generalize hQ : (fun (e : Ending) (w' : World) => Insd v n n xs p W e w') = Q
  have HQ : Hid (∀ e w', Insd v n n xs p W e w' → Q e w') := fun e w' hh => by rw [← hQ]; exact hh
  clear hQ
  have hxl : xs.length = n := by have := h.1; omega
  obtain ⟨i, hi, hz, hsz, hby⟩ := infoP8
  have hap : ∀ ty, ∃ v' w', (Builtin.append_ #[62, 62] ty #[v, .slice (some ⟨vb, 0, none⟩) 1 1]).run Try.prog W = .ok v' w' ∧ Insd v n n xs p W (.returned v') w' := fun ty => by
    obtain ⟨v', w', hrun, hown, hgr, _, hat⟩ := run_append_own_at (P := Try.prog) W 0 62 ty 74 i (.pointer none) 1 8 Try.underlying62 hi hz hsz hby rfl (by decide) v n xs h ⟨vb, 0, none⟩ 1 1 [p] rfl
      (fun j x hj => by
        rw [Go.WideShapes.add_plain]
        exact blk_cell hb (by simpa using hj)) (fun u hu => by simp at hu; rw [hu]; exact hp) (by unfold maxLen; omega) (by omega) (Nat.zero_le _)
    refine ⟨v', w', hrun, v', rfl, ?_, ?_, hgr.os, hgr.tape, hgr.output, hgr.size, fun g hg hne => hgr.block g hg (fun e => hne e.symm)⟩
    · rw [List.take_of_length_le (by omega), List.drop_eq_nil_of_le (by omega)]
      exact hown
    · rcases hat with e | e
      · exact .inl e
      · exact .inr (fun g hg => by rw [e] at hg; injection hg with hg; omega)
  obtain ⟨la, lc, hline⟩ := own_slc h
  have hsl : ∃ a' c', ∀ w : World, (Instr.sliceAt 62 (.slice la n lc) (some (.int .i64 n)) none none).run Try.prog w = .ok (.slice a' 0 c') w := by
    rcases h.2 with ⟨h1, h0⟩ | ⟨g, cap, cur, hv, _, _, h3, h4, _⟩
    · rw [hline] at h1
      injection h1 with e1 e2 e3
      subst e1 e3
      rw [h0]
      exact ⟨none, 0, fun w => by simp [Instr.sliceAt, go_sem]⟩
    · rw [hline] at hv
      injection hv with e1 e2 e3
      subst e1 e3
      have h5 : (0 : Int) ≤ n := by omega
      by_cases hc : lc = n
      · exact ⟨some ⟨g, 0, none⟩, 0, fun w => by simp [Instr.sliceAt, go_sem, h5, hc]⟩
      · refine ⟨some ⟨g, n, none⟩, lc - n, fun w => ?_⟩
        simp [Instr.sliceAt, go_sem, h5, hc, h3]
        try omega
  obtain ⟨a', c', hsl⟩ := hsl
  subst hline
  have HAP : Hid _ := hap
  clear h hap hi hz hsz hby hb hp hxl
  go_enter Try.func41, Try.ntmps41
  go_wp2_with first
    | ((with_reducible show wpList _ _ _ ({ dst := _, op := Op.slice 62 (Operand.tmp 10) _ _ none, type := _, pos := _, after := _, guard := _ } :: _) _ _); refine wpList_plain rfl fun K hK => ?_; unfold Oper.wp; rw [ex_slcE (.tmp 10) (some (.tmp 11)) none rfl rfl rfl rfl (hsl _)]; refine hK _ _ ?_)
    | ((with_reducible show wpList _ _ _ ({ dst := _, op := Op.call { callee := Callee.builtin Builtin.append, args := #[Operand.tmp 23, Operand.tmp 24], argTypes := #[62, 62] }, type := _, pos := _, after := _, guard := _ } :: _) _ _); refine wpList_plain rfl fun K hK => ?_; unfold Oper.wp; (obtain ⟨v', w', hrun, hins⟩ := HAP.out _); rw [ex_apE (.tmp 23) (.tmp 24) rfl rfl rfl hrun]; refine hK _ _ ?_; clear HAP hrun)
  try go_returns
  exact HQ.out _ _ hins
end Go.Proofs.Ytgndiblonhgihaa
