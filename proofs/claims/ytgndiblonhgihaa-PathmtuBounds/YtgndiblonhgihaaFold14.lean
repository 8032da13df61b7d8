/-
  slices.Delete of a row of pointers.
  forget: entries from one place of the line to another go.
-/
import Derived.Test.YtgndiblonhgihaaFold13
import Derived.ArgAppend
import Derived.Lib.SliceRun
namespace Go.Proofs.Ytgndiblonhgihaa
open Go Go.RowKit Go.Lib
set_option linter.unusedVariables false
set_option linter.unusedSimpArgs false

/-- A world of which one block alone may have turned. -/
structure But (o : Option Nat) (w w' : World) : Prop where
  os : w'.os = w.os
  tape : w'.tape = w.tape
  output : w'.output = w.output
  size : w'.heap.size = w.heap.size
  other : ∀ j, o ≠ some j → w'.heap[j]? = w.heap[j]?
theorem But.refl (o : Option Nat) (w : World) : But o w w := ⟨rfl, rfl, rfl, rfl, fun _ _ => rfl⟩
theorem infoP : ∃ i, Try.prog.info? 74 = some i ∧ i.zero = some (.pointer none) ∧ i.size = 1 := by
  have : (Try.prog.info? 74).map (fun i => (i.zero, i.size)) = some (some (.pointer none), 1) := by kernel_rfl
  obtain ⟨i, h1, h2⟩ := Option.map_eq_some_iff.1 this
  injection h2 with h2 h3
  exact ⟨i, h1, h2, h3⟩
theorem slp_hi (g n len c : Nat) (w : World) (h : n ≤ c) (hc : c ≤ maxLen) : (Instr.sliceAt 62 (.slice (some ⟨g, 0, none⟩) len c) none (some (.int .i64 n)) none).run Try.prog w = .ok (.slice (some ⟨g, 0, none⟩) n c) w := by
  have h1 : (n : Int) ≤ c := by omega
  have h2 : (0 : Int) ≤ n := by omega
  simp [Instr.sliceAt, go_sem, h1, h2, h]
theorem slp_lo (g n len c : Nat) (h : n ≤ len) (hl : len ≤ c) (hc : c ≤ maxLen) : ∃ a, (∀ w : World, (Instr.sliceAt 62 (.slice (some ⟨g, 0, none⟩) len c) (some (.int .i64 n)) none none).run Try.prog w = .ok (.slice (some a) (len - n) (c - n)) w) ∧ (n < len → a = ⟨g, n, none⟩) := by
  have h2 : (0 : Int) ≤ n := by omega
  by_cases hnc : c = n
  · refine ⟨⟨g, 0, none⟩, fun w => ?_, fun h3 => by omega⟩
    simp [Instr.sliceAt, go_sem, h2, h, hnc, hl]
    try omega
  · refine ⟨⟨g, n, none⟩, fun w => ?_, fun _ => rfl⟩
    simp [Instr.sliceAt, go_sem, h2, h, hnc, hl]
    try omega
theorem slp_mid (g i j len c : Nat) (w : World) (h : i ≤ j) (h2 : j ≤ c) (hc : c ≤ maxLen) (hi : i < c) : (Instr.sliceAt 62 (.slice (some ⟨g, 0, none⟩) len c) (some (.int .i64 i)) (some (.int .i64 j)) none).run Try.prog w = .ok (.slice (some ⟨g, i, none⟩) (j - i) (c - i)) w := by
  have h3 : (0 : Int) ≤ i := by omega
  have h4 : (0 : Int) ≤ j := by omega
  have h5 : ¬ c = i := by omega
  simp [Instr.sliceAt, go_sem, h3, h4, h, h2, h5]
theorem ex_slcE {o : Oper} {a : Act} {W : World} (x : Operand) (lo hi : Option Operand) (hop : o.op = Op.slice 62 x lo hi none) {vx v : Value} {vl vh : Option Value} (hx : a.eval x = vx) (hl : lo.map a.eval = vl) (hh : hi.map a.eval = vh) (hrun : (Instr.sliceAt 62 vx vl vh none).run Try.prog W = .ok v W) : (execOp a.eval o).run Try.prog W = .ok (.value v) W := by
  simp [execOp, hop, hx, hl, hh, hrun, Result.andThen]
theorem ex_apE {o : Oper} {a : Act} {W W' : World} (s x : Operand) (hop : o.op = Op.call { callee := Callee.builtin Builtin.append, args := #[s, x], argTypes := #[62, 62] }) {vs vx v : Value} (hs : a.eval s = vs) (hx : a.eval x = vx) (hrun : (Builtin.append_ #[62, 62] o.type #[vs, vx]).run Try.prog W = .ok v W') : (execOp a.eval o).run Try.prog W = .ok (.value v) W' := by
  simp [execOp, hop, resolve, invoke, builtin, hs, hx, hrun, Result.andThen]
set_option maxHeartbeats 4000000 in
set_option maxRecDepth 100000 in
/-- Nothing goes. -/
theorem del_none {W : World} {v : Value} {n : Nat} {xs : List Value} (h : W.ownsRow 0 74 1 v n xs) {i : Nat} (hi : i ≤ n) :
    Calls Try.prog 46 #[v, .int .i64 (i : Int), .int .i64 (i : Int)] W fun e w' => e = .returned v ∧ w' = W := by
  rcases h.2 with ⟨rfl, rfl⟩ | ⟨g, cap, cur, rfl, h1, h2, h3, h4, h5⟩
  · obtain rfl : i = 0 := by omega
    clear h
    go_enter Try.func46, Try.ntmps46
    go_wp2
    all_goals (go_ret; exact ⟨rfl, rfl⟩)
  · clear h h1 h2 h5
    have h6 : cap ≤ 9223372036854775807 := by unfold maxLen at h4; omega
    clear h4
    go_enter Try.func46, Try.ntmps46
    go_wp2
    all_goals (go_ret; exact ⟨rfl, rfl⟩)
set_option maxHeartbeats 8000000 in
set_option maxRecDepth 100000 in
/-- Some go. -/
theorem del_some {W : World} {g cap n : Nat} {cur : Array Value} (h2 : W.heap[g]? = some (.cells cur 74)) (h3 : n ≤ cap) (h4 : cap ≤ maxLen) (h5 : cur.size = cap) (h1c : ∀ u ∈ cur.toList.take n, u.oneCell' = true) {i j : Nat} (hij : i < j) (hj : j ≤ n) :
    Calls Try.prog 46 #[.slice (some ⟨g, 0, none⟩) n cap, .int .i64 (i : Int), .int .i64 (j : Int)] W fun e w' => e = .returned (.slice (some ⟨g, 0, none⟩) (n - (j - i)) cap) ∧ w'.ownsRow 0 74 1 (.slice (some ⟨g, 0, none⟩) (n - (j - i)) cap) (n - (j - i)) ((cur.toList.take n).take i ++ (cur.toList.take n).drop j) ∧ Only g W w' := by
  obtain ⟨C, rfl⟩ : ∃ C : List Value, cur = C.toArray := ⟨cur.toList, by simp⟩
  simp only [List.size_toArray] at h5
  simp only at h1c
  obtain ⟨T, hT⟩ : ∃ T, T = C.take n := ⟨_, rfl⟩
  rw [← hT] at h1c ⊢
  have hTl : T.length = n := by rw [hT]; simp; omega
  have hTc : ∀ t u, T[t]? = some u → C[t]? = some u := fun t u hu => by
    rw [hT, List.getElem?_take] at hu
    split at hu
    · exact hu
    · simp at hu
  obtain ⟨N, hN⟩ : ∃ N, N = T.drop j := ⟨_, rfl⟩
  have hNl : N.length = n - j := by rw [hN]; simp [hTl]
  obtain ⟨ai, hai, hz, hs1⟩ := infoP
  obtain ⟨A, hA, hA2⟩ := slp_lo g j n cap hj h3 h4
  have hsrc : ∀ t u, N[t]? = some u → W.drew.cell? (A.add t) = some u := fun t u hu => by
    have ht := (List.getElem?_eq_some_iff.1 hu).1
    rw [hA2 (by omega)]
    have e : (⟨g, j, none⟩ : Addr).add t = ⟨g, j + t, none⟩ := by unfold Addr.add; split <;> simp_all
    rw [e]
    refine blk_cell (w := W.drew) h2 (hTc _ _ ?_)
    rw [hN, List.getElem?_drop] at hu
    exact hu
  have hap : ∀ ty, (Builtin.append_ #[62, 62] ty #[.slice (some ⟨g, 0, none⟩) i cap, .slice (some A) (n - j) (cap - j)]).run Try.prog W.drew = .ok (.slice (some ⟨g, 0, none⟩) (i + (n - j)) cap) (W.drew.setCells g i N) := fun ty => by
    have := run_append_room_cells (P := Try.prog) W.drew 62 ty 74 ai Try.underlying62 hai g 0 i cap A (n - j) (cap - j) N (by rw [hNl, hs1]; omega) hsrc (fun u hu => h1c u (by rw [hN] at hu; exact List.mem_of_mem_drop hu)) (by omega)
      (fun t ht => by rw [hs1, blk_cell (w := W.drew) (v := C[0 + i * 1 + t]'(by omega)) h2 (by simp)]; rfl) (fun t ht => blk_open (w := W.drew) h2 _)
    rw [hs1, Nat.mul_one, Nat.zero_add] at this
    exact this
  obtain ⟨V, hV⟩ : ∃ V, V = W.drew.setCells g i N := ⟨_, rfl⟩
  have hVb : V.heap[g]? = some (.cells (setsL C i N).toArray 74) := by rw [hV]; exact blk_sets N i C W.drew h2
  have hVo : Only g W V := by rw [hV]; exact Only.sets N i _ ⟨rfl, rfl, rfl, rfl, fun _ _ => rfl⟩
  have hD : setsL C i N = C.take i ++ N ++ C.drop (i + N.length) := setsL_eq N i C (by omega)
  obtain ⟨D, hDD⟩ : ∃ D, D = setsL C i N := ⟨_, rfl⟩
  rw [← hDD] at hVb hD
  have hDl : D.length = cap := by rw [hD]; simp; omega
  obtain ⟨Z, hZ⟩ : ∃ Z, Z = List.replicate (j - i) (Value.pointer none) := ⟨_, rfl⟩
  have hZl : Z.length = j - i := by rw [hZ]; simp
  have hcl : ∀ ty, (Builtin.clear_ #[62] ty #[.slice (some ⟨g, i + (n - j), none⟩) (n - (i + (n - j))) (cap - (i + (n - j)))]).run Try.prog V = .ok (.tuple #[]) (V.setCells g (i + (n - j)) Z) := fun ty => by
    have := Lib.run_clear_slice (P := Try.prog) V 62 74 ty (.pointer none) Try.underlying62 (fun w => by kernel_rfl) rfl rfl g (i + (n - j)) (n - (i + (n - j))) (cap - (i + (n - j))) (by omega)
      (fun t ht => by rw [blk_cell (v := D[i + (n - j) + t]'(by omega)) hVb (by simp)]; rfl) (fun t ht => blk_open hVb _)
    rw [this, hZ, show n - (i + (n - j)) = j - i by omega]
  obtain ⟨V2, hV2⟩ : ∃ V2, V2 = V.setCells g (i + (n - j)) Z := ⟨_, rfl⟩
  have hV2b : V2.heap[g]? = some (.cells (setsL D (i + (n - j)) Z).toArray 74) := by rw [hV2]; exact blk_sets Z _ D V hVb
  have hV2o : Only g W V2 := by rw [hV2]; exact Only.sets Z _ _ hVo
  have hE : (setsL D (i + (n - j)) Z).take (i + (n - j)) = T.take i ++ T.drop j := by
    rw [setsL_eq Z _ D (by omega), List.append_assoc, List.take_append_of_le_length (by simp; omega), List.take_take, Nat.min_self, hD, List.append_assoc, ← List.append_assoc, List.take_append_of_le_length (by simp; omega), List.take_of_length_le (by simp; omega), hN, hT, List.take_take, Nat.min_eq_left (by omega)]
  have hEl : (setsL D (i + (n - j)) Z).length = cap := by rw [setsL_eq Z _ D (by omega)]; simp; omega
  have HF : Hid (V2.ownsRow 0 74 1 (.slice (some ⟨g, 0, none⟩) (n - (j - i)) cap) (n - (j - i)) (T.take i ++ T.drop j) ∧ Only g W V2) := by
    refine ⟨⟨by simp; omega, .inr ⟨g, cap, (setsL D (i + (n - j)) Z).toArray, rfl, Nat.zero_le _, hV2b, by omega, h4, by simp [hEl], ?_⟩⟩, hV2o⟩
    rw [Nat.mul_one, show n - (j - i) = i + (n - j) by omega]
    exact hE
  rw [← hV] at hap
  rw [← hV2] at hcl
  have HAP : Hid (∀ ty, (Builtin.append_ #[62, 62] ty #[.slice (some ⟨g, 0, none⟩) i cap, .slice (some A) (n - j) (cap - j)]).run Try.prog W.drew = .ok (.slice (some ⟨g, 0, none⟩) (i + (n - j)) cap) V) := hap
  have HA : Hid (∀ w : World, (Instr.sliceAt 62 (.slice (some ⟨g, 0, none⟩) n cap) (some (.int .i64 j)) none none).run Try.prog w = .ok (.slice (some A) (n - j) (cap - j)) w) := hA
  have HCL : Hid (∀ ty, (Builtin.clear_ #[62] ty #[.slice (some ⟨g, i + (n - j), none⟩) (n - (i + (n - j))) (cap - (i + (n - j)))]).run Try.prog V = .ok (.tuple #[]) V2) := hcl
  have hen : i + (n - j) = n - (j - i) := by omega
  have H4 : Hid (cap ≤ maxLen) := h4
  have h6 : cap ≤ 9223372036854775807 := by unfold maxLen at h4; omega
  generalize hQ : (fun (e : Ending) (w' : World) => e = .returned (.slice (some ⟨g, 0, none⟩) (n - (j - i)) cap) ∧ w'.ownsRow 0 74 1 (.slice (some ⟨g, 0, none⟩) (n - (j - i)) cap) (n - (j - i)) (T.take i ++ T.drop j) ∧ Only g W w') = Q
  have HQ : Hid (∀ e w', e = .returned (.slice (some ⟨g, 0, none⟩) (n - (j - i)) cap) ∧ w'.ownsRow 0 74 1 (.slice (some ⟨g, 0, none⟩) (n - (j - i)) cap) (n - (j - i)) (T.take i ++ T.drop j) ∧ Only g W w' → Q e w') := fun e w' hh => by rw [← hQ]; exact hh
  clear hQ h4 hcl hA hap hE hEl hV2o hV2b hV2 hZ hZl hDl hDD hD hVo hVb hV hsrc hA2 hai hz hs1 hNl hN hTc hTl hT h1c h2 h5
  have hic : i ≤ cap := by omega
  have hjc : j ≤ cap := by omega
  have hne : ¬ ((i : Int) = (j : Int)) := by omega
  have q : decide ((i : Int) = (j : Int)) = false := decide_eq_false hne
  go_enter Try.func46, Try.ntmps46
  go_wp2_with fail
  refine wp_region_held (S := fun _ => True) (by kernel_rfl) ?_
  show wpAnyH _ _ _ _ _ 8 (Array.replicate 8 false) _ W.drew
  refine take_one (i := 0) (d := some 20) (v := .slice (some ⟨g, 0, none⟩) n cap) rfl rfl rfl (by kernel_rfl) (by kernel_rfl) (by kernel_rfl) (fun _ _ d _ _ h => by cases d <;> exact h) (fun W hS => by kernel_rfl) trivial ?_
  simp only [Act.put, List.setIfInBounds_toArray, List.set_cons_zero, List.set_cons_succ]
  refine take_one (i := 1) (d := some 21) (v := .int .i64 (i : Int)) rfl rfl rfl (by kernel_rfl) (by kernel_rfl) (by kernel_rfl) (fun _ _ d _ _ h => by cases d <;> exact h) (fun W hS => by kernel_rfl) trivial ?_
  simp only [Act.put, List.setIfInBounds_toArray, List.set_cons_zero, List.set_cons_succ]
  refine take_one (i := 2) (d := some 22) (v := .slice (some ⟨g, 0, none⟩) i cap) rfl rfl rfl (by kernel_rfl) (by kernel_rfl) (by kernel_rfl) (fun _ _ d _ _ h => by cases d <;> exact h) (fun W hS => ex_slcE (.tmp 20) none (some (.tmp 21)) rfl rfl rfl rfl (slp_hi g i n cap _ hic H4.out)) trivial ?_
  simp only [Act.put, List.setIfInBounds_toArray, List.set_cons_zero, List.set_cons_succ]
  refine take_one (i := 3) (d := some 23) (v := .slice (some ⟨g, 0, none⟩) n cap) rfl rfl rfl (by kernel_rfl) (by kernel_rfl) (by kernel_rfl) (fun _ _ d _ _ h => by cases d <;> exact h) (fun W hS => by kernel_rfl) trivial ?_
  simp only [Act.put, List.setIfInBounds_toArray, List.set_cons_zero, List.set_cons_succ]
  refine take_one (i := 4) (d := some 24) (v := .int .i64 (j : Int)) rfl rfl rfl (by kernel_rfl) (by kernel_rfl) (by kernel_rfl) (fun _ _ d _ _ h => by cases d <;> exact h) (fun W hS => by kernel_rfl) trivial ?_
  simp only [Act.put, List.setIfInBounds_toArray, List.set_cons_zero, List.set_cons_succ]
  refine take_one (i := 5) (d := some 25) (v := .slice (some A) (n - j) (cap - j)) rfl rfl rfl (by kernel_rfl) (by kernel_rfl) (by kernel_rfl) (fun _ _ d _ _ h => by cases d <;> exact h) (fun W hS => ex_slcE (.tmp 23) (some (.tmp 24)) none rfl rfl rfl rfl (HA.out _)) trivial ?_
  simp only [Act.put, List.setIfInBounds_toArray, List.set_cons_zero, List.set_cons_succ]
  refine all_one (i := 6) (by kernel_rfl) rfl rfl ?_
  refine wp_effX (d := some 26) (v := .slice (some ⟨g, 0, none⟩) (i + (n - j)) cap) (w2 := V) rfl (ex_apE (.tmp 22) (.tmp 25) rfl rfl rfl (HAP.out _)) ⟨trivial, ?_⟩
  simp only [Act.put, List.setIfInBounds_toArray, List.set_cons_zero, List.set_cons_succ]
  refine take_one (i := 7) (d := some 0) (v := .slice (some ⟨g, 0, none⟩) (i + (n - j)) cap) rfl rfl rfl (by kernel_rfl) (by kernel_rfl) (by kernel_rfl) (fun _ _ d _ _ h => by cases d <;> exact h) (fun W hS => by kernel_rfl) trivial ?_
  simp only [Act.put, List.setIfInBounds_toArray, List.set_cons_zero, List.set_cons_succ]
  refine wpAnyH_done (by kernel_rfl) ?_ _
  have hl1 : i + (n - j) ≤ n := by omega
  have hl2 : i + (n - j) < cap := by omega
  have hcl := HCL.out
  rw [hen] at hcl
  clear HAP HA HCL
  go_wp2_with fail
  try go_returns
  exact HQ.out _ _ ⟨by first | (rw [← hen]; rfl) | rfl, HF.out⟩
end Go.Proofs.Ytgndiblonhgihaa

namespace Go.Proofs.Ytgndiblonhgihaa
open Go Go.RowKit Go.Lib
set_option linter.unusedVariables false
set_option linter.unusedSimpArgs false

/-- No address has two places in a line. -/
def KN (L : List (PE × Nat)) : Prop := (L.map fun x => x.1.k).Nodup
theorem KN.kd {L : List (PE × Nat)} (h : KN L) : KD L := by
  unfold KN at h
  induction L with
  | nil => intro x hx; simp at hx
  | cons z l ih =>
    simp only [List.map_cons, List.nodup_cons] at h
    intro x hx y hy e
    rcases List.mem_cons.1 hx with ex | hx
    · rcases List.mem_cons.1 hy with ey | hy
      · rw [ex, ey]
      · exact absurd (List.mem_map.2 ⟨y, hy, by rw [← e, ex]⟩) h.1
    · rcases List.mem_cons.1 hy with ey | hy
      · exact absurd (List.mem_map.2 ⟨x, hx, by rw [e, ey]⟩) h.1
      · exact ih h.2 x hx y hy e
theorem KN.sub {L L' : List (PE × Nat)} (h : KN L) (hs : L'.Sublist L) : KN L' := List.Sublist.nodup (hs.map _) h
theorem cut_sub {α : Type} (L : List α) {i j : Nat} (h : i ≤ j) : (L.take i ++ L.drop j).Sublist L := by
  have h1 : (L.take i ++ L.drop j).Sublist (L.take i ++ L.drop i) := List.Sublist.append (List.Sublist.refl _) (by
    rw [show j = i + (j - i) by omega, ← List.drop_drop]
    exact List.drop_sublist _ _)
  rwa [List.take_append_drop] at h1
theorem KN.cut {L : List (PE × Nat)} (h : KN L) {i t : Nat} {x : PE × Nat} (hx : L[i + t]? = some x) : ∀ z, z ∈ L.take i ++ L.drop (i + (t + 1)) ↔ z ∈ L.take i ++ L.drop (i + t) ∧ z.1.k ≠ x.1.k := by
  have hd : L.drop (i + t) = x :: L.drop (i + (t + 1)) := by
    have hl := (List.getElem?_eq_some_iff.1 hx)
    obtain ⟨hl, he⟩ := hl
    rw [List.drop_eq_getElem_cons hl, he]
    rfl
  have hn : KN (L.take i ++ L.drop (i + t)) := h.sub (cut_sub L (by omega))
  rw [hd] at hn ⊢
  generalize L.take i = A at *
  generalize L.drop (i + (t + 1)) = B at *
  unfold KN at hn
  simp only [List.map_append, List.map_cons, List.nodup_append, List.nodup_cons, List.mem_cons, List.mem_map] at hn
  intro z
  simp only [List.mem_append, List.mem_cons]
  constructor
  · rintro (hz | hz)
    · exact ⟨.inl hz, fun e => hn.2.2 z.1.k ⟨z, hz, rfl⟩ x.1.k (.inl rfl) e⟩
    · exact ⟨.inr (.inr hz), fun e => hn.2.1.1 ⟨z, hz, e⟩⟩
  · rintro ⟨hz | rfl | hz, hne⟩
    · exact .inl hz
    · exact absurd rfl hne
    · exact .inr hz
theorem wp_delE {o : Oper} {a : Act} {w w2 : World} {K : Act → World → Prop} {Q : Exit → Act → World → Prop} (m k : Operand) (hop : o.op = Op.call { callee := Callee.builtin Builtin.delete, args := #[m, k], argTypes := #[61, 35] }) (hd : o.dst = none) {vm vk : Value} (hm : a.eval m = vm) (hk : a.eval k = vk) (hrun : (Builtin.delete_ #[61, 35] o.type #[vm, vk]).run Try.prog w = .ok (.tuple #[]) w2) (hK : K a w2) : o.wp Try.prog a w K Q := by
  have hK' : K (a.put o.dst (.tuple #[])) w2 := by rw [hd]; exact hK
  unfold Oper.wp
  simp [execOp, hop, resolve, invoke, builtin, hm, hk, hrun, Result.andThen]
  exact hK'
/-- Blocks of a cache that may turn. -/
structure Fr (pb mb : Nat) (line : Value) (w w' : World) : Prop where
  os : w'.os = w.os
  tape : w'.tape = w.tape
  output : w'.output = w.output
  size : w.heap.size ≤ w'.heap.size
  other : ∀ k, k < w.heap.size → k ≠ pb → k ≠ mb → line.ownBlock ≠ some k → w'.heap[k]? = w.heap[k]?
/-- What a cache keeps: blocks lie apart by what lies in them. -/
structure Keeps (pb : Nat) (cf : Cf) (now : Int) (mb : Nat) (line : Value) (L : List (PE × Nat)) (W : World) : Prop where
  p : Paths pb cf now mb line L W
  m : ∃ M, MapAt W mb M ∧ MapL M L
  kn : KN L
section
variable {pb mb : Nat} {cf : Cf} {now : Int} {line : Value} {L : List (PE × Nat)} {W : World} (h : Keeps pb cf now mb line L W)
include h
theorem Keeps.pm : pb ≠ mb := by
  obtain ⟨M, ⟨es, c, h1, _⟩, _⟩ := h.m
  intro e
  have := h.p.box
  rw [e, h1] at this
  simp at this
theorem Keeps.lm : line.ownBlock ≠ some mb := by
  obtain ⟨M, ⟨es, c, h1, _⟩, _⟩ := h.m
  intro e
  rcases h.p.row.2 with ⟨rfl, _⟩ | ⟨g, cap, cur, rfl, _, h2, _⟩
  · simp [Value.ownBlock] at e
  · simp [Value.ownBlock] at e
    rw [e, h1] at h2
    simp at h2
theorem Keeps.lp : line.ownBlock ≠ some pb := by
  intro e
  rcases h.p.row.2 with ⟨rfl, _⟩ | ⟨g, cap, cur, rfl, _, h2, _⟩
  · simp [Value.ownBlock] at e
  · simp [Value.ownBlock] at e
    have := h.p.box
    rw [← e, h2] at this
    simp at this
theorem Keeps.em {x : PE × Nat} (hx : x ∈ L) : x.2 ≠ mb := by
  obtain ⟨M, ⟨es, c, h1, _⟩, _⟩ := h.m
  intro e
  have h2 := (h.p.ents x hx).2
  unfold PE.At EntAt at h2
  rw [e, h1] at h2
  simp at h2
theorem Keeps.ep {x : PE × Nat} (hx : x ∈ L) : x.2 ≠ pb := by
  intro e
  have h2 := (h.p.ents x hx).2
  unfold PE.At EntAt at h2
  rw [e, h.p.box] at h2
  simp at h2
theorem Keeps.el {x : PE × Nat} (hx : x ∈ L) : line.ownBlock ≠ some x.2 := by
  intro e
  have h3 := (h.p.ents x hx).2
  unfold PE.At EntAt at h3
  rcases h.p.row.2 with ⟨rfl, _⟩ | ⟨g, cap, cur, rfl, _, h2, _⟩
  · simp [Value.ownBlock] at e
  · simp [Value.ownBlock] at e
    rw [← e, h2] at h3
    simp at h3
end
set_option maxHeartbeats 16000000 in
set_option maxRecDepth 100000 in
/-- Some go. -/
theorem forget_some {V : World} {pb mb : Nat} {cf : Cf} {now : Int} {line : Value} {L : List (PE × Nat)} (h : Keeps pb cf now mb line L V) {i j : Nat} (hij : i < j) (hj : j ≤ L.length) :
    Calls Try.prog 37 #[.pointer (some ⟨pb, 0, none⟩), .int .i64 (i : Int), .int .i64 (j : Int)] V fun e w' => e = .returned (.tuple #[]) ∧ ∃ line', Keeps pb cf now mb line' (L.take i ++ L.drop j) w' ∧ line'.ownBlock = line.ownBlock ∧ Fr pb mb line V w' ∧ w'.heap.size = V.heap.size := by
  generalize hQ : (fun (e : Ending) (w' : World) => e = .returned (.tuple #[]) ∧ ∃ line', Keeps pb cf now mb line' (L.take i ++ L.drop j) w' ∧ line'.ownBlock = line.ownBlock ∧ Fr pb mb line V w' ∧ w'.heap.size = V.heap.size) = Q
  have HQ : Hid (∀ e w', (e = .returned (.tuple #[]) ∧ ∃ line', Keeps pb cf now mb line' (L.take i ++ L.drop j) w' ∧ line'.ownBlock = line.ownBlock ∧ Fr pb mb line V w' ∧ w'.heap.size = V.heap.size) → Q e w') := fun e w' hh => by rw [← hQ]; exact hh
  clear hQ
  obtain ⟨M, hm, hML⟩ := h.m
  obtain ⟨g, cap, cur, hline, _, hg, hlc, hcm, hcs, hct⟩ : ∃ g cap cur, line = .slice (some ⟨g, 0, none⟩) L.length cap ∧ 0 ≤ g ∧ V.heap[g]? = some (.cells cur 74 (0, 0)) ∧ L.length ≤ cap ∧ cap ≤ maxLen ∧ cur.size = cap * 1 ∧ cur.toList.take (L.length * 1) = ptrs L := by
    rcases h.p.row.2 with ⟨_, h0⟩ | h2
    · omega
    · exact h2
  rw [Nat.mul_one] at hcs hct
  subst hline
  have hgm : g ≠ mb := fun e => h.lm (by rw [← e]; rfl)
  have hgp : g ≠ pb := fun e => h.lp (by rw [← e]; rfl)
  have hcellW : ∀ X : World, X.heap[g]? = V.heap[g]? → ∀ (t : Nat) (x : PE × Nat), L[t]? = some x → X.cell? ⟨g, t, none⟩ = some (Value.pointer (some ⟨x.2, 0, none⟩)) := fun X hX t x hx => by
    have h5 := (World.ownsRow.cellAt (own_same h.p.row (w' := X) (fun b hb => by simp [Value.ownBlock] at hb; rw [← hb]; exact hX)) t (by have := (List.getElem?_eq_some_iff.1 hx).1; omega))
    rw [h5]
    simp [ptrs, hx]
  have hN : j - i ≤ cap - i := by omega
  have hsm : ∀ w : World, (Instr.sliceAt 62 (.slice (some ⟨g, 0, none⟩) L.length cap) (some (.int .i64 i)) (some (.int .i64 j)) none).run Try.prog w = .ok (.slice (some ⟨g, i, none⟩) (j - i) (cap - i)) w := fun w => slp_mid g i j L.length cap w (by omega) (by omega) hcm (by omega)
  have HH : Hid (Keeps pb cf now mb (.slice (some ⟨g, 0, none⟩) L.length cap) L V) := h
  have HI : Hid (i < j ∧ j ≤ L.length ∧ L.length ≤ cap) := ⟨hij, hj, hlc⟩
  have HG : Hid (g ≠ mb ∧ g ≠ pb) := ⟨hgm, hgp⟩
  have HROW : Hid (V.heap[g]? = some (.cells cur 74) ∧ cap ≤ maxLen ∧ cur.size = cap ∧ cur.toList.take L.length = ptrs L) := ⟨hg, hcm, hcs, hct⟩
  have HCW : Hid _ := hcellW
  have HM0 : Hid (MapAt V mb M ∧ MapL M L) := ⟨hm, hML⟩
  have c6 : V.cell? ⟨pb, 6, none⟩ = some (.slice (some ⟨g, 0, none⟩) L.length cap) := h.p.cell 6 _ rfl
  have hji : ((j - i : Nat) : Int) = (j : Int) - i := by omega
  have hcb : cap ≤ 9223372036854775807 := by unfold maxLen at hcm; omega
  have hic : i ≤ cap := by omega
  have hjc : j ≤ cap := by omega
  have hle : i ≤ j := by omega
  have hne : ¬ cap = i := by omega
  clear h hm hML hg hlc hcm hcs hct hgm hgp hcellW hN
  go_enter Try.func37, Try.ntmps37
  go_wp2_with fail
  clear c6
  go_loopw [16] (fun iv wr => ∃ t : Nat, t ≤ j - i ∧ iv = .int .i64 t ∧ Hid (Only mb V wr ∧ ∃ M', MapAt wr mb M' ∧ MapL M' (L.take i ++ L.drop (i + t)))) (fun iv _ => (j - i) - (intOf iv).toNat)
  case atStart => exact ⟨0, by omega, rfl, Only.refl _ _, M, HM0.out.1, by rw [Nat.add_zero, List.take_append_drop]; exact HM0.out.2⟩
  case round =>
    obtain ⟨t, ht, rfl, hin⟩ := hrel
    by_cases hlt : t < j - i
    · obtain ⟨hon, M', hm', hml'⟩ := hin.out
      clear hin
      obtain ⟨x, hx⟩ : ∃ x, L[i + t]? = some x := ⟨_, List.getElem?_eq_getElem (by have := HI.out; omega)⟩
      have hcx := HCW.out wr (hon.other g HG.out.1) (i + t) x hx
      have hxm := List.mem_of_getElem? hx
      have q : decide ((t : Int) < (j : Int) - (i : Int)) = true := decide_eq_true (by omega)
      clear hji
      have HX : Hid (L[i + t]? = some x ∧ x ∈ L) := ⟨hx, hxm⟩
      have HON : Hid (Only mb V wr) := hon
      have HMM : Hid (MapAt wr mb M' ∧ MapL M' (L.take i ++ L.drop (i + t))) := ⟨hm', hml'⟩
      have HLT : Hid (t < j - i) := hlt
      clear hon hm' hml' hx hxm hlt
      go_wp2_with fail
      refine wp_region_held (S := fun X => X.heap[pb]? = some (.cells (pC cf now mb (.slice (some ⟨g, 0, none⟩) L.length cap)).toArray 64) ∧ EntAt X x.2 x.1.k x.1.m x.1.u) (by kernel_rfl) ?_
      show wpAnyH _ _ _ _ _ 9 (Array.replicate 9 false) _ wr.drew
      have s0 : wr.drew.heap[pb]? = some (.cells (pC cf now mb (.slice (some ⟨g, 0, none⟩) L.length cap)).toArray 64) ∧ EntAt wr.drew x.2 x.1.k x.1.m x.1.u := ⟨(HON.out.other pb HH.out.pm).trans HH.out.p.box, (HH.out.p.ents x HX.out.2).2.on (HON.out.other _ (HH.out.em HX.out.2))⟩
      have m0 : MapAt wr.drew mb M' := HMM.out.1.on rfl
      have o0 : Only mb V wr.drew := ⟨HON.out.os, HON.out.tape, HON.out.output, HON.out.size, HON.out.other⟩
      have kx : K16 x.1.k := ⟨(HH.out.p.ents x HX.out.2).1.1, (HH.out.p.ents x HX.out.2).1.2⟩
      obtain ⟨rr, hrr⟩ : ∃ rr, fnd x.1.k M' 0 = some rr := by
        cases hr : fnd x.1.k M' 0 with
        | some rr => exact ⟨rr, rfl⟩
        | none =>
          refine absurd rfl (HMM.out.2.lacks hr x ?_)
          refine List.mem_append.2 (.inr (List.mem_of_getElem? (i := 0) ?_))
          rw [List.getElem?_drop]
          exact HX.out.1
      have hsub : ∀ z ∈ L.take i ++ L.drop (i + t), z ∈ L := fun z hz => (cut_sub L (by omega)).subset hz
      obtain ⟨W2, hdel, m2, o2⟩ := drop16 kx m0 (HMM.out.2.keys (fun z hz => (HH.out.p.ents z (hsub z hz)).1)) hrr 0
      have s2 : W2.heap[pb]? = some (.cells (pC cf now mb (.slice (some ⟨g, 0, none⟩) L.length cap)).toArray 64) ∧ EntAt W2 x.2 x.1.k x.1.m x.1.u := ⟨(o2.other pb HH.out.pm).trans s0.1, s0.2.on (o2.other _ (HH.out.em HX.out.2))⟩
      have hxl := (HH.out.p.ents x HX.out.2).1.2
      have d2 : MapL (M'.eraseIdx rr.1) (L.take i ++ L.drop (i + (t + 1))) := HMM.out.2.drop hrr (HH.out.kn.cut HX.out.1)
      have o3 : Only mb V W2 := o0.trans o2
      generalize wr.drew = V0 at *
      refine take_one (i := 0) (d := some 20) (v := .pointer (some ⟨pb, 0, none⟩)) rfl rfl rfl (by kernel_rfl) (by kernel_rfl) (by kernel_rfl) (fun _ _ d _ _ h => by cases d <;> exact h) (fun W hS => by kernel_rfl) s0 ?_
      simp only [Act.put, List.setIfInBounds_toArray, List.set_cons_zero, List.set_cons_succ]
      refine take_one (i := 1) (d := some 21) (v := .pointer (some ⟨pb, 0, none⟩)) rfl rfl rfl (by kernel_rfl) (by kernel_rfl) (by kernel_rfl) (fun _ _ d _ _ h => by cases d <;> exact h) (fun W hS => by kernel_rfl) s0 ?_
      simp only [Act.put, List.setIfInBounds_toArray, List.set_cons_zero, List.set_cons_succ]
      refine take_one (i := 2) (d := some 22) (v := .pointer (some ⟨pb, 5, none⟩)) rfl rfl rfl (by kernel_rfl) (by kernel_rfl) (by kernel_rfl) (fun _ _ d _ _ h => by cases d <;> exact h) (fun W hS => by kernel_rfl) s0 ?_
      simp only [Act.put, List.setIfInBounds_toArray, List.set_cons_zero, List.set_cons_succ]
      refine take_one (i := 3) (d := some 23) (v := .map (some mb)) rfl rfl rfl (by kernel_rfl) (by kernel_rfl) (by kernel_rfl) (fun _ _ d _ _ h => by cases d <;> exact h) (fun W hS => ex_loadA (.tmp 22) 61 rfl rfl (ld_map (blk_cell (j := 5) hS.1 rfl))) s0 ?_
      simp only [Act.put, List.setIfInBounds_toArray, List.set_cons_zero, List.set_cons_succ]
      refine take_one (i := 4) (d := some 24) (v := .pointer (some ⟨x.2, 0, none⟩)) rfl rfl rfl (by kernel_rfl) (by kernel_rfl) (by kernel_rfl) (fun _ _ d _ _ h => by cases d <;> exact h) (fun W hS => by kernel_rfl) s0 ?_
      simp only [Act.put, List.setIfInBounds_toArray, List.set_cons_zero, List.set_cons_succ]
      refine take_one (i := 5) (d := some 25) (v := .pointer (some ⟨x.2, 0, none⟩)) rfl rfl rfl (by kernel_rfl) (by kernel_rfl) (by kernel_rfl) (fun _ _ d _ _ h => by cases d <;> exact h) (fun W hS => by kernel_rfl) s0 ?_
      simp only [Act.put, List.setIfInBounds_toArray, List.set_cons_zero, List.set_cons_succ]
      refine take_one (i := 6) (d := some 26) (v := .pointer (some ⟨x.2, 0, none⟩)) rfl rfl rfl (by kernel_rfl) (by kernel_rfl) (by kernel_rfl) (fun _ _ d _ _ h => by cases d <;> exact h) (fun W hS => by kernel_rfl) s0 ?_
      simp only [Act.put, List.setIfInBounds_toArray, List.set_cons_zero, List.set_cons_succ]
      refine take_one (i := 7) (d := some 27) (v := .agg (u8s x.1.k).toArray) rfl rfl rfl (by kernel_rfl) (by kernel_rfl) (by kernel_rfl) (fun _ _ d _ _ h => by cases d <;> exact h) (fun W hS => ex_loadA (.tmp 26) 35 rfl rfl (load6 hxl (fun jj v hv => by have hjl := (List.getElem?_eq_some_iff.1 hv).1; simp only [u8s, List.getElem?_map, Option.map_eq_some_iff] at hv; obtain ⟨z, hz, rfl⟩ := hv; exact hS.2.byte jj z hz))) s0 ?_
      simp only [Act.put, List.setIfInBounds_toArray, List.set_cons_zero, List.set_cons_succ]
      refine all_one (i := 8) (by kernel_rfl) rfl rfl ?_
      refine wp_delE (.tmp 23) (.tmp 27) rfl rfl rfl rfl hdel ⟨s2, ?_⟩
      refine wpAnyH_done (by kernel_rfl) ?_ _
      have HIN : Hid (Only mb V W2 ∧ ∃ M', MapAt W2 mb M' ∧ MapL M' (L.take i ++ L.drop (i + (t + 1)))) := ⟨o3, _, m2, d2⟩
      clear s0 m0 o0 kx hrr hsub hdel m2 o2 s2 hxl d2 o3 HON HMM HX
      have hw : IntKind.i64.wrap ((t : Int) + 1) = ((t + 1 : Nat) : Int) := by rw [wrap_i64 _ ⟨by omega, by have := HLT.out; have := HI.out; omega⟩]; simp
      go_wp2_with fail
      go_roundw
      case rel => exact ⟨t + 1, by have := HLT.out; omega, by first | rfl | simp, HIN.out⟩
      case measure => have := HLT.out; simp [intOf]; omega
    · have e : t = j - i := by omega
      have q : decide ((t : Int) < (j : Int) - (i : Int)) = false := decide_eq_false (by omega)
      clear hji
      obtain ⟨hon, M', hm', hml'⟩ := hin.out
      clear hin
      rw [show i + t = j by have := HI.out; omega] at hml'
      have c6 : wr.cell? ⟨pb, 6, none⟩ = some (.slice (some ⟨g, 0, none⟩) L.length cap) := blk_cell (j := 6) ((hon.other pb HH.out.pm).trans HH.out.p.box) rfl
      have HON : Hid (Only mb V wr) := hon
      have HMM : Hid (MapAt wr mb M' ∧ MapL M' (L.take i ++ L.drop j)) := ⟨hm', hml'⟩
      have HD := del_some (W := wr) (g := g) (cap := cap) (n := L.length) (cur := cur) ((hon.other g HG.out.1).trans HROW.out.1) HI.out.2.2 HROW.out.2.1 HROW.out.2.2.1 (fun u hu => by
        rw [HROW.out.2.2.2] at hu
        obtain ⟨z, _, rfl⟩ := List.mem_map.1 hu
        rfl) HI.out.1 HI.out.2.1
      have HD : Hid _ := HD
      clear hon hm' hml' ht e hlt
      go_wp2_with fail
      refine Calls.mono HD.out ?_
      rintro e w2 ⟨rfl, hrow, ho⟩
      have b2 : w2.heap[pb]? = some (.cells (pC cf now mb (.slice (some ⟨g, 0, none⟩) L.length cap)).toArray 64) := (ho.other pb (Ne.symm HG.out.2)).trans ((HON.out.other pb HH.out.pm).trans HH.out.p.box)
      have c7 : w2.cell? ⟨pb, 6, none⟩ = some (.slice (some ⟨g, 0, none⟩) L.length cap) := blk_cell (j := 6) b2 rfl
      have f7 : w2.frozen? ⟨pb, 6, none⟩ = false := blk_open b2 6
      obtain ⟨w3, hw3⟩ : ∃ w3, w3 = w2.setCell ⟨pb, 6, none⟩ (.slice (some ⟨g, 0, none⟩) (L.length - (j - i)) cap) := ⟨_, rfl⟩
      have b3 : w3.heap[pb]? = some (.cells (pC cf now mb (.slice (some ⟨g, 0, none⟩) (L.length - (j - i)) cap)).toArray 64) := by rw [hw3]; exact blk_set b2 6 _
      have o3 : Only pb w2 w3 := by rw [hw3]; exact (Only.refl pb w2).set 6 _
      have hlen : (L.take i ++ L.drop j).length = L.length - (j - i) := by have := HI.out; simp; omega
      have hother : ∀ k, k ≠ pb → k ≠ mb → k ≠ g → w3.heap[k]? = V.heap[k]? := fun k h1 h2 h3 => (o3.other k h1).trans ((ho.other k h3).trans (HON.out.other k h2))
      have HF : Hid (∃ line', Keeps pb cf now mb line' (L.take i ++ L.drop j) w3 ∧ line'.ownBlock = (Value.slice (some ⟨g, 0, none⟩) L.length cap).ownBlock ∧ Fr pb mb (.slice (some ⟨g, 0, none⟩) L.length cap) V w3 ∧ w3.heap.size = V.heap.size) := by
        have hsz : w3.heap.size = V.heap.size := o3.size.trans (ho.size.trans HON.out.size)
        refine ⟨.slice (some ⟨g, 0, none⟩) (L.length - (j - i)) cap, ⟨⟨b3, ?_, fun x hx => ?_⟩, ⟨M', HMM.out.1.on ((o3.other mb (Ne.symm HH.out.pm)).trans (ho.other mb (Ne.symm HG.out.1))), HMM.out.2⟩, HH.out.kn.sub (cut_sub L (by have := HI.out; omega))⟩, rfl, ⟨o3.os.trans (ho.os.trans HON.out.os), o3.tape.trans (ho.tape.trans HON.out.tape), o3.output.trans (ho.output.trans HON.out.output), by omega, fun k _ h1 h2 h3 => hother k h1 h2 (fun e => h3 (by rw [e]; rfl))⟩, hsz⟩
        · rw [hlen]
          have hp : ptrs (L.take i ++ L.drop j) = (cur.toList.take L.length).take i ++ (cur.toList.take L.length).drop j := by
            rw [HROW.out.2.2.2]
            simp [ptrs, List.map_take, List.map_drop]
          rw [hp]
          exact own_same hrow (fun b hb => o3.other b (fun e => HG.out.2 (by simp [Value.ownBlock] at hb; omega)))
        · have hxL : x ∈ L := (cut_sub L (by have := HI.out; omega)).subset hx
          have h1 := HH.out.p.ents x hxL
          exact ⟨h1.1, h1.2.on (hother x.2 (HH.out.ep hxL) (HH.out.em hxL) (fun e => HH.out.el hxL (by rw [e]; rfl)))⟩
      have hw := hw3.symm
      clear hw3 b2 b3 o3 hlen hother hrow ho HON HMM HD
      go_wp2_with fail
      try go_returns
      first
      | exact HQ.out _ _ ⟨rfl, HF.out⟩
      | (rw [hw]; exact HQ.out _ _ ⟨rfl, HF.out⟩)
end Go.Proofs.Ytgndiblonhgihaa
