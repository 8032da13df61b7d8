/-
  slices.Delete of a row of pointers.
-/
import Derived.Test.YtgndiblonhgihaaPn7
import Derived.ArgAppend
import Derived.Lib.SliceRun
namespace Go.Proofs.Ytgndiblonhgihaa
open Go Go.RowKit Go.Lib
set_option linter.unusedVariables false
set_option linter.unusedSimpArgs false

/-- A world of which one block alone may have turned. -/
structure But (o : Option Nat) (w w' : World) : Prop where
  os : w'.os = w.os
  tape : w'.tape = w.tape
  output : w'.output = w.output
  size : w'.heap.size = w.heap.size
  other : ∀ j, o ≠ some j → w'.heap[j]? = w.heap[j]?
theorem But.refl (o : Option Nat) (w : World) : But o w w := ⟨rfl, rfl, rfl, rfl, fun _ _ => rfl⟩
theorem infoP : ∃ i, Try.prog.info? 74 = some i ∧ i.zero = some (.pointer none) ∧ i.size = 1 := by
  have : (Try.prog.info? 74).map (fun i => (i.zero, i.size)) = some (some (.pointer none), 1) := by kernel_rfl
  obtain ⟨i, h1, h2⟩ := Option.map_eq_some_iff.1 this
  injection h2 with h2 h3
  exact ⟨i, h1, h2, h3⟩
theorem slp_hi (g n len c : Nat) (w : World) (h : n ≤ c) (hc : c ≤ maxLen) : (Instr.sliceAt 62 (.slice (some ⟨g, 0, none⟩) len c) none (some (.int .i64 n)) none).run Try.prog w = .ok (.slice (some ⟨g, 0, none⟩) n c) w := by
  have h1 : (n : Int) ≤ c := by omega
  have h2 : (0 : Int) ≤ n := by omega
  simp [Instr.sliceAt, go_sem, h1, h2, h]
theorem slp_lo (g n len c : Nat) (h : n ≤ len) (hl : len ≤ c) (hc : c ≤ maxLen) : ∃ a, (∀ w : World, (Instr.sliceAt 62 (.slice (some ⟨g, 0, none⟩) len c) (some (.int .i64 n)) none none).run Try.prog w = .ok (.slice (some a) (len - n) (c - n)) w) ∧ (n < len → a = ⟨g, n, none⟩) := by
  have h2 : (0 : Int) ≤ n := by omega
  by_cases hnc : c = n
  · refine ⟨⟨g, 0, none⟩, fun w => ?_, fun h3 => by omega⟩
    simp [Instr.sliceAt, go_sem, h2, h, hnc, hl]
    try omega
  · refine ⟨⟨g, n, none⟩, fun w => ?_, fun _ => rfl⟩
    simp [Instr.sliceAt, go_sem, h2, h, hnc, hl]
    try omega
theorem slp_mid (g i j len c : Nat) (w : World) (h : i ≤ j) (h2 : j ≤ c) (hc : c ≤ maxLen) (hi : i < c) : (Instr.sliceAt 62 (.slice (some ⟨g, 0, none⟩) len c) (some (.int .i64 i)) (some (.int .i64 j)) none).run Try.prog w = .ok (.slice (some ⟨g, i, none⟩) (j - i) (c - i)) w := by
  have h3 : (0 : Int) ≤ i := by omega
  have h4 : (0 : Int) ≤ j := by omega
  have h5 : ¬ c = i := by omega
  simp [Instr.sliceAt, go_sem, h3, h4, h, h2, h5]
theorem ex_slcE {o : Oper} {a : Act} {W : World} (x : Operand) (lo hi : Option Operand) (hop : o.op = Op.slice 62 x lo hi none) {vx v : Value} {vl vh : Option Value} (hx : a.eval x = vx) (hl : lo.map a.eval = vl) (hh : hi.map a.eval = vh) (hrun : (Instr.sliceAt 62 vx vl vh none).run Try.prog W = .ok v W) : (execOp a.eval o).run Try.prog W = .ok (.value v) W := by
  simp [execOp, hop, hx, hl, hh, hrun, Result.andThen]
theorem ex_apE {o : Oper} {a : Act} {W W' : World} (s x : Operand) (hop : o.op = Op.call { callee := Callee.builtin Builtin.append, args := #[s, x], argTypes := #[62, 62] }) {vs vx v : Value} (hs : a.eval s = vs) (hx : a.eval x = vx) (hrun : (Builtin.append_ #[62, 62] o.type #[vs, vx]).run Try.prog W = .ok v W') : (execOp a.eval o).run Try.prog W = .ok (.value v) W' := by
  simp [execOp, hop, resolve, invoke, builtin, hs, hx, hrun, Result.andThen]
set_option maxHeartbeats 4000000 in
set_option maxRecDepth 100000 in
/-- Nothing goes. -/
theorem del_none {W : World} {v : Value} {n : Nat} {xs : List Value} (h : W.ownsRow 0 74 1 v n xs) {i : Nat} (hi : i ≤ n) :
    Calls Try.prog 46 #[v, .int .i64 (i : Int), .int .i64 (i : Int)] W fun e w' => e = .returned v ∧ w' = W := by
  rcases h.2 with ⟨rfl, rfl⟩ | ⟨g, cap, cur, rfl, h1, h2, h3, h4, h5⟩
  · obtain rfl : i = 0 := by omega
    clear h
    go_enter Try.func46, Try.ntmps46
    go_wp2
    all_goals (go_ret; exact ⟨rfl, rfl⟩)
  · clear h h1 h2 h5
    have h6 : cap ≤ 9223372036854775807 := by unfold maxLen at h4; omega
    clear h4
    go_enter Try.func46, Try.ntmps46
    go_wp2
    all_goals (go_ret; exact ⟨rfl, rfl⟩)
set_option maxHeartbeats 8000000 in
set_option maxRecDepth 100000 in
/-- Some go. -/
theorem del_some {W : World} {g cap n : Nat} {cur : Array Value} (h2 : W.heap[g]? = some (.cells cur 74)) (h3 : n ≤ cap) (h4 : cap ≤ maxLen) (h5 : cur.size = cap) (h1c : ∀ u ∈ cur.toList.take n, u.oneCell' = true) {i j : Nat} (hij : i < j) (hj : j ≤ n) :
    Calls Try.prog 46 #[.slice (some ⟨g, 0, none⟩) n cap, .int .i64 (i : Int), .int .i64 (j : Int)] W fun e w' => e = .returned (.slice (some ⟨g, 0, none⟩) (n - (j - i)) cap) ∧ w'.ownsRow 0 74 1 (.slice (some ⟨g, 0, none⟩) (n - (j - i)) cap) (n - (j - i)) ((cur.toList.take n).take i ++ (cur.toList.take n).drop j) ∧ Only g W w' := by
  obtain ⟨C, rfl⟩ : ∃ C : List Value, cur = C.toArray := ⟨cur.toList, by simp⟩
  simp only [List.size_toArray] at h5
  simp only at h1c
  obtain ⟨T, hT⟩ : ∃ T, T = C.take n := ⟨_, rfl⟩
  rw [← hT] at h1c ⊢
  have hTl : T.length = n := by rw [hT]; simp; omega
  have hTc : ∀ t u, T[t]? = some u → C[t]? = some u := fun t u hu => by
    rw [hT, List.getElem?_take] at hu
    split at hu
    · exact hu
    · simp at hu
  obtain ⟨N, hN⟩ : ∃ N, N = T.drop j := ⟨_, rfl⟩
  have hNl : N.length = n - j := by rw [hN]; simp [hTl]
  obtain ⟨ai, hai, hz, hs1⟩ := infoP
  obtain ⟨A, hA, hA2⟩ := slp_lo g j n cap hj h3 h4
  have hsrc : ∀ t u, N[t]? = some u → W.drew.cell? (A.add t) = some u := fun t u hu => by
    have ht := (List.getElem?_eq_some_iff.1 hu).1
    rw [hA2 (by omega)]
    have e : (⟨g, j, none⟩ : Addr).add t = ⟨g, j + t, none⟩ := by unfold Addr.add; split <;> simp_all
    rw [e]
    refine blk_cell (w := W.drew) h2 (hTc _ _ ?_)
    rw [hN, List.getElem?_drop] at hu
    exact hu
  have hap : ∀ ty, (Builtin.append_ #[62, 62] ty #[.slice (some ⟨g, 0, none⟩) i cap, .slice (some A) (n - j) (cap - j)]).run Try.prog W.drew = .ok (.slice (some ⟨g, 0, none⟩) (i + (n - j)) cap) (W.drew.setCells g i N) := fun ty => by
    have := run_append_room_cells (P := Try.prog) W.drew 62 ty 74 ai Try.underlying62 hai g 0 i cap A (n - j) (cap - j) N (by rw [hNl, hs1]; omega) hsrc (fun u hu => h1c u (by rw [hN] at hu; exact List.mem_of_mem_drop hu)) (by omega)
      (fun t ht => by rw [hs1, blk_cell (w := W.drew) (v := C[0 + i * 1 + t]'(by omega)) h2 (by simp)]; rfl) (fun t ht => blk_open (w := W.drew) h2 _)
    rw [hs1, Nat.mul_one, Nat.zero_add] at this
    exact this
  obtain ⟨V, hV⟩ : ∃ V, V = W.drew.setCells g i N := ⟨_, rfl⟩
  have hVb : V.heap[g]? = some (.cells (setsL C i N).toArray 74) := by rw [hV]; exact blk_sets N i C W.drew h2
  have hVo : Only g W V := by rw [hV]; exact Only.sets N i _ ⟨rfl, rfl, rfl, rfl, fun _ _ => rfl⟩
  have hD : setsL C i N = C.take i ++ N ++ C.drop (i + N.length) := setsL_eq N i C (by omega)
  obtain ⟨D, hDD⟩ : ∃ D, D = setsL C i N := ⟨_, rfl⟩
  rw [← hDD] at hVb hD
  have hDl : D.length = cap := by rw [hD]; simp; omega
  obtain ⟨Z, hZ⟩ : ∃ Z, Z = List.replicate (j - i) (Value.pointer none) := ⟨_, rfl⟩
  have hZl : Z.length = j - i := by rw [hZ]; simp
  have hcl : ∀ ty, (Builtin.clear_ #[62] ty #[.slice (some ⟨g, i + (n - j), none⟩) (n - (i + (n - j))) (cap - (i + (n - j)))]).run Try.prog V = .ok (.tuple #[]) (V.setCells g (i + (n - j)) Z) := fun ty => by
    have := Lib.run_clear_slice (P := Try.prog) V 62 74 ty (.pointer none) Try.underlying62 (fun w => by kernel_rfl) rfl rfl g (i + (n - j)) (n - (i + (n - j))) (cap - (i + (n - j))) (by omega)
      (fun t ht => by rw [blk_cell (v := D[i + (n - j) + t]'(by omega)) hVb (by simp)]; rfl) (fun t ht => blk_open hVb _)
    rw [this, hZ, show n - (i + (n - j)) = j - i by omega]
  obtain ⟨V2, hV2⟩ : ∃ V2, V2 = V.setCells g (i + (n - j)) Z := ⟨_, rfl⟩
  have hV2b : V2.heap[g]? = some (.cells (setsL D (i + (n - j)) Z).toArray 74) := by rw [hV2]; exact blk_sets Z _ D V hVb
  have hV2o : Only g W V2 := by rw [hV2]; exact Only.sets Z _ _ hVo
  have hE : (setsL D (i + (n - j)) Z).take (i + (n - j)) = T.take i ++ T.drop j := by
    rw [setsL_eq Z _ D (by omega), List.append_assoc, List.take_append_of_le_length (by simp; omega), List.take_take, Nat.min_self, hD, List.append_assoc, ← List.append_assoc, List.take_append_of_le_length (by simp; omega), List.take_of_length_le (by simp; omega), hN, hT, List.take_take, Nat.min_eq_left (by omega)]
  have hEl : (setsL D (i + (n - j)) Z).length = cap := by rw [setsL_eq Z _ D (by omega)]; simp; omega
  have HF : Hid (V2.ownsRow 0 74 1 (.slice (some ⟨g, 0, none⟩) (n - (j - i)) cap) (n - (j - i)) (T.take i ++ T.drop j) ∧ Only g W V2) := by
    refine ⟨⟨by simp; omega, .inr ⟨g, cap, (setsL D (i + (n - j)) Z).toArray, rfl, Nat.zero_le _, hV2b, by omega, h4, by simp [hEl], ?_⟩⟩, hV2o⟩
    rw [Nat.mul_one, show n - (j - i) = i + (n - j) by omega]
    exact hE
  rw [← hV] at hap
  rw [← hV2] at hcl
  have HAP : Hid (∀ ty, (Builtin.append_ #[62, 62] ty #[.slice (some ⟨g, 0, none⟩) i cap, .slice (some A) (n - j) (cap - j)]).run Try.prog W.drew = .ok (.slice (some ⟨g, 0, none⟩) (i + (n - j)) cap) V) := hap
  have HA : Hid (∀ w : World, (Instr.sliceAt 62 (.slice (some ⟨g, 0, none⟩) n cap) (some (.int .i64 j)) none none).run Try.prog w = .ok (.slice (some A) (n - j) (cap - j)) w) := hA
  have HCL : Hid (∀ ty, (Builtin.clear_ #[62] ty #[.slice (some ⟨g, i + (n - j), none⟩) (n - (i + (n - j))) (cap - (i + (n - j)))]).run Try.prog V = .ok (.tuple #[]) V2) := hcl
  have hen : i + (n - j) = n - (j - i) := by omega
  have H4 : Hid (cap ≤ maxLen) := h4
  have h6 : cap ≤ 9223372036854775807 := by unfold maxLen at h4; omega
  generalize hQ : (fun (e : Ending) (w' : World) => e = .returned (.slice (some ⟨g, 0, none⟩) (n - (j - i)) cap) ∧ w'.ownsRow 0 74 1 (.slice (some ⟨g, 0, none⟩) (n - (j - i)) cap) (n - (j - i)) (T.take i ++ T.drop j) ∧ Only g W w') = Q
  have HQ : Hid (∀ e w', e = .returned (.slice (some ⟨g, 0, none⟩) (n - (j - i)) cap) ∧ w'.ownsRow 0 74 1 (.slice (some ⟨g, 0, none⟩) (n - (j - i)) cap) (n - (j - i)) (T.take i ++ T.drop j) ∧ Only g W w' → Q e w') := fun e w' hh => by rw [← hQ]; exact hh
  clear hQ h4 hcl hA hap hE hEl hV2o hV2b hV2 hZ hZl hDl hDD hD hVo hVb hV hsrc hA2 hai hz hs1 hNl hN hTc hTl hT h1c h2 h5
  have hic : i ≤ cap := by omega
  have hjc : j ≤ cap := by omega
  have hne : ¬ ((i : Int) = (j : Int)) := by omega
  have q : decide ((i : Int) = (j : Int)) = false := decide_eq_false hne
  go_enter Try.func46, Try.ntmps46
  go_wp2_with fail
  refine wp_region_held (S := fun _ => True) (by kernel_rfl) ?_
  show wpAnyH _ _ _ _ _ 8 (Array.replicate 8 false) _ W.drew
  refine take_one (i := 0) (d := some 20) (v := .slice (some ⟨g, 0, none⟩) n cap) rfl rfl rfl (by kernel_rfl) (by kernel_rfl) (by kernel_rfl) (fun _ _ d _ _ h => by cases d <;> exact h) (fun W hS => by kernel_rfl) trivial ?_
  simp only [Act.put, List.setIfInBounds_toArray, List.set_cons_zero, List.set_cons_succ]
  refine take_one (i := 1) (d := some 21) (v := .int .i64 (i : Int)) rfl rfl rfl (by kernel_rfl) (by kernel_rfl) (by kernel_rfl) (fun _ _ d _ _ h => by cases d <;> exact h) (fun W hS => by kernel_rfl) trivial ?_
  simp only [Act.put, List.setIfInBounds_toArray, List.set_cons_zero, List.set_cons_succ]
  refine take_one (i := 2) (d := some 22) (v := .slice (some ⟨g, 0, none⟩) i cap) rfl rfl rfl (by kernel_rfl) (by kernel_rfl) (by kernel_rfl) (fun _ _ d _ _ h => by cases d <;> exact h) (fun W hS => ex_slcE (.tmp 20) none (some (.tmp 21)) rfl rfl rfl rfl (slp_hi g i n cap _ hic H4.out)) trivial ?_
  simp only [Act.put, List.setIfInBounds_toArray, List.set_cons_zero, List.set_cons_succ]
  refine take_one (i := 3) (d := some 23) (v := .slice (some ⟨g, 0, none⟩) n cap) rfl rfl rfl (by kernel_rfl) (by kernel_rfl) (by kernel_rfl) (fun _ _ d _ _ h => by cases d <;> exact h) (fun W hS => by kernel_rfl) trivial ?_
  simp only [Act.put, List.setIfInBounds_toArray, List.set_cons_zero, List.set_cons_succ]
  refine take_one (i := 4) (d := some 24) (v := .int .i64 (j : Int)) rfl rfl rfl (by kernel_rfl) (by kernel_rfl) (by kernel_rfl) (fun _ _ d _ _ h => by cases d <;> exact h) (fun W hS => by kernel_rfl) trivial ?_
  simp only [Act.put, List.setIfInBounds_toArray, List.set_cons_zero, List.set_cons_succ]
  refine take_one (i := 5) (d := some 25) (v := .slice (some A) (n - j) (cap - j)) rfl rfl rfl (by kernel_rfl) (by kernel_rfl) (by kernel_rfl) (fun _ _ d _ _ h => by cases d <;> exact h) (fun W hS => ex_slcE (.tmp 23) (some (.tmp 24)) none rfl rfl rfl rfl (HA.out _)) trivial ?_
  simp only [Act.put, List.setIfInBounds_toArray, List.set_cons_zero, List.set_cons_succ]
  refine all_one (i := 6) (by kernel_rfl) rfl rfl ?_
  refine wp_effX (d := some 26) (v := .slice (some ⟨g, 0, none⟩) (i + (n - j)) cap) (w2 := V) rfl (ex_apE (.tmp 22) (.tmp 25) rfl rfl rfl (HAP.out _)) ⟨trivial, ?_⟩
  simp only [Act.put, List.setIfInBounds_toArray, List.set_cons_zero, List.set_cons_succ]
  refine take_one (i := 7) (d := some 0) (v := .slice (some ⟨g, 0, none⟩) (i + (n - j)) cap) rfl rfl rfl (by kernel_rfl) (by kernel_rfl) (by kernel_rfl) (fun _ _ d _ _ h => by cases d <;> exact h) (fun W hS => by kernel_rfl) trivial ?_
  simp only [Act.put, List.setIfInBounds_toArray, List.set_cons_zero, List.set_cons_succ]
  refine wpAnyH_done (by kernel_rfl) ?_ _
  have hl1 : i + (n - j) ≤ n := by omega
  have hl2 : i + (n - j) < cap := by omega
  have hcl := HCL.out
  rw [hen] at hcl
  clear HAP HA HCL
  go_wp2_with fail
  try go_returns
  exact HQ.out _ _ ⟨by first | (rw [← hen]; rfl) | rfl, HF.out⟩
end Go.Proofs.Ytgndiblonhgihaa
