/-
  Addresses as keys of 128 bits.
  key4, entry4, entry6 of package trie.
-/
import Derived.Test.YtenahbdopgmpfaaFold19
namespace Go.Proofs.Ytenahbdopgmpfaa
open Go Go.RowKit Go.Shelf
set_option linter.unusedVariables false
set_option linter.unusedSimpArgs false

theorem build_k0 (l : List Int) (hl : l.length = 16) (w : World) : (Instr.build 39 #[(0, A6 l), (1, .int .i64 128)]).run Try.prog w = .ok (P6 l 128) w := build6 l 128 hl w
theorem addr_key {l : List Int} (hf : FitB l) (hl : l.length = 16) : l = bytN 16 (bitsK l 128) := by
  refine row_ext (by rw [bytN_length, hl]) hf (bytN_fit _ _) (fun p hp => ?_)
  rw [hl] at hp
  rw [bitN_bytN _ _ _ (by omega), bt_bitsK, if_pos (by omega)]
theorem P6_key {l : List Int} (hf : FitB l) (hl : l.length = 16) : P6 l 128 = KV (bitsK l 128) := by
  show Value.agg (cp6 l 128).toArray = Value.agg (cp6 (bytN 16 (bitsK l 128)) (bitsK l 128).length).toArray
  rw [← addr_key hf hl, bitsK_length]
  rfl
end Go.Proofs.Ytenahbdopgmpfaa

namespace Go.Proofs.Ytenahbdopgmpfaa
open Go Go.RowKit Go.Shelf
set_option linter.unusedVariables false
set_option linter.unusedSimpArgs false

theorem res1u {P : Program} {fn : Func} {a : Tmp} {t : TypeId} (h : fn.results = #[.cell a t]) {tmps : Array Value} {R : Addr} (hp : tmps.getD a undef = .pointer (some R)) {v : Value} {w : World} (hl : (loadVar t R).run P w = .ok v w) :
    (results fn tmps).run P w = .ok v w := by
  rw [Array.getD_eq_getD_getElem?] at hp
  simp [results, h, hp, asAddr, hl]
theorem step_copyT {P : Program} {ops : Array Oper} {o : Oper} {a : Act} {w : World} {K : Act → World → Prop} {Q : Exit → Act → World → Prop} {E : Prop} {R : World → Prop} (hg : o.guard = none) (s x : Operand) (t u : TypeId)
    (hop : o.op = Op.call { callee := Callee.builtin Builtin.copy, args := #[s, x], argTypes := #[t, u] }) {vs vx : Value} (hs : a.eval s = vs) (hx : a.eval x = vx)
    (hex : ∃ v w2, (Builtin.copy_ #[t, u] o.type #[vs, vx]).run P w = .ok v w2 ∧ R w2) (hK : ∀ v w2, R w2 → K (a.put o.dst v) w2) :
    if Region.wanted o (yielded ops a.tmps) = true then Oper.wp P o a w K Q else E := by
  have hw : Region.wanted o (yielded ops a.tmps) = true := by simp [Region.wanted, hg]
  rw [if_pos hw]
  obtain ⟨v, w2, hrun, hr⟩ := hex
  unfold Oper.wp
  simp [execOp, hop, resolve, invoke, builtin, hs, hx, hrun, Result.andThen]
  exact hK _ _ hr
/-- A copy from the first cells of one block to those of another. -/
theorem copy_blk {w : World} {A B dl sl n : Nat} {ca cb : List Value} {ta tb : TypeId} (hA : w.heap[A]? = some (.cells ca.toArray ta)) (hB : w.heap[B]? = some (.cells cb.toArray tb)) (hn : n = Nat.min sl dl) (ha : n ≤ ca.length) (hb : n ≤ cb.length) (h1 : ∀ v ∈ cb, v.oneCell' = true) (ty : TypeId) :
    ∃ r w2, (Builtin.copy_ #[106, 106] ty #[.slice (some ⟨A, 0, none⟩) dl dl, .slice (some ⟨B, 0, none⟩) sl sl]).run Try.prog w = .ok r w2 ∧ (w2.heap[A]? = some (.cells (cb.take n ++ ca.drop n).toArray ta) ∧ Only A w w2) := by
  have hinf : (Try.prog.info? 5).map (·.size) = some 1 := by kernel_rfl
  have hl : (cb.take n).length = n := by rw [List.length_take]; omega
  have hbl := blk_sets (b := A) (t := ta) (cb.take n) 0 ca w hA
  rw [setsL_eq _ _ _ (by rw [hl]; omega)] at hbl
  refine ⟨_, _, run_copy_cells w _ _ ty 5 A 0 dl dl ⟨B, 0, none⟩ sl sl (cb.take n) Try.underlying106 hinf (by rw [hl, hn]) ?_ (fun j hj => ?_) (fun j _ => blk_open hA _) (fun v hv => h1 v (List.mem_of_mem_take hv)), ?_, Only.sets _ _ _ (Only.refl _ _)⟩
  · intro j x hj
    rw [Go.WideShapes.add_plain, Nat.zero_add]
    have hj2 : j < n := by
      have := (List.getElem?_eq_some_iff.1 hj).1
      rwa [hl] at this
    rw [List.getElem?_take, if_pos hj2] at hj
    exact blk_cell hB hj
  · rw [hl] at hj
    rw [Nat.zero_add, blk_cell hA (j := j) (v := ca[j]'(by omega)) (by simp)]
    rfl
  · rw [hbl, hl]
    simp
theorem build_k4 (n : Int) (W : World) : (Instr.build 39 #[(1, .int .i64 n)]).run Try.prog W = .ok (.agg (cp6 (List.replicate 16 0) n).toArray) W := run_build W _ _ _ (by kernel_rfl)
set_option maxHeartbeats 2000000 in
set_option maxRecDepth 100000 in
theorem key4_any (l : List Int) (hl : l.length = 4) (n : Int) (w : World) :
    Calls Try.prog 43 #[.agg (cp6 l n).toArray] w fun e w' => e = .returned (.agg (cp6 (l ++ List.replicate 12 0) n).toArray) ∧ Below w.heap.size w w' := by
  obtain ⟨W1, hW1⟩ : ∃ W1, W1 = (w.alloc (.cells (cp6 l n).toArray 35)).alloc (.cells zK.toArray 39) := ⟨_, rfl⟩
  have hB1 : Below w.heap.size w W1 := by rw [hW1]; exact ((Below.refl w.heap.size w).alloc (Nat.le_refl _) _).alloc (by simp) _
  have hs1 : W1.heap.size = w.heap.size + 2 := by rw [hW1]; simp
  have h5 : W1.heap[w.heap.size]? = some (.cells (cp6 l n).toArray 35) := by rw [hW1]; exact blk_alloc (blk_new w _) _
  have h17 : W1.heap[w.heap.size + 1]? = some (.cells zK.toArray 39) := by
    have := blk_new (w.alloc (.cells (cp6 l n).toArray 35)) (.cells zK.toArray 39)
    rw [show (w.alloc (.cells (cp6 l n).toArray 35)).heap.size = w.heap.size + 1 by simp] at this
    rw [hW1]; exact this
  have hl5 : (cp6 l n).length = 5 := by simp [cp6, u8s, hl]
  have c4 : W1.cell? ⟨w.heap.size, 4, none⟩ = some (.int .i64 n) := blk_cell h5 (by
    unfold cp6
    rw [List.getElem?_append_right (by simp [u8s, hl])]
    simp [u8s, hl])
  obtain ⟨w2, hst2, hb2, hB2⟩ := box_new (ty := 39) (n := 17) (fun w => by kernel_rfl) W1 zK rfl (cp6 (List.replicate 16 0) n) (by simp [cp6, u8s]) (cp6_one _ _)
  obtain ⟨r, w3, hcp, hc3, ho3⟩ := copy_blk (w := w2.drew) (A := W1.heap.size) (B := w.heap.size) (dl := 16) (sl := 4) (n := 4) hb2 (blk_on h5 hB2.drew) rfl (by simp [cp6, u8s]) (by rw [hl5]; omega) (cp6_one _ _) 3
  have e3 : (cp6 l n).take 4 ++ (cp6 (List.replicate 16 0) n).drop 4 = cp6 (l ++ List.replicate 12 0) n := by
    unfold cp6
    rw [List.take_append_of_le_length (by simp [u8s, hl]), List.take_of_length_le (by simp [u8s, hl]), List.drop_append_of_le_length (by simp [u8s])]
    simp [u8s, List.map_append]
  rw [e3] at hc3
  have hB3 : Below W1.heap.size W1 w3 := ((hB2.drew).trans (ho3.below (Nat.le_refl _)))
  have h17b := blk_on h17 hB3
  have hl17 : (cp6 (l ++ List.replicate 12 0) n).length = 17 := by simp [cp6, u8s, hl]
  obtain ⟨w4, hst4, hb4, ho4⟩ := box_store (n := 17) (fun w => by kernel_rfl) h17b (by rfl) (cp6 (l ++ List.replicate 12 0) n) hl17 (cp6_one _ _)
  have HC4 : Hid _ := c4
  have HST2 : Hid _ := hst2
  have HCP : Hid (∃ v w', (Builtin.copy_ #[106, 106] 3 #[.slice (some ⟨W1.heap.size, 0, none⟩) 16 16, .slice (some ⟨w.heap.size, 0, none⟩) 4 4]).run Try.prog w2.drew = .ok v w' ∧ w' = w3) := ⟨r, w3, hcp, rfl⟩
  have HL3 : Hid ((Instr.loadAt 39 (.pointer (some ⟨W1.heap.size, 0, none⟩))).run Try.prog w3 = .ok (.agg (cp6 (l ++ List.replicate 12 0) n).toArray) w3) := agg_load (n := 17) (fun w => by kernel_rfl) (fun w => by kernel_rfl) hl17 (CellsAt.of_blk hc3)
  have HST4 : Hid _ := hst4
  have HLV : Hid ((loadVar 39 ⟨w.heap.size + 1, 0, none⟩).run Try.prog w4 = .ok (.agg (cp6 (l ++ List.replicate 12 0) n).toArray) w4) := agg_loadVar (n := 17) (fun w => by kernel_rfl) (fun w => by kernel_rfl) hl17 (CellsAt.of_blk hb4)
  have HBF : Hid (Below w.heap.size w w4) := (hB1.trans (hB3.mono hB1.size)).trans (ho4.below (by omega))
  have hW := hW1.symm
  clear hst2 hb2 hB2 hcp hc3 ho3 e3 hB3 h17b hst4 hb4 ho4 h17 h5 hW1 hB1 c4
  rw [hs1] at HST2 HCP HL3
  have hbk := build_k4 n
  have HC4' : W1.cell? ⟨w.heap.size, 4, none⟩ = some (.int .i64 n) := HC4.out
  generalize cp6 (l ++ List.replicate 12 0) n = C17 at *
  generalize cp6 (List.replicate 16 0) n = C0 at *
  generalize hQ : (fun (e : Ending) (w' : World) => e = .returned (.agg C17.toArray) ∧ Below w.heap.size w w') = Q
  have HQ : Hid (∀ e w', e = .returned (.agg C17.toArray) ∧ Below w.heap.size w w' → Q e w') := fun e w' hh => by rw [← hQ]; exact hh
  clear hQ
  have HBK : Hid (∀ W : World, (Instr.build 39 #[(1, .int .i64 n)]).run Try.prog W = .ok (.agg C0.toArray) W) := hbk
  clear hbk
  generalize cp6 l n = C5 at *
  go_enter Try.func43, Try.ntmps43
  go_wp2_with first
    | ((with_reducible show wpList _ _ _ ({ dst := _, op := Op.build 39 _, type := _, pos := _, after := _, guard := _ } :: _) _ _); refine arm_build rfl 39 [(1, .tmp 5)] rfl rfl (HBK.out _) ?_)
    | ((with_reducible show wpList _ _ _ ({ dst := _, op := Op.store 39 (Operand.tmp 3) _, type := _, pos := _, after := _, guard := _ } :: _) _ _); refine armS (.tmp 3) (.tmp 6) 39 rfl rfl rfl rfl HST2.out ?_; try simp only [Act.put])
  go_region_law (refine step_copyT (R := fun w' => w' = w3) rfl _ _ _ _ rfl rfl rfl HCP.out ?_; rintro _ _ rfl)
  go_wp2_with first
    | ((with_reducible show wpList _ _ _ ({ dst := _, op := Op.load 39 (Operand.tmp 3), type := _, pos := _, after := _, guard := _ } :: _) _ _); refine armLv (.tmp 3) 39 rfl rfl rfl HL3.out ?_)
    | ((with_reducible show wpList _ _ _ ({ dst := _, op := Op.store 39 (Operand.tmp 2) _, type := _, pos := _, after := _, guard := _ } :: _) _ _); refine armS (.tmp 2) (.tmp 12) 39 rfl rfl rfl rfl HST4.out ?_; try simp only [Act.put])
  exact bodyPost_ret (res1u rfl rfl HLV.out) rfl (HQ.out _ _ ⟨rfl, HBF.out⟩)

/-- An entry's cells. -/
def enC (l : List Int) (n v : Int) : List Value := cp6 l n ++ [.int .i64 v]
theorem enC_one (l : List Int) (n v : Int) : ∀ u ∈ enC l n v, u.oneCell' = true := by
  intro u hu
  unfold enC at hu
  rcases List.mem_append.1 hu with h | h
  · exact cp6_one _ _ u h
  · simp at h; rw [h]; rfl
theorem enC_len (l : List Int) (n v : Int) : (enC l n v).length = l.length + 2 := by simp [enC, cp6, u8s]
theorem enC_n (l : List Int) (n v : Int) : (enC l n v)[l.length]? = some (.int .i64 n) := by
  unfold enC cp6
  rw [List.append_assoc, List.getElem?_append_right (by simp [u8s])]
  simp [u8s]
theorem enC_v (l : List Int) (n v : Int) : (enC l n v)[l.length + 1]? = some (.int .i64 v) := by
  unfold enC cp6
  rw [List.append_assoc, List.getElem?_append_right (by simp [u8s])]
  simp [u8s]
set_option maxHeartbeats 2000000 in
set_option maxRecDepth 100000 in
theorem entry4_any (l : List Int) (hl : l.length = 16) (n v : Int) (w : World) :
    Calls Try.prog 44 #[.agg (enC l n v).toArray] w fun e w' => e = .returned (.agg (enC (l.take 4) n v).toArray) ∧ Below w.heap.size w w' := by
  obtain ⟨W1, hW1⟩ : ∃ W1, W1 = (w.alloc (.cells (enC l n v).toArray 85)).alloc (.cells #[.int .u8 0, .int .u8 0, .int .u8 0, .int .u8 0, .int .i64 0, .int .i64 0] 47) := ⟨_, rfl⟩
  have hB1 : Below w.heap.size w W1 := by rw [hW1]; exact ((Below.refl w.heap.size w).alloc (Nat.le_refl _) _).alloc (by simp) _
  have hs1 : W1.heap.size = w.heap.size + 2 := by rw [hW1]; simp
  have h18 : W1.heap[w.heap.size]? = some (.cells (enC l n v).toArray 85) := by rw [hW1]; exact blk_alloc (blk_new w _) _
  have h6 : W1.heap[w.heap.size + 1]? = some (.cells [.int .u8 0, .int .u8 0, .int .u8 0, .int .u8 0, .int .i64 0, .int .i64 0].toArray 47) := by
    have := blk_new (w.alloc (.cells (enC l n v).toArray 85)) (.cells [.int .u8 0, .int .u8 0, .int .u8 0, .int .u8 0, .int .i64 0, .int .i64 0].toArray 47)
    rw [show (w.alloc (.cells (enC l n v).toArray 85)).heap.size = w.heap.size + 1 by simp] at this
    rw [hW1]; exact this
  have c16 : W1.cell? ⟨w.heap.size, 16, none⟩ = some (.int .i64 n) := blk_cell h18 (by have := enC_n l n v; rwa [hl] at this)
  have c17 : W1.cell? ⟨w.heap.size, 17, none⟩ = some (.int .i64 v) := blk_cell h18 (by have := enC_v l n v; rwa [hl] at this)
  obtain ⟨W2, hW2⟩ : ∃ W2, W2 = W1.alloc (.cells #[.int .u8 0, .int .u8 0, .int .u8 0, .int .u8 0, .int .i64 n, .int .i64 v] 47) := ⟨_, rfl⟩
  have hB2 : Below W1.heap.size W1 W2 := by rw [hW2]; exact (Below.refl W1.heap.size W1).alloc (Nat.le_refl _) _
  have hb2 : W2.heap[W1.heap.size]? = some (.cells [.int .u8 0, .int .u8 0, .int .u8 0, .int .u8 0, .int .i64 n, .int .i64 v].toArray 47) := by rw [hW2]; exact blk_new W1 _
  obtain ⟨r, w3, hcp, hc3, ho3⟩ := copy_blk (w := W2.drew) (A := W1.heap.size) (B := w.heap.size) (dl := 4) (sl := 16) (n := 4) hb2 (blk_on h18 hB2.drew) rfl (by simp) (by rw [enC_len, hl]; omega) (enC_one _ _ _) 3
  have e3 : (enC l n v).take 4 ++ [Value.int .u8 0, .int .u8 0, .int .u8 0, .int .u8 0, .int .i64 n, .int .i64 v].drop 4 = enC (l.take 4) n v := by
    unfold enC cp6
    rw [List.append_assoc, List.take_append_of_le_length (by simp [u8s, hl])]
    simp [u8s, List.map_take]
  rw [e3] at hc3
  have hB3 : Below W1.heap.size W1 w3 := ((hB2.drew).trans (ho3.below (Nat.le_refl _)))
  have hl6 : (enC (l.take 4) n v).length = 6 := by simp [enC_len, hl]
  obtain ⟨w4, hst4, hb4, ho4⟩ := box_store (n := 6) (fun w => by kernel_rfl) (blk_on h6 hB3) (by rfl) (enC (l.take 4) n v) hl6 (enC_one _ _ _)
  have HCP : Hid (∃ v w', (Builtin.copy_ #[106, 106] 3 #[.slice (some ⟨W1.heap.size, 0, none⟩) 4 4, .slice (some ⟨w.heap.size, 0, none⟩) 16 16]).run Try.prog W2.drew = .ok v w' ∧ w' = w3) := ⟨r, w3, hcp, rfl⟩
  have HL3 : Hid ((Instr.loadAt 47 (.pointer (some ⟨W1.heap.size, 0, none⟩))).run Try.prog w3 = .ok (.agg (enC (l.take 4) n v).toArray) w3) := agg_load (n := 6) (fun w => by kernel_rfl) (fun w => by kernel_rfl) hl6 (CellsAt.of_blk hc3)
  have HST4 : Hid _ := hst4
  have HLV : Hid ((loadVar 47 ⟨w.heap.size + 1, 0, none⟩).run Try.prog w4 = .ok (.agg (enC (l.take 4) n v).toArray) w4) := agg_loadVar (n := 6) (fun w => by kernel_rfl) (fun w => by kernel_rfl) hl6 (CellsAt.of_blk hb4)
  have HBF : Hid (Below w.heap.size w w4) := (hB1.trans (hB3.mono hB1.size)).trans (ho4.below (by omega))
  have hW := hW1.symm
  have hWb := hW2.symm
  have HS1 : Hid (W1.heap.size = w.heap.size + 2) := hs1
  clear hb2 hB2 hcp hc3 ho3 e3 hB3 hst4 hb4 ho4 h6 h18 hW1 hB1 hW2 hs1
  generalize enC (l.take 4) n v = C6 at *
  generalize hQ : (fun (e : Ending) (w' : World) => e = .returned (.agg C6.toArray) ∧ Below w.heap.size w w') = Q
  have HQ : Hid (∀ e w', e = .returned (.agg C6.toArray) ∧ Below w.heap.size w w' → Q e w') := fun e w' hh => by rw [← hQ]; exact hh
  clear hQ
  generalize enC l n v = C18 at *
  go_enter Try.func44, Try.ntmps44
  go_wp2_with fail
  go_region_law (refine step_copyT (R := fun w' => w' = w3) rfl _ _ _ _ rfl rfl rfl HCP.out ?_; rintro _ _ rfl)
  go_wp2_with first
    | ((with_reducible show wpList _ _ _ ({ dst := _, op := Op.load 47 (Operand.tmp 3), type := _, pos := _, after := _, guard := _ } :: _) _ _); refine armLv (.tmp 3) 47 rfl rfl rfl HL3.out ?_)
    | ((with_reducible show wpList _ _ _ ({ dst := _, op := Op.store 47 (Operand.tmp 2) _, type := _, pos := _, after := _, guard := _ } :: _) _ _); refine armS (.tmp 2) (.tmp 18) 47 rfl rfl rfl rfl HST4.out ?_; try simp only [Act.put])
  exact bodyPost_ret (res1u rfl rfl HLV.out) rfl (HQ.out _ _ ⟨rfl, HBF.out⟩)
theorem build_e6 (l : List Int) (hl : l.length = 16) (n v : Int) (W : World) : (Instr.build 51 #[(0, .agg (cp6 l n).toArray), (1, .int .i64 v)]).run Try.prog W = .ok (.agg (enC l n v).toArray) W := by
  obtain ⟨a0, a1, a2, a3, a4, a5, a6, a7, a8, a9, a10, a11, a12, a13, a14, a15, rfl⟩ := six16 hl
  exact run_build W _ _ _ (by kernel_rfl)
set_option maxHeartbeats 2000000 in
set_option maxRecDepth 100000 in
theorem entry6_any (l : List Int) (hl : l.length = 16) (n v : Int) (w : World) :
    Calls Try.prog 45 #[.agg (enC l n v).toArray] w fun e w' => e = .returned (.agg (enC l n v).toArray) ∧ Below w.heap.size w w' := by
  obtain ⟨W1, hW1⟩ : ∃ W1, W1 = (w.alloc (.cells (enC l n v).toArray 85)).alloc (.cells zL.toArray 51) := ⟨_, rfl⟩
  have hB1 : Below w.heap.size w W1 := by rw [hW1]; exact ((Below.refl w.heap.size w).alloc (Nat.le_refl _) _).alloc (by simp) _
  have h18 : W1.heap[w.heap.size]? = some (.cells (enC l n v).toArray 85) := by rw [hW1]; exact blk_alloc (blk_new w _) _
  have h6 : W1.heap[w.heap.size + 1]? = some (.cells zL.toArray 51) := by
    have := blk_new (w.alloc (.cells (enC l n v).toArray 85)) (.cells zL.toArray 51)
    rw [show (w.alloc (.cells (enC l n v).toArray 85)).heap.size = w.heap.size + 1 by simp] at this
    rw [hW1]; exact this
  have c17 : W1.cell? ⟨w.heap.size, 17, none⟩ = some (.int .i64 v) := blk_cell h18 (by have := enC_v l n v; rwa [hl] at this)
  have hl18 : (enC l n v).length = 18 := by rw [enC_len, hl]
  have hl17 : (cp6 l n).length = 17 := by simp [cp6, u8s, hl]
  have HL1 : Hid ((Instr.loadAt 39 (.pointer (some ⟨w.heap.size, 0, none⟩))).run Try.prog W1 = .ok (.agg (cp6 l n).toArray) W1) := agg_load (n := 17) (fun w => by kernel_rfl) (fun w => by kernel_rfl) hl17 (CellsAt.fst (ys := [.int .i64 v]) (CellsAt.of_blk h18))
  obtain ⟨w4, hst4, hb4, ho4⟩ := box_store (n := 18) (fun w => by kernel_rfl) h6 (by rfl) (enC l n v) hl18 (enC_one _ _ _)
  have HST4 : Hid _ := hst4
  have HLV : Hid ((loadVar 51 ⟨w.heap.size + 1, 0, none⟩).run Try.prog w4 = .ok (.agg (enC l n v).toArray) w4) := agg_loadVar (n := 18) (fun w => by kernel_rfl) (fun w => by kernel_rfl) hl18 (CellsAt.of_blk hb4)
  have HBF : Hid (Below w.heap.size w w4) := hB1.trans (ho4.below (by omega))
  have HBL : Hid _ := build_e6 l hl n v
  have hW := hW1.symm
  clear hst4 hb4 ho4 h6 h18 hW1 hB1 hl17 hl18
  generalize enC l n v = C18 at *
  generalize cp6 l n = C17 at *
  generalize hQ : (fun (e : Ending) (w' : World) => e = .returned (.agg C18.toArray) ∧ Below w.heap.size w w') = Q
  have HQ : Hid (∀ e w', e = .returned (.agg C18.toArray) ∧ Below w.heap.size w w' → Q e w') := fun e w' hh => by rw [← hQ]; exact hh
  clear hQ
  go_enter Try.func45, Try.ntmps45
  go_wp2_with first
    | ((with_reducible show wpList _ _ _ ({ dst := _, op := Op.load 39 (Operand.tmp 3), type := _, pos := _, after := _, guard := _ } :: _) _ _); refine armLv (.tmp 3) 39 rfl rfl rfl HL1.out ?_)
    | ((with_reducible show wpList _ _ _ ({ dst := _, op := Op.build 51 _, type := _, pos := _, after := _, guard := _ } :: _) _ _); refine arm_build rfl 51 [(0, .tmp 4), (1, .tmp 6)] rfl rfl (HBL.out _) ?_)
    | ((with_reducible show wpList _ _ _ ({ dst := _, op := Op.store 51 (Operand.tmp 2) _, type := _, pos := _, after := _, guard := _ } :: _) _ _); refine armS (.tmp 2) (.tmp 7) 51 rfl rfl rfl rfl HST4.out ?_; try simp only [Act.put])
  exact bodyPost_ret (res1u rfl rfl HLV.out) rfl (HQ.out _ _ ⟨rfl, HBF.out⟩)
end Go.Proofs.Ytenahbdopgmpfaa
