/-
  How many first bits of a byte are 0.
  How many bits two addresses have alike ahead of the first that differs.
-/
import Derived.Test.YtenahbdopgmpfaaFold13
import Derived.Laws.BitsAllLaws
namespace Go.Proofs.Ytenahbdopgmpfaa
open Go Go.RowKit Go.Shelf
set_option linter.unusedVariables false
set_option linter.unusedSimpArgs false
/-- How many bits a byte needs. -/
def ln8 (x : Nat) : Nat := if x = 0 then 0 else if x < 2 then 1 else if x < 4 then 2 else if x < 8 then 3 else if x < 16 then 4 else if x < 32 then 5 else if x < 64 then 6 else if x < 128 then 7 else 8
theorem ln8_le (x : Nat) : ln8 x ≤ 8 := by
  unfold ln8
  repeat' split
  all_goals omega
set_option maxHeartbeats 1000000 in
set_option maxRecDepth 100000 in
theorem Len8_calls (x : Nat) (hx : x < 256) (w : World) : Calls Try.prog 88 #[.int .u8 (x : Int)] w fun e w' => e = .returned (.int .i64 (ln8 x : Nat)) ∧ w' = w := by
  go_enter Try.func88, Try.ntmps88
  go_wp2
  go_ret
  refine ⟨congrArg (fun z => Ending.returned (.int .i64 z)) ?_, rfl⟩
  rename_i h
  revert h
  revert hx
  revert x
  decide +kernel
def clz (x : Nat) : Nat := 8 - ln8 x
theorem clz_tab : ∀ x, x < 256 → x ≠ 0 → clz x < 8 ∧ bk x (7 - clz x) ≠ 0 ∧ ∀ j, j < 8 → j < clz x → bk x (7 - j) = 0 := by decide +kernel
set_option maxHeartbeats 1000000 in
set_option maxRecDepth 100000 in
theorem LZ8_calls (x : Nat) (hx : x < 256) (w : World) : Calls Try.prog 87 #[.int .u8 (x : Int)] w fun e w' => e = .returned (.int .i64 (clz x : Nat)) ∧ w' = w := by
  have HC : Hid _ := fun w => Len8_calls x hx w
  have hl := ln8_le x
  have e8 : (8 : Int) - (ln8 x : Nat) = (clz x : Nat) := by unfold clz; omega
  have hz : clz x ≤ 8 := by unfold clz; omega
  generalize clz x = c at *
  generalize ln8 x = l at *
  go_enter Try.func87, Try.ntmps87
  go_wp2_with fail
  refine Calls.mono (HC.out _) ?_
  rintro e w' ⟨rfl, rfl⟩
  go_wp2
  go_ret
  refine ⟨congrArg (fun z => Ending.returned (.int .i64 z)) ?_, rfl⟩
  first | exact e8 | (simp only [wrap64]; omega) | omega
end Go.Proofs.Ytenahbdopgmpfaa

namespace Go.Proofs.Ytenahbdopgmpfaa
open Go Go.RowKit Go.Shelf
set_option linter.unusedVariables false
set_option linter.unusedSimpArgs false

theorem bk_test (z k : Nat) : bk z k = (z.testBit k).toNat := by
  rw [Nat.testBit_eq_decide_div_mod_eq, bk]
  have := Nat.mod_lt (z / 2 ^ k) (by decide : 0 < 2)
  by_cases h : z / 2 ^ k % 2 = 1
  · simp [h]
  · have : z / 2 ^ k % 2 = 0 := by omega
    simp [this]
theorem bk_xor (z y k : Nat) : bk (z ^^^ y) k = 0 ↔ bk z k = bk y k := by
  rw [bk_test, bk_test, bk_test, Nat.testBit_xor]
  cases z.testBit k <;> cases y.testBit k <;> decide
abbrev ByO (k : Bs) : Obj := .cells (u8s (bytN 16 k)).toArray 37
theorem ld_by {W : World} {b : Nat} {k : Bs} {i : Nat} (h : W.heap[b]? = some (ByO k)) (hi : i < 16) : (Instr.loadAt 5 (.pointer (some ⟨b, i, none⟩))).run Try.prog W = .ok (.int .u8 (byteV k i : Nat)) W := by
  have := blk_cell h (j := i) (v := .int .u8 (byteV k i : Nat)) (by simp [u8s, bytN, hi])
  simp [Instr.loadAt, go_sem, this]
theorem ex_xorT {o : Oper} {a : Act} {W : World} (i j : Nat) {u v : Nat} {t : TypeId} (hop : o.op = Op.binOp .xor 5 (.tmp i) (.tmp j) t) (hi : a.eval (.tmp i) = .int .u8 (u : Int)) (hj : a.eval (.tmp j) = .int .u8 (v : Int)) (hu : u < 256) (hv : v < 256) :
    (execOp a.eval o).run Try.prog W = .ok (.value (.int .u8 ((u ^^^ v : Nat) : Int))) W := by
  have e := u8_xor (u : Int) (v : Int) (by omega) (by omega) (by omega) (by omega)
  simp only [Int.toNat_natCast] at e
  generalize a.eval = ev at *
  simp [execOp, hop, hi, hj, go_sem, e]
theorem lead_next {p q : Bs} {k : Nat} (h : ∀ j, j < 8 * k → bt p j = bt q j) (he : byteV p k ^^^ byteV q k = 0) : ∀ j, j < 8 * (k + 1) → bt p j = bt q j := by
  intro j hj
  by_cases hlt : j < 8 * k
  · exact h j hlt
  · obtain ⟨r, hr, rfl⟩ : ∃ r, r < 8 ∧ j = 8 * k + r := ⟨j - 8 * k, by omega, by omega⟩
    rw [← byteV_bit p k r hr, ← byteV_bit q k r hr]
    exact (bk_xor _ _ _).1 (by rw [he]; simp [bk])
theorem lead_found {p q : Bs} {k : Nat} (hk : k < 16) (h : ∀ j, j < 8 * k → bt p j = bt q j) (he : byteV p k ^^^ byteV q k ≠ 0) :
    (∀ j, j < 8 * k + clz (byteV p k ^^^ byteV q k) → bt p j = bt q j) ∧ bt p (8 * k + clz (byteV p k ^^^ byteV q k)) ≠ bt q (8 * k + clz (byteV p k ^^^ byteV q k)) ∧ 8 * k + clz (byteV p k ^^^ byteV q k) < 128 := by
  have hx : byteV p k ^^^ byteV q k < 256 := Nat.xor_lt_two_pow (n := 8) (byteV_lt _ _) (byteV_lt _ _)
  obtain ⟨t1, t2, t3⟩ := clz_tab _ hx he
  refine ⟨fun j hj => ?_, fun e => ?_, by omega⟩
  · by_cases hlt : j < 8 * k
    · exact h j hlt
    · obtain ⟨r, hr, rfl⟩ : ∃ r, r < 8 ∧ j = 8 * k + r := ⟨j - 8 * k, by omega, by omega⟩
      rw [← byteV_bit p k r hr, ← byteV_bit q k r hr]
      exact (bk_xor _ _ _).1 (t3 r hr (by omega))
  · rw [← byteV_bit p k _ t1, ← byteV_bit q k _ t1] at e
    exact t2 ((bk_xor _ _ _).2 e)

set_option maxHeartbeats 2000000 in
set_option maxRecDepth 100000 in
theorem lead_any (p q : Bs) (w : World) :
    Calls Try.prog 85 #[A6 (bytN 16 p), A6 (bytN 16 q)] w fun e w' => ∃ L : Nat, e = .returned (.int .i64 (L : Nat)) ∧ (∀ j, j < L → bt p j = bt q j) ∧ (L < 128 → bt p L ≠ bt q L) ∧ L ≤ 128 ∧ Below w.heap.size w w' := by
  generalize hQ : (fun (e : Ending) (w' : World) => ∃ L : Nat, e = .returned (.int .i64 (L : Nat)) ∧ (∀ j, j < L → bt p j = bt q j) ∧ (L < 128 → bt p L ≠ bt q L) ∧ L ≤ 128 ∧ Below w.heap.size w w') = Q
  have HQ : Hid _ := hQ
  clear hQ
  have hB : Below w.heap.size w ((w.alloc (ByO p)).alloc (ByO q)) := ((Below.refl _ w).alloc (Nat.le_refl _) _).alloc (by simp) _
  have b0 := blk_alloc (blk_new w (ByO p)) (ByO q)
  have b1 := blk_new (w.alloc (ByO p)) (ByO q)
  rw [show (w.alloc (ByO p)).heap.size = w.heap.size + 1 by simp] at b1
  generalize hW : (w.alloc (ByO p)).alloc (ByO q) = W at *
  have HW : Hid ((w.alloc (.cells (u8s (bytN 16 p)).toArray 37)).alloc (.cells (u8s (bytN 16 q)).toArray 37) = W) := hW
  have HI : Hid _ := And.intro b0 (And.intro b1 hB)
  have HZ : Hid _ := fun x hx w => LZ8_calls x hx w
  clear hW hB b0 b1
  go_enter Try.func85, Try.ntmps85
  go_wp2
  rw [HW.out]
  go_loopw [7] (fun i wr => ∃ k : Nat, k ≤ 16 ∧ i = .int .i64 k ∧ (∀ j, j < 8 * k → bt p j = bt q j) ∧ wr.heap[w.heap.size]? = some (ByO p) ∧ wr.heap[w.heap.size + 1]? = some (ByO q) ∧ Below w.heap.size w wr) (fun i _ => 16 - (intOf i).toNat)
  case atStart => exact ⟨0, by omega, rfl, fun j hj => absurd hj (by omega), HI.out⟩
  case round =>
    obtain ⟨k, hk, rfl, hal, h0, h1, hBr⟩ := hrel
    have K0 : Hid _ := h0
    have K1 : Hid _ := h1
    have KB : Hid _ := hBr
    have HA : Hid _ := hal
    clear h0 h1 hBr hal
    by_cases hlt : k < 16
    · go_wp2_with fail
      refine wp_region_held (S := fun X => X.heap[w.heap.size]? = some (ByO p) ∧ X.heap[w.heap.size + 1]? = some (ByO q)) (by kernel_rfl) ?_
      show wpAnyH _ _ _ _ _ 8 (Array.replicate 8 false) _ wr.drew
      have hSX : wr.drew.heap[w.heap.size]? = some (ByO p) ∧ wr.drew.heap[w.heap.size + 1]? = some (ByO q) := ⟨K0.out, K1.out⟩
      have HKB : Hid (Below w.heap.size w wr.drew) := KB.out.trans ((Below.refl _ wr).drew.mono KB.out.size)
      have HSX : Hid _ := hSX
      generalize wr.drew = X at *
      refine take_one (i := 0) (d := some 10) (v := .int .i64 (k : Nat)) rfl rfl rfl (by kernel_rfl) (by kernel_rfl) (by kernel_rfl) (fun _ _ d _ _ h => by cases d <;> exact h) (fun W hS => ex_moveA (.tmp 5) rfl rfl) hSX ?_
      simp only [Act.put, List.setIfInBounds_toArray, List.set_cons_zero, List.set_cons_succ]
      refine take_one (i := 1) (d := some 11) (v := .pointer (some ⟨w.heap.size, k, none⟩)) rfl rfl rfl (by kernel_rfl) (by kernel_rfl) (by kernel_rfl) (fun _ _ d _ _ h => by cases d <;> exact h) (fun W hS => ex_ixA 2 10 rfl rfl rfl hlt) hSX ?_
      simp only [Act.put, List.setIfInBounds_toArray, List.set_cons_zero, List.set_cons_succ]
      refine take_one (i := 2) (d := some 12) (v := .int .u8 (byteV p k : Nat)) rfl rfl rfl (by kernel_rfl) (by kernel_rfl) (by kernel_rfl) (fun _ _ d _ _ h => by cases d <;> exact h) (fun W hS => ex_loadA (.tmp 11) 5 rfl rfl (ld_by hS.1 hlt)) hSX ?_
      simp only [Act.put, List.setIfInBounds_toArray, List.set_cons_zero, List.set_cons_succ]
      refine take_one (i := 3) (d := some 13) (v := .int .i64 (k : Nat)) rfl rfl rfl (by kernel_rfl) (by kernel_rfl) (by kernel_rfl) (fun _ _ d _ _ h => by cases d <;> exact h) (fun W hS => ex_moveA (.tmp 5) rfl rfl) hSX ?_
      simp only [Act.put, List.setIfInBounds_toArray, List.set_cons_zero, List.set_cons_succ]
      refine take_one (i := 4) (d := some 14) (v := .pointer (some ⟨w.heap.size + 1, k, none⟩)) rfl rfl rfl (by kernel_rfl) (by kernel_rfl) (by kernel_rfl) (fun _ _ d _ _ h => by cases d <;> exact h) (fun W hS => ex_ixA 3 13 rfl rfl rfl hlt) hSX ?_
      simp only [Act.put, List.setIfInBounds_toArray, List.set_cons_zero, List.set_cons_succ]
      refine take_one (i := 5) (d := some 15) (v := .int .u8 (byteV q k : Nat)) rfl rfl rfl (by kernel_rfl) (by kernel_rfl) (by kernel_rfl) (fun _ _ d _ _ h => by cases d <;> exact h) (fun W hS => ex_loadA (.tmp 14) 5 rfl rfl (ld_by hS.2 hlt)) hSX ?_
      simp only [Act.put, List.setIfInBounds_toArray, List.set_cons_zero, List.set_cons_succ]
      refine take_one (i := 6) (d := some 16) (v := .int .u8 ((byteV p k ^^^ byteV q k : Nat) : Int)) rfl rfl rfl (by kernel_rfl) (by kernel_rfl) (by kernel_rfl) (fun _ _ d _ _ h => by cases d <;> exact h) (fun W hS => ex_xorT 12 15 rfl rfl rfl (byteV_lt _ _) (byteV_lt _ _)) hSX ?_
      simp only [Act.put, List.setIfInBounds_toArray, List.set_cons_zero, List.set_cons_succ]
      refine take_one (i := 7) (d := some 6) (v := .int .u8 ((byteV p k ^^^ byteV q k : Nat) : Int)) rfl rfl rfl (by kernel_rfl) (by kernel_rfl) (by kernel_rfl) (fun _ _ d _ _ h => by cases d <;> exact h) (fun W hS => ex_asgT 16 rfl rfl) hSX ?_
      simp only [Act.put, List.setIfInBounds_toArray, List.set_cons_zero, List.set_cons_succ]
      refine wpAnyH_done (by kernel_rfl) ?_ _
      have hx : byteV p k ^^^ byteV q k < 256 := Nat.xor_lt_two_pow (n := 8) (byteV_lt _ _) (byteV_lt _ _)
      have HN : Hid _ := lead_next HA.out
      have HF : Hid _ := lead_found hlt HA.out
      clear hSX
      generalize byteV p k ^^^ byteV q k = x at *
      by_cases hx0 : x = 0
      · have q0 : ((x : Int) != 0) = false := by simp [hx0]
        go_show
        go_wp2
        try go_roundw
        case rel => exact ⟨k + 1, by omega, rfl, HN.out hx0, HSX.out.1, HSX.out.2, HKB.out⟩
        case measure => show 16 - (k + 1) < 16 - k; omega
      · have q0 : ((x : Int) != 0) = true := by simp [hx0]
        obtain ⟨f1, f2, f3⟩ := HF.out hx0
        have F1 : Hid _ := f1
        have F2 : Hid _ := f2
        clear f1 f2
        go_show
        go_wp2_with fail
        refine Calls.mono (HZ.out x hx _) ?_
        rintro e w9 ⟨rfl, rfl⟩
        generalize clz x = c at *
        have e1 : IntKind.i64.wrap (8 * (k : Int)) = 8 * (k : Int) := by rw [IntKind.wrap_i64]; omega
        have e2 : IntKind.i64.wrap (8 * (k : Int) + (c : Int)) = ((8 * k + c : Nat) : Int) := by rw [IntKind.wrap_i64]; omega
        go_wp2
        try go_ret
        rw [← HQ.out]
        refine ⟨8 * k + c, congrArg (fun z => Ending.returned (.int .i64 z)) ?_, F1.out, fun _ => F2.out, by omega, HKB.out⟩
        first | rfl | omega | (simp only [wrap64]; omega)
    · obtain rfl : k = 16 := by omega
      go_wp2
      try go_ret
      rw [← HQ.out]
      exact ⟨128, rfl, HA.out, fun h => absurd h (by omega), by omega, KB.out⟩
end Go.Proofs.Ytenahbdopgmpfaa
