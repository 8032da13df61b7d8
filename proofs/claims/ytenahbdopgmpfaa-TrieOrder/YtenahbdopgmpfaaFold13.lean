/-
  longest of any tree.
  side of a fork.
-/
import Derived.Test.YtenahbdopgmpfaaFold12
namespace Go.Proofs.Ytenahbdopgmpfaa
open Go Go.RowKit Go.Shelf
set_option linter.unusedVariables false
set_option linter.unusedSimpArgs false

def LgS (w : World) (n : Nat) (l : List Ent) (W : World) : Prop :=
  W.heap[n + 1]? = some (.cells (lastC l).toArray 85) ∧ W.heap[n + 2]? = some (.cells [Value.bool (lastB l)].toArray 4) ∧ Below n w W
theorem lg_tak (w : World) (p : Bs) : Tak (fun l W => LgS w w.heap.size l W ∧ W.heap[w.heap.size + 3]? = some (.cells (kC p).toArray 39)) (.func (.func 62) #[] #[.pointer (some ⟨w.heap.size + 1, 0, none⟩), .pointer (some ⟨w.heap.size + 2, 0, none⟩)]) := by
  refine ⟨?_, _, _, rfl, eg_longest1, ?_⟩
  · rintro l W W' ⟨⟨h1, h2, h3⟩, h4⟩ hb
    exact ⟨⟨blk_kept h1 hb, blk_kept h2 hb, h3.trans (hb.mono h3.size)⟩, blk_kept h4 hb⟩
  · rintro l k v W hk ⟨⟨h1, h2, h3⟩, h4⟩
    refine (longest1_calls k v (lastC l) (lastC_length l) (lastB l) (w.heap.size + 1) (w.heap.size + 2) w.heap.size (by omega) (by omega) (by omega) W h1 h2).mono ?_
    rintro e w' ⟨rfl, q1, q2, q3, q4⟩
    have l4 := (Array.getElem?_eq_some_iff.1 h4).1
    exact ⟨rfl, ⟨by rw [lastC_snoc]; exact q1, by rw [lastB_snoc]; exact q2, h3.trans q3⟩, (q4 _ l4 (by omega) (by omega)).trans h4⟩

set_option maxHeartbeats 2000000 in
set_option maxRecDepth 100000 in
theorem longest_any (t : Tr) (hok : t.Ok) (p : Bs) (hp : p.length ≤ 128) (w : World) :
    Calls Try.prog 42 #[enc t, KV p] w fun e w' => e = .returned (.tuple #[.agg (lastC (t.walk (fun k => pre k p))).toArray, .bool (lastB (t.walk (fun k => pre k p)))]) ∧ Below w.heap.size w w' := by
  generalize hQ : (fun (e : Ending) (w' : World) => e = .returned (.tuple #[.agg (lastC (t.walk (fun k => pre k p))).toArray, .bool (lastB (t.walk (fun k => pre k p)))]) ∧ Below w.heap.size w w') = Q
  have HQ : Hid _ := hQ
  clear hQ
  have hB0 : Below w.heap.size w (w.alloc (.cells (kC p).toArray 39)) := (Below.refl _ w).alloc (Nat.le_refl _) _
  have s0 : (w.alloc (.cells (kC p).toArray 39)).heap.size = w.heap.size + 1 := by simp
  have b0 := blk_new w (.cells (kC p).toArray 39)
  have s1 : ((w.alloc (.cells (kC p).toArray 39)).alloc (.cells zL.toArray 85)).heap.size = w.heap.size + 2 := by simp
  have b1 := blk_new (w.alloc (.cells (kC p).toArray 39)) (.cells zL.toArray 85)
  rw [s0] at b1
  have b2 := blk_new ((w.alloc (.cells (kC p).toArray 39)).alloc (.cells zL.toArray 85)) (.cells [Value.bool false].toArray 4)
  rw [s1] at b2
  have c0 := blk_alloc (blk_alloc b0 (.cells zL.toArray 85)) (.cells [Value.bool false].toArray 4)
  have c1 := blk_alloc b1 (.cells [Value.bool false].toArray 4)
  have hB : Below w.heap.size w (((w.alloc (.cells (kC p).toArray 39)).alloc (.cells zL.toArray 85)).alloc (.cells [Value.bool false].toArray 4)) := (hB0.alloc (by omega) _).alloc (by omega) _
  have s2 : (((w.alloc (.cells (kC p).toArray 39)).alloc (.cells zL.toArray 85)).alloc (.cells [Value.bool false].toArray 4)).heap.size = w.heap.size + 3 := by simp
  have H0 : Hid _ := kb_key (kb0 c0)
  generalize hW : (((w.alloc (.cells (kC p).toArray 39)).alloc (.cells zL.toArray 85)).alloc (.cells [Value.bool false].toArray 4)) = W at *
  have HW : Hid (((w.alloc (.cells (kC p).toArray 39)).alloc (.cells zL.toArray 85)).alloc (.cells [Value.bool false].toArray 4) = W) := hW
  clear hW
  have hT := lg_tak w p
  rw [← s2] at hT
  have HO : Hid _ := over_any (S := LgS w w.heap.size) p hp t hok [] W ⟨blk_alloc c1 _, blk_alloc b2 _, hB.alloc (by omega) _⟩ hT
  rw [List.nil_append] at HO
  generalize t.walk (fun k => pre k p) = L at HQ HO
  generalize enc t = T at HO ⊢
  clear hT c0 c1 b0 b1 b2 s0 s1 hB0 hB
  go_enter Try.func42, Try.ntmps42
  go_wp2_with first
    | ((with_reducible show wpList _ _ _ _ _ _); rw [HW.out]; refine armLv (.tmp 3) 39 rfl rfl rfl H0.out ?_)
  refine Calls.mono HO.out ?_
  rintro e w1 ⟨rfl, h1, h2, hB1⟩
  have HB1 : Hid _ := hB1
  have HH1 : Hid _ := h1
  have HH2 : Hid _ := h2
  clear h1 h2 hB1 HO H0
  go_wp2_with fail
  refine wp_region_held (S := fun X => X.heap[w.heap.size + 1]? = some (.cells (lastC L).toArray 85) ∧ X.heap[w.heap.size + 2]? = some (.cells [Value.bool (lastB L)].toArray 4)) (by kernel_rfl) ?_
  show wpAnyH _ _ _ _ _ 4 (Array.replicate 4 false) _ w1.drew
  have k1 : w1.drew.heap[w.heap.size + 1]? = some (.cells (lastC L).toArray 85) := HH1.out
  have k2 : w1.drew.heap[w.heap.size + 2]? = some (.cells [Value.bool (lastB L)].toArray 4) := HH2.out
  have kB : Below w.heap.size w w1.drew := HB1.out.trans ((Below.refl _ w1).drew.mono (Nat.le_refl _))
  generalize w1.drew = X at *
  refine take_one (i := 0) (d := some 10) (v := .agg (lastC L).toArray) rfl rfl rfl (by kernel_rfl) (by kernel_rfl) (by kernel_rfl) (fun _ _ d _ _ h => by cases d <;> exact h) (fun W hS => ex_loadA (.tmp 4) 85 rfl rfl (agg_load (n := 18) (fun w => by kernel_rfl) (fun w => by kernel_rfl) (lastC_length L) (CellsAt.of_blk hS.1))) ⟨k1, k2⟩ ?_
  simp only [Act.put, List.setIfInBounds_toArray, List.set_cons_zero, List.set_cons_succ]
  refine take_one (i := 1) (d := some 11) (v := .bool (lastB L)) rfl rfl rfl (by kernel_rfl) (by kernel_rfl) (by kernel_rfl) (fun _ _ d _ _ h => by cases d <;> exact h) (fun W hS => ex_loadA (.tmp 5) 4 rfl rfl (by have := blk_cell hS.2 (j := 0) rfl; simp [Instr.loadAt, go_sem, this])) ⟨k1, k2⟩ ?_
  simp only [Act.put, List.setIfInBounds_toArray, List.set_cons_zero, List.set_cons_succ]
  obtain ⟨w5, hst, q1, on5⟩ := box_store (ty := 85) (n := 18) (fun w => by kernel_rfl) k1 (lastC_length L) (lastC L) (lastC_length L) (lastC_one L)
  have q2 := (on5.other (w.heap.size + 2) (by omega)).trans k2
  refine all_one (i := 2) (by kernel_rfl) rfl rfl ?_
  refine wp_storeA (.tmp 4) (.tmp 10) 85 rfl rfl rfl rfl hst ⟨⟨q1, q2⟩, ?_⟩
  have hst2 := st_bool q2 (by simp : 0 < _) (lastB L)
  have r1 := blk_set_other q1 (show w.heap.size + 1 ≠ w.heap.size + 2 by omega) 0 (.bool (lastB L))
  have r2 := blk_set q2 0 (.bool (lastB L))
  have on6 : Only (w.heap.size + 2) w5 (w5.setCell ⟨w.heap.size + 2, 0, none⟩ (.bool (lastB L))) := (Only.refl _ w5).set 0 _
  refine all_one (i := 3) (by kernel_rfl) rfl rfl ?_
  refine wp_storeA (.tmp 5) (.tmp 11) 4 rfl rfl rfl rfl hst2 ⟨⟨r1, r2⟩, ?_⟩
  have kB2 : Below w.heap.size w (w5.setCell ⟨w.heap.size + 2, 0, none⟩ (.bool (lastB L))) := (kB.trans (on5.below (by omega))).trans (on6.below (by omega))
  generalize w5.setCell ⟨w.heap.size + 2, 0, none⟩ (.bool (lastB L)) = X2 at *
  have HLV : Hid ((loadVar 85 ⟨w.heap.size + 1, 0, none⟩).run Try.prog X2 = .ok (.agg (lastC L).toArray) X2) := agg_loadVar (n := 18) (fun w => by kernel_rfl) (fun w => by kernel_rfl) (lastC_length L) (CellsAt.of_blk r1)
  have HLB : Hid ((loadVar 4 ⟨w.heap.size + 2, 0, none⟩).run Try.prog X2 = .ok (.bool (lastB L)) X2) := by
    have := blk_cell r2 (j := 0) rfl
    show _ = _
    simp [loadVar, go_sem, this]
  have HKB : Hid _ := kB2
  clear r1 r2 on6 on5 q1 q2 hst hst2 k1 k2 kB kB2
  refine wpAnyH_done (by kernel_rfl) ?_ _
  go_show
  go_wp2
  refine bodyPost_ret (res_cell22 Try.results42 rfl rfl HLV.out HLB.out) rfl ?_
  rw [← HQ.out]
  exact ⟨rfl, HKB.out⟩
end Go.Proofs.Ytenahbdopgmpfaa

namespace Go.Proofs.Ytenahbdopgmpfaa
open Go Go.RowKit Go.Shelf
set_option linter.unusedVariables false
set_option linter.unusedSimpArgs false

theorem ex_quo8T {o : Oper} {a : Act} {W : World} (k : Nat) {t : TypeId} {N : Nat} (hop : o.op = Op.binOp .quo 3 (.tmp k) (.const (.int .i64 8)) t) (hk : a.eval (.tmp k) = .int .i64 (N : Int)) (hN : N ≤ 1000000) :
    (execOp a.eval o).run Try.prog W = .ok (.value (.int .i64 ((N / 8 : Nat) : Int))) W := by
  have hc : a.eval (.const (.int .i64 8)) = .int .i64 8 := rfl
  have e : IntKind.i64.wrap ((N : Int) / 8) = (N : Int) / 8 := by rw [IntKind.wrap_i64]; omega
  generalize a.eval = ev at *
  simp [execOp, hop, hk, hc, go_sem, e]
theorem ex_rem8T {o : Oper} {a : Act} {W : World} (k : Nat) {t : TypeId} {N : Nat} (hop : o.op = Op.binOp .rem 3 (.tmp k) (.const (.int .i64 8)) t) (hk : a.eval (.tmp k) = .int .i64 (N : Int)) (hN : N ≤ 1000000) :
    (execOp a.eval o).run Try.prog W = .ok (.value (.int .i64 ((N % 8 : Nat) : Int))) W := by
  have hc : a.eval (.const (.int .i64 8)) = .int .i64 8 := rfl
  have e : (N : Int).tmod 8 = (N : Int) % 8 := Int.tmod_eq_emod_of_nonneg (by omega)
  generalize a.eval = ev at *
  simp [execOp, hop, hk, hc, go_sem, e]
theorem ex_sub7T {o : Oper} {a : Act} {W : World} (k : Nat) {t : TypeId} {N : Nat} (hop : o.op = Op.binOp .sub 3 (.const (.int .i64 7)) (.tmp k) t) (hk : a.eval (.tmp k) = .int .i64 (N : Int)) (hN : N ≤ 7) :
    (execOp a.eval o).run Try.prog W = .ok (.value (.int .i64 ((7 - N : Nat) : Int))) W := by
  have hc : a.eval (.const (.int .i64 7)) = .int .i64 7 := rfl
  have e : IntKind.i64.wrap (7 - (N : Int)) = ((7 - N : Nat) : Int) := by rw [IntKind.wrap_i64]; omega
  generalize a.eval = ev at *
  simp [execOp, hop, hk, hc, go_sem, e]
theorem ex_add1T {o : Oper} {a : Act} {W : World} (k : Nat) {t : TypeId} {N : Nat} (hop : o.op = Op.binOp .add 3 (.const (.int .i64 1)) (.tmp k) t) (hk : a.eval (.tmp k) = .int .i64 (N : Int)) (hN : N ≤ 7) :
    (execOp a.eval o).run Try.prog W = .ok (.value (.int .i64 ((1 + N : Nat) : Int))) W := by
  have hc : a.eval (.const (.int .i64 1)) = .int .i64 1 := rfl
  have e : IntKind.i64.wrap (1 + (N : Int)) = 1 + (N : Int) := by rw [IntKind.wrap_i64]; omega
  generalize a.eval = ev at *
  simp [execOp, hop, hk, hc, go_sem, e]
theorem shr_cast (v q : Nat) : (v : Int) / 2 ^ q = ((v / 2 ^ q : Nat) : Int) := by simp
theorem ex_shrT {o : Oper} {a : Act} {W : World} (i j : Nat) {v q : Nat} (hop : o.op = Op.binOp .shr 5 (.tmp i) (.tmp j) 3) (hi : a.eval (.tmp i) = .int .u8 (v : Int)) (hj : a.eval (.tmp j) = .int .i64 (q : Int)) (hq : q ≤ 7) :
    (execOp a.eval o).run Try.prog W = .ok (.value (.int .u8 ((v / 2 ^ q : Nat) : Int))) W := by
  have e := shr_cast v q
  generalize a.eval = ev at *
  simp [execOp, hop, hi, hj, go_sem]
theorem bits_and1 : ∀ n : Fin 256, bits .and .u8 ((n.val : Nat) : Int) 1 = ((n.val % 2 : Nat) : Int) := by decide +kernel
theorem ex_and1T {o : Oper} {a : Act} {W : World} (i : Nat) {v : Nat} {t : TypeId} (hop : o.op = Op.binOp .and 5 (.tmp i) (.const (.int .u8 1)) t) (hi : a.eval (.tmp i) = .int .u8 (v : Int)) (hv : v < 256) :
    (execOp a.eval o).run Try.prog W = .ok (.value (.int .u8 ((v % 2 : Nat) : Int))) W := by
  have hc : a.eval (.const (.int .u8 1)) = .int .u8 1 := rfl
  have e := bits_and1 ⟨v, hv⟩
  simp only at e
  generalize a.eval = ev at *
  simp [execOp, hop, hi, hc, go_sem, e]
theorem ex_cvT {o : Oper} {a : Act} {W : World} (k : Nat) {x : Nat} (hop : o.op = Op.convert 5 3 (.tmp k)) (hk : a.eval (.tmp k) = .int .u8 (x : Int)) (hx : x < 1000) :
    (execOp a.eval o).run Try.prog W = .ok (.value (.int .i64 (x : Int))) W := by
  have e : IntKind.i64.wrap (x : Int) = x := by rw [IntKind.wrap_i64]; omega
  generalize a.eval = ev at *
  simp [execOp, hop, hk, go_sem, e]
theorem ex_asgT {o : Oper} {a : Act} {W : World} (k : Nat) {v : Value} (hop : o.op = Op.assign (.tmp k)) (hk : a.eval (.tmp k) = v) : (execOp a.eval o).run Try.prog W = .ok (.value v) W := by
  generalize a.eval = ev at *
  simp [execOp, hop, hk, go_sem]
theorem ex_ixA {o : Oper} {a : Act} {W : World} (i j : Nat) {b n : Nat} (hop : o.op = Op.indexAddr 37 (.tmp i) (.tmp j)) (hi : a.eval (.tmp i) = .pointer (some ⟨b, 0, none⟩)) (hj : a.eval (.tmp j) = .int .i64 (n : Int)) (hn : n < 16) :
    (execOp a.eval o).run Try.prog W = .ok (.value (.pointer (some ⟨b, n, none⟩))) W := by
  generalize a.eval = ev at *
  rcases (by omega : n = 0 ∨ n = 1 ∨ n = 2 ∨ n = 3 ∨ n = 4 ∨ n = 5 ∨ n = 6 ∨ n = 7 ∨ n = 8 ∨ n = 9 ∨ n = 10 ∨ n = 11 ∨ n = 12 ∨ n = 13 ∨ n = 14 ∨ n = 15) with rfl | rfl | rfl | rfl | rfl | rfl | rfl | rfl | rfl | rfl | rfl | rfl | rfl | rfl | rfl | rfl <;> (simp only [execOp, hop, hi, hj]; kernel_rfl)
theorem sd_bit {f p : Bs} (h : p.length ≠ f.length) : 1 + byteV p (f.length / 8) / 2 ^ (7 - f.length % 8) % 2 = Tr.sd f p := by
  have := byteV_bit p (f.length / 8) (f.length % 8) (by omega)
  unfold bk at this
  rw [this, sd_no h, show 8 * (f.length / 8) + f.length % 8 = f.length by omega]
  unfold bt nxtB
  cases p[f.length]?.getD false <;> rfl

set_option maxHeartbeats 2000000 in
set_option maxRecDepth 100000 in
theorem side_any (f p : Bs) (x y z : Value) (hp : p.length ≤ 128) (hf : f.length ≤ 128) (hlt : p.length ≠ f.length → f.length < 128) (w : World) :
    Calls Try.prog 77 #[FK f x y z, KV p] w fun e w' => e = .returned (.int .i64 (Tr.sd f p : Nat)) ∧ Below w.heap.size w w' := by
  generalize hQ : (fun (e : Ending) (w' : World) => e = .returned (.int .i64 (Tr.sd f p : Nat)) ∧ Below w.heap.size w w') = Q
  have HQ : Hid _ := hQ
  clear hQ
  have hB : Below w.heap.size w ((w.alloc (.cells (fkC f x y z).toArray 117)).alloc (.cells (kC p).toArray 39)) := ((Below.refl _ w).alloc (Nat.le_refl _) _).alloc (by simp) _
  have b0 := blk_alloc (blk_new w (.cells (fkC f x y z).toArray 117)) (.cells (kC p).toArray 39)
  have b1 := blk_new (w.alloc (.cells (fkC f x y z).toArray 117)) (.cells (kC p).toArray 39)
  rw [show (w.alloc (.cells (fkC f x y z).toArray 117)).heap.size = w.heap.size + 1 by simp] at b1
  generalize hW : ((w.alloc (.cells (fkC f x y z).toArray 117)).alloc (.cells (kC p).toArray 39)) = W at *
  have HW : Hid ((w.alloc (.cells (fkC f x y z).toArray 117)).alloc (.cells (kC p).toArray 39) = W) := hW
  have L0 : Hid ((Instr.loadAt 3 (.pointer (some ⟨w.heap.size, 16, none⟩))).run Try.prog W = .ok (.int .i64 f.length) W) := by
    have := kb_len (r := [x, y, z]) b0
    show _ = _
    simp [Instr.loadAt, go_sem, this]
  have L1 : Hid ((Instr.loadAt 3 (.pointer (some ⟨w.heap.size + 1, 16, none⟩))).run Try.prog W = .ok (.int .i64 p.length) W) := by
    have := kb_len (kb0 b1)
    show _ = _
    simp [Instr.loadAt, go_sem, this]
  have HB : Hid _ := hB
  have K0 : Hid _ := b0
  have K1 : Hid _ := b1
  clear hW hB b0 b1
  by_cases hc : p.length = f.length
  · have q : ((p.length : Int) == (f.length : Int)) = true := by simp [hc]
    have HZ : Hid _ := (sd_zero hc : Tr.sd f p = 0)
    clear hlt hc
    go_enter Try.func77, Try.ntmps77
    go_wp2_with first
      | ((with_reducible show wpList _ _ _ _ _ _); rw [HW.out]; refine armLv (.tmp 5) 3 rfl rfl rfl L1.out ?_)
      | ((with_reducible show wpList _ _ _ _ _ _); refine armLv (.tmp 8) 3 rfl rfl rfl L0.out ?_)
    try go_ret
    rw [← HQ.out, HZ.out]
    exact ⟨rfl, HB.out⟩
  · have q : ((p.length : Int) == (f.length : Int)) = false := by simp; omega
    have hl := hlt hc
    have HSD : Hid _ := sd_bit hc
    have hlt8 : byteV p (f.length / 8) / 2 ^ (7 - f.length % 8) < 256 := Nat.lt_of_le_of_lt (Nat.div_le_self _ _) (byteV_lt _ _)
    have HL8 : Hid _ := hlt8
    clear hlt hlt8
    go_enter Try.func77, Try.ntmps77
    go_wp2_with first
      | ((with_reducible show wpList _ _ _ _ _ _); rw [HW.out]; refine armLv (.tmp 5) 3 rfl rfl rfl L1.out ?_)
      | ((with_reducible show wpList _ _ _ _ _ _); refine armLv (.tmp 8) 3 rfl rfl rfl L0.out ?_)
    have hlt8 := HL8.out
    refine wp_region_held (S := fun X => X.heap[w.heap.size]? = some (.cells (kC f ++ [x, y, z]).toArray 117) ∧ X.heap[w.heap.size + 1]? = some (.cells (kC p).toArray 39)) (by kernel_rfl) ?_
    show wpAnyH _ _ _ _ _ 17 (Array.replicate 17 false) _ W.drew
    have hSX : W.drew.heap[w.heap.size]? = some (.cells (kC f ++ [x, y, z]).toArray 117) ∧ W.drew.heap[w.heap.size + 1]? = some (.cells (kC p).toArray 39) := ⟨K0.out, K1.out⟩
    have HKB : Hid (Below w.heap.size w W.drew) := HB.out.trans ((Below.refl _ W).drew.mono HB.out.size)
    generalize W.drew = X at *
    refine take_one (i := 0) (d := some 11) (v := .pointer (some ⟨w.heap.size, 0, none⟩)) rfl rfl rfl (by kernel_rfl) (by kernel_rfl) (by kernel_rfl) (fun _ _ d _ _ h => by cases d <;> exact h) (fun W hS => by kernel_rfl) hSX ?_
    simp only [Act.put, List.setIfInBounds_toArray, List.set_cons_zero, List.set_cons_succ]
    refine take_one (i := 1) (d := some 12) (v := .pointer (some ⟨w.heap.size, 16, none⟩)) rfl rfl rfl (by kernel_rfl) (by kernel_rfl) (by kernel_rfl) (fun _ _ d _ _ h => by cases d <;> exact h) (fun W hS => by kernel_rfl) hSX ?_
    simp only [Act.put, List.setIfInBounds_toArray, List.set_cons_zero, List.set_cons_succ]
    refine take_one (i := 2) (d := some 13) (v := .int .i64 (f.length : Int)) rfl rfl rfl (by kernel_rfl) (by kernel_rfl) (by kernel_rfl) (fun _ _ d _ _ h => by cases d <;> exact h) (fun W hS => ex_loadA (.tmp 12) 3 rfl rfl (by have := kb_len hS.1; simp [Instr.loadAt, go_sem, this])) hSX ?_
    simp only [Act.put, List.setIfInBounds_toArray, List.set_cons_zero, List.set_cons_succ]
    refine take_one (i := 3) (d := some 14) (v := .int .i64 ((f.length / 8 : Nat) : Int)) rfl rfl rfl (by kernel_rfl) (by kernel_rfl) (by kernel_rfl) (fun _ _ d _ _ h => by cases d <;> exact h) (fun W hS => ex_quo8T 13 rfl rfl (by omega)) hSX ?_
    simp only [Act.put, List.setIfInBounds_toArray, List.set_cons_zero, List.set_cons_succ]
    refine take_one (i := 4) (d := some 15) (v := .pointer (some ⟨w.heap.size + 1, 0, none⟩)) rfl rfl rfl (by kernel_rfl) (by kernel_rfl) (by kernel_rfl) (fun _ _ d _ _ h => by cases d <;> exact h) (fun W hS => by kernel_rfl) hSX ?_
    simp only [Act.put, List.setIfInBounds_toArray, List.set_cons_zero, List.set_cons_succ]
    refine take_one (i := 5) (d := some 16) (v := .pointer (some ⟨w.heap.size + 1, f.length / 8, none⟩)) rfl rfl rfl (by kernel_rfl) (by kernel_rfl) (by kernel_rfl) (fun _ _ d _ _ h => by cases d <;> exact h) (fun W hS => ex_ixA 15 14 rfl rfl rfl (by omega)) hSX ?_
    simp only [Act.put, List.setIfInBounds_toArray, List.set_cons_zero, List.set_cons_succ]
    refine take_one (i := 6) (d := some 17) (v := .int .u8 (byteV p (f.length / 8) : Nat)) rfl rfl rfl (by kernel_rfl) (by kernel_rfl) (by kernel_rfl) (fun _ _ d _ _ h => by cases d <;> exact h) (fun W hS => ex_loadA (.tmp 16) 5 rfl rfl (by have := kb_byte (kb0 hS.2) (f.length / 8) (by omega); simp [Instr.loadAt, go_sem, this])) hSX ?_
    simp only [Act.put, List.setIfInBounds_toArray, List.set_cons_zero, List.set_cons_succ]
    refine take_one (i := 7) (d := some 18) (v := .pointer (some ⟨w.heap.size, 0, none⟩)) rfl rfl rfl (by kernel_rfl) (by kernel_rfl) (by kernel_rfl) (fun _ _ d _ _ h => by cases d <;> exact h) (fun W hS => by kernel_rfl) hSX ?_
    simp only [Act.put, List.setIfInBounds_toArray, List.set_cons_zero, List.set_cons_succ]
    refine take_one (i := 8) (d := some 19) (v := .pointer (some ⟨w.heap.size, 16, none⟩)) rfl rfl rfl (by kernel_rfl) (by kernel_rfl) (by kernel_rfl) (fun _ _ d _ _ h => by cases d <;> exact h) (fun W hS => by kernel_rfl) hSX ?_
    simp only [Act.put, List.setIfInBounds_toArray, List.set_cons_zero, List.set_cons_succ]
    refine take_one (i := 9) (d := some 20) (v := .int .i64 (f.length : Int)) rfl rfl rfl (by kernel_rfl) (by kernel_rfl) (by kernel_rfl) (fun _ _ d _ _ h => by cases d <;> exact h) (fun W hS => ex_loadA (.tmp 19) 3 rfl rfl (by have := kb_len hS.1; simp [Instr.loadAt, go_sem, this])) hSX ?_
    simp only [Act.put, List.setIfInBounds_toArray, List.set_cons_zero, List.set_cons_succ]
    refine take_one (i := 10) (d := some 21) (v := .int .i64 ((f.length % 8 : Nat) : Int)) rfl rfl rfl (by kernel_rfl) (by kernel_rfl) (by kernel_rfl) (fun _ _ d _ _ h => by cases d <;> exact h) (fun W hS => ex_rem8T 20 rfl rfl (by omega)) hSX ?_
    simp only [Act.put, List.setIfInBounds_toArray, List.set_cons_zero, List.set_cons_succ]
    refine take_one (i := 11) (d := some 22) (v := .int .i64 ((7 - f.length % 8 : Nat) : Int)) rfl rfl rfl (by kernel_rfl) (by kernel_rfl) (by kernel_rfl) (fun _ _ d _ _ h => by cases d <;> exact h) (fun W hS => ex_sub7T 21 rfl rfl (by omega)) hSX ?_
    simp only [Act.put, List.setIfInBounds_toArray, List.set_cons_zero, List.set_cons_succ]
    refine take_one (i := 12) (d := some 23) (v := .int .u8 ((byteV p (f.length / 8) / 2 ^ (7 - f.length % 8) : Nat) : Int)) rfl rfl rfl (by kernel_rfl) (by kernel_rfl) (by kernel_rfl) (fun _ _ d _ _ h => by cases d <;> exact h) (fun W hS => ex_shrT 17 22 rfl rfl rfl (by omega)) hSX ?_
    simp only [Act.put, List.setIfInBounds_toArray, List.set_cons_zero, List.set_cons_succ]
    refine take_one (i := 13) (d := some 24) (v := .int .u8 ((byteV p (f.length / 8) / 2 ^ (7 - f.length % 8) % 2 : Nat) : Int)) rfl rfl rfl (by kernel_rfl) (by kernel_rfl) (by kernel_rfl) (fun _ _ d _ _ h => by cases d <;> exact h) (fun W hS => ex_and1T 23 rfl rfl hlt8) hSX ?_
    simp only [Act.put, List.setIfInBounds_toArray, List.set_cons_zero, List.set_cons_succ]
    refine take_one (i := 14) (d := some 25) (v := .int .i64 ((byteV p (f.length / 8) / 2 ^ (7 - f.length % 8) % 2 : Nat) : Int)) rfl rfl rfl (by kernel_rfl) (by kernel_rfl) (by kernel_rfl) (fun _ _ d _ _ h => by cases d <;> exact h) (fun W hS => ex_cvT 24 rfl rfl (by omega)) hSX ?_
    simp only [Act.put, List.setIfInBounds_toArray, List.set_cons_zero, List.set_cons_succ]
    refine take_one (i := 15) (d := some 26) (v := .int .i64 ((1 + byteV p (f.length / 8) / 2 ^ (7 - f.length % 8) % 2 : Nat) : Int)) rfl rfl rfl (by kernel_rfl) (by kernel_rfl) (by kernel_rfl) (fun _ _ d _ _ h => by cases d <;> exact h) (fun W hS => ex_add1T 25 rfl rfl (by omega)) hSX ?_
    simp only [Act.put, List.setIfInBounds_toArray, List.set_cons_zero, List.set_cons_succ]
    refine take_one (i := 16) (d := some 4) (v := .int .i64 ((1 + byteV p (f.length / 8) / 2 ^ (7 - f.length % 8) % 2 : Nat) : Int)) rfl rfl rfl (by kernel_rfl) (by kernel_rfl) (by kernel_rfl) (fun _ _ d _ _ h => by cases d <;> exact h) (fun W hS => ex_asgT 26 rfl rfl) hSX ?_
    simp only [Act.put, List.setIfInBounds_toArray, List.set_cons_zero, List.set_cons_succ]
    refine wpAnyH_done (by kernel_rfl) ?_ _
    rw [HSD.out]
    go_show
    go_wp2
    try go_ret
    rw [← HQ.out]
    exact ⟨rfl, HKB.out⟩
end Go.Proofs.Ytenahbdopgmpfaa
