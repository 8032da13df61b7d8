/-
  What catches a fault in Parse and Part of package ipv6.
-/
import Derived.Test.YtbaeogoojpngbaaYh
namespace Go.Proofs.Ytbaeogoojpngbaa
open Go Go.RowKit
set_option linter.unusedVariables false
set_option linter.unusedSimpArgs false

theorem ld_err {W : World} {p : Addr} {x : Int} (h : W.cell? p = some (.int .i64 x)) : (Instr.loadAt 29 (.pointer (some p))).run Try.prog W = .ok (.int .i64 x) W := by
  simp [Instr.loadAt, go_sem, h]
theorem st_err {W : World} {b j : Nat} {c : List Value} {t : TypeId} (h : W.heap[b]? = some (.cells c.toArray t)) (hj : j < c.length) (x : Int) : (Instr.storeAt 29 (.pointer (some ⟨b, j, none⟩)) (.int .i64 x)).run Try.prog W = .ok () (W.setCell ⟨b, j, none⟩ (.int .i64 x)) := by
  have h1 : W.cell? ⟨b, j, none⟩ = some (c[j]'hj) := blk_cell h (by simp)
  have h2 := blk_open h j
  simp [Instr.storeAt, go_sem, h1, h2]
theorem zeroV_one : ∀ v ∈ zeroV, v.oneCell' = true := by rw [zeroV_vC]; exact vC_one rfl rfl
/-- What Parse and Part answer. -/
def Par (whole : Bool) (zs : List Int) (B : Nat) (e : Ending) (w' : World) : Prop :=
  match parR whole zs with
  | .bad at' er => e = .returned (.tuple #[.agg zeroV.toArray, .int .i64 (at' : Int), .int .i64 er])
  | .ok hs g proto body => ∃ (hA : ((zs.drop 8).take 32).length = 32) (vh vb : Value), e = .returned (.tuple #[VV (finF (clsN zs) (labN zs) (gz zs 7) proto ((zs.drop 8).take 32) hA) g vh vb, .int .i64 0, .int .i64 0]) ∧ D6 (fun b => B ≤ b) w' (finF (clsN zs) (labN zs) (gz zs 7) proto ((zs.drop 8).take 32) hA) vh vb hs body
set_option maxHeartbeats 2000000 in
set_option maxRecDepth 100000 in
theorem catch_fault (w0 : World) (Q : Nat) (c : List Value) (x y at' e : Int) (w : World) (h : BoxW w0 w Q c x y) :
    CallsD Try.prog 30 #[.pointer (some ⟨Q, 0, none⟩), .pointer (some ⟨Q + 1, 0, none⟩), .pointer (some ⟨Q + 2, 0, none⟩)] (.panicking [fltP at' e]) w fun e' u' w' => e' = .returned (.tuple #[]) ∧ u' = .panicking [{ v := .iface 58 (.agg #[.int .i64 at', .int .i64 e]), recovered := true }] ∧ BoxW w0 w' Q zeroV at' e := by
  have ht := ta_yes (.agg #[.int .i64 at', .int .i64 e]) w
  unfold fltP
  refine callsD_of_wpS Try.func30 rfl fun c₀ cs hu => ?_
  apply wpS_seq
  refine wpS_region_rec (v := .iface 58 (.agg #[.int .i64 at', .int .i64 e])) (cs' := { c₀ with mode := .panicking [{ v := .iface 58 (.agg #[.int .i64 at', .int .i64 e]), recovered := true }] } :: cs) rfl rfl (by simp [recoverD, hu]) ?_
  simp only [Try.ntmps30, List.size_toArray, List.length_cons, List.length_nil, Nat.reduceAdd, Nat.reduceSub, Array.replicate_succ, Array.replicate_zero, List.push_toArray, List.append_toArray, List.nil_append, List.cons_append, Act.put, List.setIfInBounds_toArray, List.set_cons_zero, List.set_cons_succ]
  go_wp2
  refine wpS_of_wp ?_
  go_wp2_with fail
  have h1 := h.on ((Below.refl w.heap.size w).alloc (Nat.le_refl _) (.cells #[.int .i64 at', .int .i64 e] 58))
  have fb := blk_new w (.cells [.int .i64 at', .int .i64 e].toArray 58)
  have hne : Q + 2 < w.heap.size := (Array.getElem?_eq_some_iff.1 h.yb).1
  clear ht h
  generalize w.alloc (.cells #[.int .i64 at', .int .i64 e] 58) = W1 at *
  generalize w.heap.size = F at *
  have HBW : Hid (BoxW w0 W1 Q c x y) := h1
  have HFB : Hid (W1.heap[F]? = some (.cells [.int .i64 at', .int .i64 e].toArray 58)) := fb
  clear h1 fb
  refine region_mid (fun a0 a' w' => a' = (((((a0.put (some 11) (.agg zeroV.toArray)).put (some 12) (.pointer (some ⟨F, 0, none⟩))).put (some 13) (.int .i64 at')).put (some 14) (.pointer (some ⟨F, 1, none⟩))).put (some 15) (.int .i64 e)) ∧ BoxW w0 w' Q zeroV at' e) ?_ ?_
  · skip
    refine wp_region_held (S := fun X => X.heap[F]? = some (.cells [.int .i64 at', .int .i64 e].toArray 58)) (by kernel_rfl) ?_
    show wpAnyH _ _ _ _ _ 8 (Array.replicate 8 false) _ _
    have hs0 : W1.drew.heap[F]? = some (.cells [.int .i64 at', .int .i64 e].toArray 58) := HFB.out
    have hb0 := HBW.out.drew
    refine take_one (i := 0) (d := some 11) (v := .agg zeroV.toArray) rfl rfl rfl (by kernel_rfl) (by kernel_rfl) (by kernel_rfl) (fun _ _ _ _ _ h => h.elim) (fun W hS => by kernel_rfl) hs0 ?_
    simp only [Act.put, List.setIfInBounds_toArray, List.set_cons_zero, List.set_cons_succ]
    refine take_one (i := 1) (d := some 12) (v := .pointer (some ⟨F, 0, none⟩)) rfl rfl rfl (by kernel_rfl) (by kernel_rfl) (by kernel_rfl) (fun _ _ _ _ _ h => h.elim) (fun W hS => by kernel_rfl) hs0 ?_
    simp only [Act.put, List.setIfInBounds_toArray, List.set_cons_zero, List.set_cons_succ]
    refine take_one (i := 2) (d := some 13) (v := .int .i64 at') rfl rfl rfl (by kernel_rfl) (by kernel_rfl) (by kernel_rfl) (fun _ _ _ _ _ h => h.elim) (fun W hS => ex_loadA (.tmp 12) 3 rfl rfl (ld_int (blk_cell hS (j := 0) rfl))) hs0 ?_
    simp only [Act.put, List.setIfInBounds_toArray, List.set_cons_zero, List.set_cons_succ]
    refine take_one (i := 3) (d := some 14) (v := .pointer (some ⟨F, 1, none⟩)) rfl rfl rfl (by kernel_rfl) (by kernel_rfl) (by kernel_rfl) (fun _ _ _ _ _ h => h.elim) (fun W hS => by kernel_rfl) hs0 ?_
    simp only [Act.put, List.setIfInBounds_toArray, List.set_cons_zero, List.set_cons_succ]
    refine take_one (i := 4) (d := some 15) (v := .int .i64 e) rfl rfl rfl (by kernel_rfl) (by kernel_rfl) (by kernel_rfl) (fun _ _ _ _ _ h => h.elim) (fun W hS => ex_loadA (.tmp 14) 29 rfl rfl (ld_err (blk_cell hS (j := 1) rfl))) hs0 ?_
    simp only [Act.put, List.setIfInBounds_toArray, List.set_cons_zero, List.set_cons_succ]
    obtain ⟨W2, hst2, hb2, ho2⟩ := hb0.sets zeroV rfl zeroV_one
    have hs2 := (ho2.other F (by omega)).trans hs0
    refine all_one (i := 5) (by kernel_rfl) rfl rfl ?_
    refine wp_storeA (.tmp 0) (.tmp 11) 28 rfl rfl rfl rfl hst2 ⟨hs2, ?_⟩
    have hs3 := blk_set_other hs2 (show F ≠ Q + 1 by omega) 0 (.int .i64 at')
    have hb3 := hb2.setX at'
    refine all_one (i := 6) (by kernel_rfl) rfl rfl ?_
    refine wp_storeA (.tmp 1) (.tmp 13) 3 rfl rfl rfl rfl (st_int hb2.xb (j := 0) (by simp) at') ⟨hs3, ?_⟩
    have hs4 := blk_set_other hs3 (show F ≠ Q + 2 by omega) 0 (.int .i64 e)
    have hb4 := hb3.setY e
    refine all_one (i := 7) (by kernel_rfl) rfl rfl ?_
    refine wp_storeA (.tmp 2) (.tmp 15) 29 rfl rfl rfl rfl (st_err hb3.yb (j := 0) (by simp) e) ⟨hs4, ?_⟩
    refine wpAnyH_done (by kernel_rfl) ?_ _
    exact ⟨rfl, hb4⟩
  · rintro a' w' ⟨rfl, hb⟩
    simp only [Act.put, List.setIfInBounds_toArray, List.set_cons_zero, List.set_cons_succ]
    have HE : Hid (BoxW w0 w' Q zeroV at' e) := hb
    clear hb HBW HFB
    go_wp2
    all_goals exact ⟨rfl, _, rfl, _, results_none rfl _ _ _, rfl, rfl, HE.out⟩
set_option maxHeartbeats 2000000 in
set_option maxRecDepth 100000 in
theorem catch_faultP (w0 : World) (Q : Nat) (c : List Value) (x y at' e : Int) (w : World) (h : BoxW w0 w Q c x y) :
    CallsD Try.prog 35 #[.pointer (some ⟨Q, 0, none⟩), .pointer (some ⟨Q + 1, 0, none⟩), .pointer (some ⟨Q + 2, 0, none⟩)] (.panicking [fltP at' e]) w fun e' u' w' => e' = .returned (.tuple #[]) ∧ u' = .panicking [{ v := .iface 58 (.agg #[.int .i64 at', .int .i64 e]), recovered := true }] ∧ BoxW w0 w' Q zeroV at' e := by
  have ht := ta_yes (.agg #[.int .i64 at', .int .i64 e]) w
  unfold fltP
  refine callsD_of_wpS Try.func35 rfl fun c₀ cs hu => ?_
  apply wpS_seq
  refine wpS_region_rec (v := .iface 58 (.agg #[.int .i64 at', .int .i64 e])) (cs' := { c₀ with mode := .panicking [{ v := .iface 58 (.agg #[.int .i64 at', .int .i64 e]), recovered := true }] } :: cs) rfl rfl (by simp [recoverD, hu]) ?_
  simp only [Try.ntmps35, List.size_toArray, List.length_cons, List.length_nil, Nat.reduceAdd, Nat.reduceSub, Array.replicate_succ, Array.replicate_zero, List.push_toArray, List.append_toArray, List.nil_append, List.cons_append, Act.put, List.setIfInBounds_toArray, List.set_cons_zero, List.set_cons_succ]
  go_wp2
  refine wpS_of_wp ?_
  go_wp2_with fail
  have h1 := h.on ((Below.refl w.heap.size w).alloc (Nat.le_refl _) (.cells #[.int .i64 at', .int .i64 e] 58))
  have fb := blk_new w (.cells [.int .i64 at', .int .i64 e].toArray 58)
  have hne : Q + 2 < w.heap.size := (Array.getElem?_eq_some_iff.1 h.yb).1
  clear ht h
  generalize w.alloc (.cells #[.int .i64 at', .int .i64 e] 58) = W1 at *
  generalize w.heap.size = F at *
  have HBW : Hid (BoxW w0 W1 Q c x y) := h1
  have HFB : Hid (W1.heap[F]? = some (.cells [.int .i64 at', .int .i64 e].toArray 58)) := fb
  clear h1 fb
  refine region_mid (fun a0 a' w' => a' = (((((a0.put (some 11) (.agg zeroV.toArray)).put (some 12) (.pointer (some ⟨F, 0, none⟩))).put (some 13) (.int .i64 at')).put (some 14) (.pointer (some ⟨F, 1, none⟩))).put (some 15) (.int .i64 e)) ∧ BoxW w0 w' Q zeroV at' e) ?_ ?_
  · skip
    refine wp_region_held (S := fun X => X.heap[F]? = some (.cells [.int .i64 at', .int .i64 e].toArray 58)) (by kernel_rfl) ?_
    show wpAnyH _ _ _ _ _ 8 (Array.replicate 8 false) _ _
    have hs0 : W1.drew.heap[F]? = some (.cells [.int .i64 at', .int .i64 e].toArray 58) := HFB.out
    have hb0 := HBW.out.drew
    refine take_one (i := 0) (d := some 11) (v := .agg zeroV.toArray) rfl rfl rfl (by kernel_rfl) (by kernel_rfl) (by kernel_rfl) (fun _ _ _ _ _ h => h.elim) (fun W hS => by kernel_rfl) hs0 ?_
    simp only [Act.put, List.setIfInBounds_toArray, List.set_cons_zero, List.set_cons_succ]
    refine take_one (i := 1) (d := some 12) (v := .pointer (some ⟨F, 0, none⟩)) rfl rfl rfl (by kernel_rfl) (by kernel_rfl) (by kernel_rfl) (fun _ _ _ _ _ h => h.elim) (fun W hS => by kernel_rfl) hs0 ?_
    simp only [Act.put, List.setIfInBounds_toArray, List.set_cons_zero, List.set_cons_succ]
    refine take_one (i := 2) (d := some 13) (v := .int .i64 at') rfl rfl rfl (by kernel_rfl) (by kernel_rfl) (by kernel_rfl) (fun _ _ _ _ _ h => h.elim) (fun W hS => ex_loadA (.tmp 12) 3 rfl rfl (ld_int (blk_cell hS (j := 0) rfl))) hs0 ?_
    simp only [Act.put, List.setIfInBounds_toArray, List.set_cons_zero, List.set_cons_succ]
    refine take_one (i := 3) (d := some 14) (v := .pointer (some ⟨F, 1, none⟩)) rfl rfl rfl (by kernel_rfl) (by kernel_rfl) (by kernel_rfl) (fun _ _ _ _ _ h => h.elim) (fun W hS => by kernel_rfl) hs0 ?_
    simp only [Act.put, List.setIfInBounds_toArray, List.set_cons_zero, List.set_cons_succ]
    refine take_one (i := 4) (d := some 15) (v := .int .i64 e) rfl rfl rfl (by kernel_rfl) (by kernel_rfl) (by kernel_rfl) (fun _ _ _ _ _ h => h.elim) (fun W hS => ex_loadA (.tmp 14) 29 rfl rfl (ld_err (blk_cell hS (j := 1) rfl))) hs0 ?_
    simp only [Act.put, List.setIfInBounds_toArray, List.set_cons_zero, List.set_cons_succ]
    obtain ⟨W2, hst2, hb2, ho2⟩ := hb0.sets zeroV rfl zeroV_one
    have hs2 := (ho2.other F (by omega)).trans hs0
    refine all_one (i := 5) (by kernel_rfl) rfl rfl ?_
    refine wp_storeA (.tmp 0) (.tmp 11) 28 rfl rfl rfl rfl hst2 ⟨hs2, ?_⟩
    have hs3 := blk_set_other hs2 (show F ≠ Q + 1 by omega) 0 (.int .i64 at')
    have hb3 := hb2.setX at'
    refine all_one (i := 6) (by kernel_rfl) rfl rfl ?_
    refine wp_storeA (.tmp 1) (.tmp 13) 3 rfl rfl rfl rfl (st_int hb2.xb (j := 0) (by simp) at') ⟨hs3, ?_⟩
    have hs4 := blk_set_other hs3 (show F ≠ Q + 2 by omega) 0 (.int .i64 e)
    have hb4 := hb3.setY e
    refine all_one (i := 7) (by kernel_rfl) rfl rfl ?_
    refine wp_storeA (.tmp 2) (.tmp 15) 29 rfl rfl rfl rfl (st_err hb3.yb (j := 0) (by simp) e) ⟨hs4, ?_⟩
    refine wpAnyH_done (by kernel_rfl) ?_ _
    exact ⟨rfl, hb4⟩
  · rintro a' w' ⟨rfl, hb⟩
    simp only [Act.put, List.setIfInBounds_toArray, List.set_cons_zero, List.set_cons_succ]
    have HE : Hid (BoxW w0 w' Q zeroV at' e) := hb
    clear hb HBW HFB
    go_wp2
    all_goals exact ⟨rfl, _, rfl, _, results_none rfl _ _ _, rfl, rfl, HE.out⟩
set_option maxHeartbeats 2000000 in
set_option maxRecDepth 100000 in
theorem catch_idleP (p q r : Addr) (w : World) :
    CallsD Try.prog 35 #[.pointer (some p), .pointer (some q), .pointer (some r)] .returning w fun e u' w' => e = .returned (.tuple #[]) ∧ u' = .returning ∧ Below w.heap.size w w' := by
  have hB := ((Below.refl w.heap.size w).alloc (Nat.le_refl _) (.cells #[.int .i64 0, .int .i64 0] 58))
  have ht := ta_no w
  refine callsD_of_wpS Try.func35 rfl fun c₀ cs hu => ?_
  apply wpS_seq
  refine wpS_region_rec (v := .nilIface) (cs' := c₀ :: cs) rfl rfl (by simp [recoverD, hu]) ?_
  simp only [Try.ntmps35, List.size_toArray, List.length_cons, List.length_nil, Nat.reduceAdd, Nat.reduceSub, Array.replicate_succ, Array.replicate_zero, List.push_toArray, List.append_toArray, List.nil_append, List.cons_append, Act.put, List.setIfInBounds_toArray, List.set_cons_zero, List.set_cons_succ]
  go_wp2
  refine wpS_of_wp ?_
  go_wp2
  cases c₀
  simp_all [bodyPostS, results, Try.results35]

end Go.Proofs.Ytbaeogoojpngbaa
