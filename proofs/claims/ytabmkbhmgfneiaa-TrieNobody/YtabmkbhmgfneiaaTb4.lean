/-
  A tree with an entry more.
-/
import Derived.Test.YtabmkbhmgfneiaaTb3
namespace Go.Proofs.Ytabmkbhmgfneiaa
open Go Go.RowKit Go.Shelf
set_option linter.unusedVariables false
set_option linter.unusedSimpArgs false

def kidV (x y z : Value) (s : Nat) : Value := if s = 0 then x else if s = 1 then y else z
theorem ld_node {W : World} {b j : Nat} {v : Value} (h : W.cell? ⟨b, j, none⟩ = some v) (hv : NodeV v) : (Instr.loadAt 74 (.pointer (some ⟨b, j, none⟩))).run Try.prog W = .ok v W := by
  rcases hv with rfl | ⟨t, x, rfl⟩ <;> simp [Instr.loadAt, go_sem, h]
theorem ld_kid {W : World} {b s : Nat} {k : Bs} {x y z : Value} {t : TypeId} (h : W.heap[b]? = some (.cells (fkC k x y z).toArray t)) (hx : NodeV x) (hy : NodeV y) (hz : NodeV z) (hs : s < 3) : (Instr.loadAt 74 (.pointer (some ⟨b, 17 + s, none⟩))).run Try.prog W = .ok (kidV x y z s) W := by
  obtain ⟨h0, h1, h2⟩ := fk_kid h
  rcases (by omega : s = 0 ∨ s = 1 ∨ s = 2) with rfl | rfl | rfl
  · exact ld_node h0 hx
  · exact ld_node h1 hy
  · exact ld_node h2 hz

set_option maxHeartbeats 1000000 in
set_option maxRecDepth 100000 in
theorem with_nil (k : Bs) (v : Int) (w : World) : Calls Try.prog 70 #[.nilIface, LF k v] w fun e w' => e = .returned (.iface 85 (LF k v)) ∧ Below w.heap.size w w' := by
  have hB : Below w.heap.size w (w.alloc (.cells (lfC k v).toArray 85)) := (Below.refl _ w).alloc (Nat.le_refl _) _
  have H0 : Hid _ := lf_load (blk_new w (.cells (lfC k v).toArray 85))
  go_enter Try.func70, Try.ntmps70
  go_wp2_with first
    | ((with_reducible show wpList _ _ _ _ _ _); refine armLv (.tmp 3) 85 rfl rfl rfl H0.out ?_)
  try go_ret
  exact ⟨rfl, hB⟩

set_option maxHeartbeats 2000000 in
set_option maxRecDepth 100000 in
theorem with_leaf (k' : Bs) (v' : Int) (hk' : k'.length ≤ 128) (k : Bs) (v : Int) (hk : k.length ≤ 128) (w : World) (R : Value) (hR : ∀ W, Calls Try.prog 78 #[.iface 85 (LF k' v'), LF k v] W fun e w' => e = .returned R ∧ Below W.heap.size W w') :
    Calls Try.prog 70 #[.iface 85 (LF k' v'), LF k v] w fun e w' => e = .returned (if k' = k then .iface 85 (LF k v) else R) ∧ Below w.heap.size w w' := by
  generalize hQ : (fun (e : Ending) (w' : World) => e = .returned (if k' = k then .iface 85 (LF k v) else R) ∧ Below w.heap.size w w') = Q
  have HQ : Hid _ := hQ
  clear hQ
  have HR : Hid _ := hR
  have heq : ∀ W, (binOp .eql 39 (KV k') (KV k)).run Try.prog W = .ok (.bool (decide (k' = k))) W := fun W => by
    have h := eqlP6 (bytN 16 k') (bytN 16 k) k'.length k.length (bytN_fit _ _) (bytN_fit _ _) (bytN_length _ _) (bytN_length _ _) W
    rw [show ((k'.length : Int) == (k.length : Int)) = decide ((k'.length : Int) = k.length) from rfl, eqK hk'] at h
    exact h
  have HE : Hid _ := heq
  have HG : Hid _ := fun W => gdP6 .eql (.tmp 17) (.tmp 19) (kC k').toArray (kC k).toArray W
  have b0 := blk_new w (.cells (lfC k v).toArray 85)
  obtain ⟨w5, hst, hb5, hB5⟩ := box_new (ty := 85) (n := 18) (fun w => by kernel_rfl) (w.alloc (.cells (lfC k v).toArray 85)) zL rfl (lfC k' v') (lfC_length k' v') (lfC_one k' v')
  have c0 := blk_kept b0 hB5
  rw [show (w.alloc (.cells (lfC k v).toArray 85)).heap.size = w.heap.size + 1 by simp] at hst hb5
  have kB : Below w.heap.size w w5 := ((Below.refl _ w).alloc (Nat.le_refl _) _).trans (hB5.mono (by simp))
  have HST : Hid _ := hst
  have H6 : Hid _ := kb_key (r := [.int .i64 v']) hb5
  have H3 : Hid _ := kb_key (r := [.int .i64 v]) c0
  have HL : Hid _ := lf_load c0
  have HKB : Hid _ := kB
  clear heq hR hst hb5 hB5 b0 c0 kB
  have t1 := fun w => ta_leaf (LF k' v') w
  have t2 := fun w => ta_leaf_fork (LF k' v') w
  by_cases hc : k' = k
  · have HD : Hid _ := decide_eq_true hc
    have HC : Hid _ := hc
    rw [HD.out] at HE
    clear hc
    go_enter Try.func70, Try.ntmps70
    go_wp2_with first
      | ((with_reducible show wpList _ _ _ _ _ _); refine armS (.tmp 6) (.tmp 15) 85 rfl rfl rfl rfl HST.out ?_)
      | ((with_reducible show wpList _ _ _ _ _ _); refine armLv (.tmp 16) 39 rfl rfl rfl H6.out ?_)
      | ((with_reducible show wpList _ _ _ _ _ _); refine armLv (.tmp 18) 39 rfl rfl rfl H3.out ?_)
      | ((with_reducible show wpList _ _ _ _ _ _); refine arm_bin rfl .eql 39 39 (.tmp 17) (.tmp 19) rfl rfl rfl (HG.out _) (HE.out _) ?_)
      | ((with_reducible show wpList _ _ _ _ _ _); refine armLv (.tmp 3) 85 rfl rfl rfl HL.out ?_)
    try go_ret
    rw [← HQ.out, if_pos HC.out]
    exact ⟨rfl, HKB.out⟩
  · have HD : Hid _ := decide_eq_false hc
    have HC : Hid _ := hc
    rw [HD.out] at HE
    clear hc
    go_enter Try.func70, Try.ntmps70
    go_wp2_with first
      | ((with_reducible show wpList _ _ _ _ _ _); refine armS (.tmp 6) (.tmp 15) 85 rfl rfl rfl rfl HST.out ?_)
      | ((with_reducible show wpList _ _ _ _ _ _); refine armLv (.tmp 16) 39 rfl rfl rfl H6.out ?_)
      | ((with_reducible show wpList _ _ _ _ _ _); refine armLv (.tmp 18) 39 rfl rfl rfl H3.out ?_)
      | ((with_reducible show wpList _ _ _ _ _ _); refine arm_bin rfl .eql 39 39 (.tmp 17) (.tmp 19) rfl rfl rfl (HG.out _) (HE.out _) ?_)
      | ((with_reducible show wpList _ _ _ _ _ _); refine armLv (.tmp 3) 85 rfl rfl rfl HL.out ?_)
    refine Calls.mono (HR.out _) ?_
    rintro e w9 ⟨rfl, hb9⟩
    have HK9 : Hid _ := HKB.out.trans (hb9.mono HKB.out.size)
    clear hb9
    go_wp2
    try go_ret
    rw [← HQ.out, if_neg HC.out]
    exact ⟨rfl, HK9.out⟩
end Go.Proofs.Ytabmkbhmgfneiaa
