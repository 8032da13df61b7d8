/-
  A tree with an entry more.
  A tree with an entry more: below a fork, and of any tree.
-/
import Derived.Test.YtenahbdopgmpfaaFold15
namespace Go.Proofs.Ytenahbdopgmpfaa
open Go Go.RowKit Go.Shelf
set_option linter.unusedVariables false
set_option linter.unusedSimpArgs false

def kidV (x y z : Value) (s : Nat) : Value := if s = 0 then x else if s = 1 then y else z
theorem ld_node {W : World} {b j : Nat} {v : Value} (h : W.cell? ⟨b, j, none⟩ = some v) (hv : NodeV v) : (Instr.loadAt 74 (.pointer (some ⟨b, j, none⟩))).run Try.prog W = .ok v W := by
  rcases hv with rfl | ⟨t, x, rfl⟩ <;> simp [Instr.loadAt, go_sem, h]
theorem ld_kid {W : World} {b s : Nat} {k : Bs} {x y z : Value} {t : TypeId} (h : W.heap[b]? = some (.cells (fkC k x y z).toArray t)) (hx : NodeV x) (hy : NodeV y) (hz : NodeV z) (hs : s < 3) : (Instr.loadAt 74 (.pointer (some ⟨b, 17 + s, none⟩))).run Try.prog W = .ok (kidV x y z s) W := by
  obtain ⟨h0, h1, h2⟩ := fk_kid h
  rcases (by omega : s = 0 ∨ s = 1 ∨ s = 2) with rfl | rfl | rfl
  · exact ld_node h0 hx
  · exact ld_node h1 hy
  · exact ld_node h2 hz

set_option maxHeartbeats 1000000 in
set_option maxRecDepth 100000 in
theorem with_nil (k : Bs) (v : Int) (w : World) : Calls Try.prog 70 #[.nilIface, LF k v] w fun e w' => e = .returned (.iface 85 (LF k v)) ∧ Below w.heap.size w w' := by
  have hB : Below w.heap.size w (w.alloc (.cells (lfC k v).toArray 85)) := (Below.refl _ w).alloc (Nat.le_refl _) _
  have H0 : Hid _ := lf_load (blk_new w (.cells (lfC k v).toArray 85))
  go_enter Try.func70, Try.ntmps70
  go_wp2_with first
    | ((with_reducible show wpList _ _ _ _ _ _); refine armLv (.tmp 3) 85 rfl rfl rfl H0.out ?_)
  try go_ret
  exact ⟨rfl, hB⟩

set_option maxHeartbeats 2000000 in
set_option maxRecDepth 100000 in
theorem with_leaf (k' : Bs) (v' : Int) (hk' : k'.length ≤ 128) (k : Bs) (v : Int) (hk : k.length ≤ 128) (w : World) (R : Value) (hR : ∀ W, Calls Try.prog 78 #[.iface 85 (LF k' v'), LF k v] W fun e w' => e = .returned R ∧ Below W.heap.size W w') :
    Calls Try.prog 70 #[.iface 85 (LF k' v'), LF k v] w fun e w' => e = .returned (if k' = k then .iface 85 (LF k v) else R) ∧ Below w.heap.size w w' := by
  generalize hQ : (fun (e : Ending) (w' : World) => e = .returned (if k' = k then .iface 85 (LF k v) else R) ∧ Below w.heap.size w w') = Q
  have HQ : Hid _ := hQ
  clear hQ
  have HR : Hid _ := hR
  have heq : ∀ W, (binOp .eql 39 (KV k') (KV k)).run Try.prog W = .ok (.bool (decide (k' = k))) W := fun W => by
    have h := eqlP6 (bytN 16 k') (bytN 16 k) k'.length k.length (bytN_fit _ _) (bytN_fit _ _) (bytN_length _ _) (bytN_length _ _) W
    rw [show ((k'.length : Int) == (k.length : Int)) = decide ((k'.length : Int) = k.length) from rfl, eqK hk'] at h
    exact h
  have HE : Hid _ := heq
  have HG : Hid _ := fun W => gdP6 .eql (.tmp 17) (.tmp 19) (kC k').toArray (kC k).toArray W
  have b0 := blk_new w (.cells (lfC k v).toArray 85)
  obtain ⟨w5, hst, hb5, hB5⟩ := box_new (ty := 85) (n := 18) (fun w => by kernel_rfl) (w.alloc (.cells (lfC k v).toArray 85)) zL rfl (lfC k' v') (lfC_length k' v') (lfC_one k' v')
  have c0 := blk_kept b0 hB5
  rw [show (w.alloc (.cells (lfC k v).toArray 85)).heap.size = w.heap.size + 1 by simp] at hst hb5
  have kB : Below w.heap.size w w5 := ((Below.refl _ w).alloc (Nat.le_refl _) _).trans (hB5.mono (by simp))
  have HST : Hid _ := hst
  have H6 : Hid _ := kb_key (r := [.int .i64 v']) hb5
  have H3 : Hid _ := kb_key (r := [.int .i64 v]) c0
  have HL : Hid _ := lf_load c0
  have HKB : Hid _ := kB
  clear heq hR hst hb5 hB5 b0 c0 kB
  have t1 := fun w => ta_leaf (LF k' v') w
  have t2 := fun w => ta_leaf_fork (LF k' v') w
  by_cases hc : k' = k
  · have HD : Hid _ := decide_eq_true hc
    have HC : Hid _ := hc
    rw [HD.out] at HE
    clear hc
    go_enter Try.func70, Try.ntmps70
    go_wp2_with first
      | ((with_reducible show wpList _ _ _ _ _ _); refine armS (.tmp 6) (.tmp 15) 85 rfl rfl rfl rfl HST.out ?_)
      | ((with_reducible show wpList _ _ _ _ _ _); refine armLv (.tmp 16) 39 rfl rfl rfl H6.out ?_)
      | ((with_reducible show wpList _ _ _ _ _ _); refine armLv (.tmp 18) 39 rfl rfl rfl H3.out ?_)
      | ((with_reducible show wpList _ _ _ _ _ _); refine arm_bin rfl .eql 39 39 (.tmp 17) (.tmp 19) rfl rfl rfl (HG.out _) (HE.out _) ?_)
      | ((with_reducible show wpList _ _ _ _ _ _); refine armLv (.tmp 3) 85 rfl rfl rfl HL.out ?_)
    try go_ret
    rw [← HQ.out, if_pos HC.out]
    exact ⟨rfl, HKB.out⟩
  · have HD : Hid _ := decide_eq_false hc
    have HC : Hid _ := hc
    rw [HD.out] at HE
    clear hc
    go_enter Try.func70, Try.ntmps70
    go_wp2_with first
      | ((with_reducible show wpList _ _ _ _ _ _); refine armS (.tmp 6) (.tmp 15) 85 rfl rfl rfl rfl HST.out ?_)
      | ((with_reducible show wpList _ _ _ _ _ _); refine armLv (.tmp 16) 39 rfl rfl rfl H6.out ?_)
      | ((with_reducible show wpList _ _ _ _ _ _); refine armLv (.tmp 18) 39 rfl rfl rfl H3.out ?_)
      | ((with_reducible show wpList _ _ _ _ _ _); refine arm_bin rfl .eql 39 39 (.tmp 17) (.tmp 19) rfl rfl rfl (HG.out _) (HE.out _) ?_)
      | ((with_reducible show wpList _ _ _ _ _ _); refine armLv (.tmp 3) 85 rfl rfl rfl HL.out ?_)
    refine Calls.mono (HR.out _) ?_
    rintro e w9 ⟨rfl, hb9⟩
    have HK9 : Hid _ := HKB.out.trans (hb9.mono HKB.out.size)
    clear hb9
    go_wp2
    try go_ret
    rw [← HQ.out, if_neg HC.out]
    exact ⟨rfl, HK9.out⟩
end Go.Proofs.Ytenahbdopgmpfaa

namespace Go.Proofs.Ytenahbdopgmpfaa
open Go Go.RowKit Go.Shelf
set_option linter.unusedVariables false
set_option linter.unusedSimpArgs false

set_option maxHeartbeats 4000000 in
set_option maxRecDepth 100000 in
theorem with_fork (f : Bs) (x y z : Value) (hx : NodeV x) (hy : NodeV y) (hz : NodeV z) (h1 : x.oneCell' = true) (h2 : y.oneCell' = true) (h3 : z.oneCell' = true) (hf : f.length ≤ 128) (k : Bs) (v : Int) (hk : k.length ≤ 128) (w : World) (R : Value) (hR : NodeV R)
    (hin : pre f k = true → ∀ W, Calls Try.prog 70 #[kidV x y z (Tr.sd f k), LF k v] W fun e w' => e = .returned R ∧ Below W.heap.size W w')
    (P : Value) (hP : ∀ W, Calls Try.prog 78 #[.iface 117 (FK f x y z), LF k v] W fun e w' => e = .returned P ∧ Below W.heap.size W w') :
    Calls Try.prog 70 #[.iface 117 (FK f x y z), LF k v] w fun e w' => e = .returned (if pre f k = true then .iface 117 (FK f (if Tr.sd f k = 0 then R else x) (if Tr.sd f k = 1 then R else y) (if Tr.sd f k = 2 then R else z)) else P) ∧ Below w.heap.size w w' := by
  have HV : Hid _ := fun W => covers_any f k hf hk W
  have HD : Hid (pre f k = true → ∀ W, Calls Try.prog 77 #[FK f x y z, KV k] W fun e w' => e = .returned (.int .i64 (Tr.sd f k : Nat)) ∧ Below W.heap.size W w') := fun h W => by
    have := (pre_iff.1 h).length_le
    exact side_any f k x y z hk hf (fun h => by omega) W
  have hs := Tr.sd_lt f k
  generalize Tr.sd f k = s at *
  generalize hQ : (fun (e : Ending) (w' : World) => e = .returned (if pre f k = true then .iface 117 (FK f (if s = 0 then R else x) (if s = 1 then R else y) (if s = 2 then R else z)) else P) ∧ Below w.heap.size w w') = Q
  have HQ : Hid ((fun (e : Ending) (w' : World) => e = .returned (if pre f k = true then .iface 117 (FK f (if s = 0 then R else x) (if s = 1 then R else y) (if s = 2 then R else z)) else P) ∧ Below w.heap.size w w') = Q) := hQ
  clear hQ
  have HP : Hid _ := hP
  have HIN : Hid _ := hin
  have b0 := blk_new w (.cells (lfC k v).toArray 85)
  obtain ⟨w5, hst, hb5, hB5⟩ := box_new (ty := 117) (n := 20) (fun w => by kernel_rfl) (w.alloc (.cells (lfC k v).toArray 85)) zF rfl (fkC f x y z) (fkC_length f x y z) (fkC_one f h1 h2 h3)
  have c0 := blk_kept b0 hB5
  rw [show (w.alloc (.cells (lfC k v).toArray 85)).heap.size = w.heap.size + 1 by simp] at hst hb5
  have kB : Below w.heap.size w w5 := ((Below.refl _ w).alloc (Nat.le_refl _) _).trans (hB5.mono (by simp))
  have HST : Hid _ := hst
  have H7 : Hid _ := kb_key (r := [x, y, z]) hb5
  have H3 : Hid _ := kb_key (r := [.int .i64 v]) c0
  have HB5 : Hid _ := hb5
  have HC0 : Hid _ := c0
  have HKB : Hid _ := kB
  clear hP hin hst hb5 hB5 b0 c0 kB hf hk
  have t1 := fun w => ta_fork (FK f x y z) w
  have t2 := fun w => ta_fork_leaf (FK f x y z) w
  cases hc : pre f k with
  | false =>
    have HF : Hid _ := hc
    rw [hc] at HV
    clear hc HIN HD
    go_enter Try.func70, Try.ntmps70
    go_wp2_with first
      | ((with_reducible show wpList _ _ _ _ _ _); refine armS (.tmp 7) (.tmp 25) 117 rfl rfl rfl rfl HST.out ?_)
      | ((with_reducible show wpList _ _ _ _ _ _); refine armLv (.tmp 26) 39 rfl rfl rfl H7.out ?_)
      | ((with_reducible show wpList _ _ _ _ _ _); refine armLv (.tmp 28) 39 rfl rfl rfl H3.out ?_)
    refine Calls.mono (HV.out _) ?_
    rintro e w6 ⟨rfl, hb6⟩
    have HL : Hid _ := lf_load (blk_kept HC0.out hb6)
    have HK6 : Hid _ := HKB.out.trans (hb6.mono HKB.out.size)
    clear hb6
    go_wp2_with first
      | ((with_reducible show wpList _ _ _ _ _ _); refine armLv (.tmp 3) 85 rfl rfl rfl HL.out ?_)
    refine Calls.mono (HP.out _) ?_
    rintro e w9 ⟨rfl, hb9⟩
    have HK9 : Hid _ := HK6.out.trans (hb9.mono HK6.out.size)
    clear hb9
    go_wp2
    try go_ret
    rw [← HQ.out, if_neg (by rw [HF.out]; decide)]
    exact ⟨rfl, HK9.out⟩
  | true =>
    have HF : Hid _ := hc
    have HR : Hid _ := HIN.out hc
    have HSD : Hid _ := HD.out hc
    rw [hc] at HV
    clear hc HIN HD HP
    go_enter Try.func70, Try.ntmps70
    go_wp2_with first
      | ((with_reducible show wpList _ _ _ _ _ _); refine armS (.tmp 7) (.tmp 25) 117 rfl rfl rfl rfl HST.out ?_)
      | ((with_reducible show wpList _ _ _ _ _ _); refine armLv (.tmp 26) 39 rfl rfl rfl H7.out ?_)
      | ((with_reducible show wpList _ _ _ _ _ _); refine armLv (.tmp 28) 39 rfl rfl rfl H3.out ?_)
    refine Calls.mono (HV.out _) ?_
    rintro e w6 ⟨rfl, hb6⟩
    have HLF : Hid _ := fk_load (blk_kept HB5.out hb6)
    have HLK : Hid _ := kb_key (r := [.int .i64 v]) (blk_kept HC0.out hb6)
    have HM : Hid _ := And.intro (blk_kept HC0.out hb6) (blk_kept HB5.out hb6)
    have HK6 : Hid _ := HKB.out.trans (hb6.mono HKB.out.size)
    clear hb6
    go_wp2_with first
      | ((with_reducible show wpList _ _ _ _ _ _); refine armLv (.tmp 7) 117 rfl rfl rfl HLF.out ?_)
      | ((with_reducible show wpList _ _ _ _ _ _); refine armLv (.tmp 32) 39 rfl rfl rfl HLK.out ?_)
    refine Calls.mono (HSD.out _) ?_
    rintro e w7 ⟨rfl, hb7⟩
    have HM7 : Hid _ := And.intro (blk_kept HM.out.1 hb7) (blk_kept HM.out.2 hb7)
    have HK7 : Hid _ := HK6.out.trans (hb7.mono HK6.out.size)
    clear hb7
    go_wp2_with fail
    have hcn : w.heap.size < w.heap.size + 1 := by omega
    generalize hcc : w.heap.size + 1 = c at *
    refine wp_region_held (S := fun X => X.heap[w.heap.size]? = some (.cells (lfC k v).toArray 85) ∧ ∃ x y z, X.heap[c]? = some (.cells (fkC f x y z).toArray 117)) (by kernel_rfl) ?_
    show wpAnyH _ _ _ _ _ 10 (Array.replicate 10 false) _ w7.drew
    have mL : w7.drew.heap[w.heap.size]? = some (.cells (lfC k v).toArray 85) := HM7.out.1
    have mF : w7.drew.heap[c]? = some (.cells (fkC f x y z).toArray 117) := HM7.out.2
    have mB : Below w.heap.size w w7.drew := HK7.out.trans ((Below.refl _ w7).drew.mono HK7.out.size)
    generalize w7.drew = U0 at *
    refine take_one (i := 0) (d := some 35) (v := .int .i64 (s : Nat)) rfl rfl rfl (by kernel_rfl) (by kernel_rfl) (by kernel_rfl) (fun _ _ d _ _ h => by cases d <;> exact h) (fun W hS => ex_moveA (.tmp 8) rfl rfl) ⟨mL, _, _, _, mF⟩ ?_
    simp only [Act.put, List.setIfInBounds_toArray, List.set_cons_zero, List.set_cons_succ]
    refine take_one (i := 1) (d := some 36) (v := .int .i64 (s : Nat)) rfl rfl rfl (by kernel_rfl) (by kernel_rfl) (by kernel_rfl) (fun _ _ d _ _ h => by cases d <;> exact h) (fun W hS => ex_moveA (.tmp 8) rfl rfl) ⟨mL, _, _, _, mF⟩ ?_
    simp only [Act.put, List.setIfInBounds_toArray, List.set_cons_zero, List.set_cons_succ]
    refine take_one (i := 2) (d := some 37) (v := .pointer (some ⟨c, 17, none⟩)) rfl rfl rfl (by kernel_rfl) (by kernel_rfl) (by kernel_rfl) (fun _ _ d _ _ h => by cases d <;> exact h) (fun W hS => by kernel_rfl) ⟨mL, _, _, _, mF⟩ ?_
    simp only [Act.put, List.setIfInBounds_toArray, List.set_cons_zero, List.set_cons_succ]
    refine take_one (i := 3) (d := some 38) (v := .pointer (some ⟨c, 17 + s, none⟩)) rfl rfl rfl (by kernel_rfl) (by kernel_rfl) (by kernel_rfl) (fun _ _ d _ _ h => by cases d <;> exact h) (fun W hS => ex_ixK 37 36 rfl rfl rfl hs) ⟨mL, _, _, _, mF⟩ ?_
    simp only [Act.put, List.setIfInBounds_toArray, List.set_cons_zero, List.set_cons_succ]
    refine take_one (i := 5) (d := some 40) (v := LF k v) rfl rfl rfl (by kernel_rfl) (by kernel_rfl) (by kernel_rfl) (fun _ _ d _ _ h => by cases d <;> exact h) (fun W hS => ex_loadA (.tmp 3) 85 rfl rfl (lf_load hS.1)) ⟨mL, _, _, _, mF⟩ ?_
    simp only [Act.put, List.setIfInBounds_toArray, List.set_cons_zero, List.set_cons_succ]
    refine take_one (i := 7) (d := some 42) (v := .pointer (some ⟨c, 17, none⟩)) rfl rfl rfl (by kernel_rfl) (by kernel_rfl) (by kernel_rfl) (fun _ _ d _ _ h => by cases d <;> exact h) (fun W hS => by kernel_rfl) ⟨mL, _, _, _, mF⟩ ?_
    simp only [Act.put, List.setIfInBounds_toArray, List.set_cons_zero, List.set_cons_succ]
    refine all_one (i := 4) (by kernel_rfl) rfl rfl ?_
    refine wp_effX (d := some 39) (v := kidV x y z s) rfl (ex_loadA (.tmp 38) 74 rfl rfl (ld_kid mF hx hy hz hs)) ⟨⟨mL, _, _, _, mF⟩, ?_⟩
    simp only [Act.put, List.setIfInBounds_toArray, List.set_cons_zero, List.set_cons_succ]
    refine all_one (i := 6) (by kernel_rfl) rfl rfl ?_
    refine wp_call (d := some 41) 70 _ rfl (by kernel_rfl) (callR (HR.out _)) ?_
    rintro v9 U1 ⟨hv9, hu1⟩
    have hv8 := hv9.symm
    clear hv9
    subst hv8
    have mL1 := blk_kept mL hu1
    have mF1 := blk_kept mF hu1
    have mB1 := mB.trans (hu1.mono mB.size)
    refine ⟨⟨mL1, _, _, _, mF1⟩, ?_⟩
    simp only [Act.put, List.setIfInBounds_toArray, List.set_cons_zero, List.set_cons_succ]
    refine take_one (i := 8) (d := some 43) (v := .pointer (some ⟨c, 17 + s, none⟩)) rfl rfl rfl (by kernel_rfl) (by kernel_rfl) (by kernel_rfl) (fun _ _ d _ _ h => by cases d <;> exact h) (fun W hS => ex_ixK 42 35 rfl rfl rfl hs) ⟨mL1, _, _, _, mF1⟩ ?_
    simp only [Act.put, List.setIfInBounds_toArray, List.set_cons_zero, List.set_cons_succ]
    have hst4 := st_node mF1 (show 17 + s < _ by rw [fkC_length]; omega) hR
    have bH := fk_set mF1 hs R
    have onH : Only c U1 (U1.setCell ⟨c, 17 + s, none⟩ R) := (Only.refl _ U1).set _ _
    have hSH := (onH.other w.heap.size (by omega)).trans mL1
    have kH := mB1.trans (onH.below (show w.heap.size ≤ c by omega))
    refine all_one (i := 9) (by kernel_rfl) rfl rfl ?_
    refine wp_storeA (.tmp 43) (.tmp 41) 74 rfl rfl rfl rfl hst4 ⟨⟨hSH, _, _, _, bH⟩, ?_⟩
    refine wpAnyH_done (by kernel_rfl) ?_ _
    generalize U1.setCell ⟨c, 17 + s, none⟩ R = V at *
    have HLD : Hid _ := fk_load bH
    have HKH : Hid _ := kH
    clear hst4 onH bH hSH kH
    generalize (if s = 0 then R else x) = x2 at *
    generalize (if s = 1 then R else y) = y2 at *
    generalize (if s = 2 then R else z) = z2 at *
    go_show
    go_wp2_with first
      | ((with_reducible show wpList _ _ _ _ _ _); refine armLv (.tmp 7) 117 rfl rfl rfl HLD.out ?_)
    try go_ret
    rw [← HQ.out, if_pos HF.out]
    exact ⟨rfl, HKH.out⟩
end Go.Proofs.Ytenahbdopgmpfaa
