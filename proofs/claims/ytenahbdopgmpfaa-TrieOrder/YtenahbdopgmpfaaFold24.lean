/-
  slim; a tree without an entry.
  A tree without an entry.
-/
import Derived.Test.YtenahbdopgmpfaaFold20
namespace Go.Proofs.Ytenahbdopgmpfaa
open Go Go.RowKit Go.Shelf
set_option linter.unusedVariables false
set_option linter.unusedSimpArgs false

def nlV : Value → Bool
  | .nilIface => true
  | _ => false
theorem nlV_enc (t : Tr) : nlV (enc t) = t.isNil := by cases t <;> rfl
def lastV (x y z : Value) : Nat → Value
  | 0 => .nilIface
  | 1 => x
  | 2 => if nlV y then x else y
  | _ => if nlV z then (if nlV y then x else y) else z
def leftV (x y z : Value) : Nat → Int
  | 0 => 0
  | 1 => if nlV x then 0 else 1
  | 2 => (if nlV x then 0 else 1) + (if nlV y then 0 else 1)
  | _ => (if nlV x then 0 else 1) + (if nlV y then 0 else 1) + (if nlV z then 0 else 1)
def slimV (k : Bs) (x y z : Value) : Value := if leftV x y z 3 = 1 then lastV x y z 3 else .iface 117 (FK k x y z)
theorem slim_enc (f : Bs) (a b c : Tr) : enc (Tr.slim (.fork f a b c)) = slimV f (enc a) (enc b) (enc c) := by
  unfold Tr.slim slimV
  simp only [leftV, lastV, nlV_enc, Tr.some1]
  rcases Bool.eq_false_or_eq_true a.isNil with ha | ha <;> rcases Bool.eq_false_or_eq_true b.isNil with hb | hb <;> rcases Bool.eq_false_or_eq_true c.isNil with hc | hc <;> simp [ha, hb, hc, enc]
theorem leftV_b (x y z : Value) : (0 ≤ leftV x y z 0 ∧ leftV x y z 0 ≤ 0) ∧ (0 ≤ leftV x y z 1 ∧ leftV x y z 1 ≤ 1) ∧ (0 ≤ leftV x y z 2 ∧ leftV x y z 2 ≤ 2) := by
  show (0 ≤ (0 : Int) ∧ (0 : Int) ≤ 0) ∧ (0 ≤ (if nlV x then (0 : Int) else 1) ∧ (if nlV x then (0 : Int) else 1) ≤ 1) ∧ (0 ≤ (if nlV x then (0 : Int) else 1) + (if nlV y then 0 else 1) ∧ (if nlV x then (0 : Int) else 1) + (if nlV y then 0 else 1) ≤ 2)
  cases nlV x <;> cases nlV y <;> decide
theorem lastV_node {x y z : Value} (hx : NodeV x) (hy : NodeV y) (hz : NodeV z) : NodeV (lastV x y z 3) := by
  show NodeV (if nlV z then (if nlV y then x else y) else z)
  split <;> (try split) <;> assumption

set_option maxHeartbeats 2000000 in
set_option maxRecDepth 100000 in
theorem slim_calls (k : Bs) (x y z : Value) (hx : NodeV x) (hy : NodeV y) (hz : NodeV z) (w : World) :
    Calls Try.prog 80 #[FK k x y z] w fun e w' => e = .returned (slimV k x y z) ∧ Below w.heap.size w w' := by
  generalize hQ : (fun (e : Ending) (w' : World) => e = .returned (slimV k x y z) ∧ Below w.heap.size w w') = Q
  have HQ : Hid _ := hQ
  clear hQ
  obtain ⟨W1, hW1⟩ : ∃ W1, W1 = w.alloc (.cells (fkC k x y z).toArray 117) := ⟨_, rfl⟩
  have hb0 : W1.heap[w.heap.size]? = some (.cells (fkC k x y z).toArray 117) := by rw [hW1]; exact blk_new w _
  have hB1 : Below w.heap.size w W1 := by rw [hW1]; exact (Below.refl _ w).alloc (Nat.le_refl _) _
  have HKD : Hid _ := fk_kids hb0
  have HFK : Hid (W1.heap[w.heap.size]? = some (.cells (fkC k x y z).toArray 117)) := hb0
  have HB1 : Hid (Below w.heap.size w W1) := hB1
  have HX : Hid (NodeV x) := hx
  have HY : Hid (NodeV y) := hy
  have HZ : Hid (NodeV z) := hz
  have hW := hW1.symm
  clear hb0 hB1 hW1 hx hy hz
  go_enter Try.func80, Try.ntmps80
  go_wp2_with first
    | ((with_reducible show wpList _ _ _ _ _ _); refine armL (.tmp 7) 115 rfl rfl rfl HKD.out ?_)
  go_loopw [3, 4, 9] (fun l c i wr => ∃ n : Nat, n ≤ 3 ∧ l = lastV x y z n ∧ c = .int .i64 (leftV x y z n) ∧ i = .int .i64 n ∧ Below w.heap.size w wr ∧ wr.heap[w.heap.size]? = some (.cells (fkC k x y z).toArray 117)) (fun _ _ i _ => 3 - (intOf i).toNat)
  case atStart => exact ⟨0, Nat.zero_le _, rfl, rfl, rfl, HB1.out, HFK.out⟩
  case round =>
    obtain ⟨n, hn, rfl, rfl, rfl, hbr, hfr⟩ := hrel
    have HBR : Hid (Below w.heap.size w wr) := hbr
    have HFR : Hid (wr.heap[w.heap.size]? = some (.cells (fkC k x y z).toArray 117)) := hfr
    clear hbr hfr
    rcases (by omega : n = 0 ∨ n = 1 ∨ n = 2 ∨ n = 3) with rfl | rfl | rfl | rfl
    · have t3 := fun w => (ix_kids x y z w).1
      have hb := (leftV_b x y z).1
      rcases HX.out with rfl | ⟨t, v, rfl⟩
      · go_wp2
        try go_roundw
        case rel => exact ⟨1, by omega, rfl, rfl, rfl, HBR.out, HFR.out⟩
        case measure => decide
      · go_wp2
        try go_roundw
        case rel => exact ⟨1, by omega, rfl, rfl, rfl, HBR.out, HFR.out⟩
        case measure => decide
    · have t3 := fun w => (ix_kids x y z w).2.1
      have hb := (leftV_b x y z).2.1
      rcases HY.out with rfl | ⟨t, v, rfl⟩
      · go_wp2
        try go_roundw
        case rel => exact ⟨2, by omega, rfl, by simp [leftV, nlV], rfl, HBR.out, HFR.out⟩
        case measure => decide
      · go_wp2
        try go_roundw
        case rel => exact ⟨2, by omega, rfl, by simp [leftV, nlV], rfl, HBR.out, HFR.out⟩
        case measure => decide
    · have t3 := fun w => (ix_kids x y z w).2.2
      have hb := (leftV_b x y z).2.2
      rcases HZ.out with rfl | ⟨t, v, rfl⟩
      · go_wp2
        try go_roundw
        case rel => exact ⟨3, by omega, rfl, by simp [leftV, nlV], rfl, HBR.out, HFR.out⟩
        case measure => decide
      · go_wp2
        try go_roundw
        case rel => exact ⟨3, by omega, rfl, by simp [leftV, nlV], rfl, HBR.out, HFR.out⟩
        case measure => decide
    · have HLD : Hid _ := fk_load HFR.out
      by_cases h1 : leftV x y z 3 = 1
      · have HV : Hid (slimV k x y z = lastV x y z 3) := by
          have : slimV k x y z = lastV x y z 3 := by unfold slimV; rw [if_pos h1]
          exact this
        have q : (leftV x y z 3 == 1) = true := by simp [h1]
        clear h1
        generalize leftV x y z 3 = cc at *
        generalize lastV x y z 3 = ll at *
        go_wp2
        try go_ret
        rw [← HQ.out, HV.out]
        exact ⟨rfl, HBR.out⟩
      · have HV : Hid (slimV k x y z = .iface 117 (FK k x y z)) := by
          have : slimV k x y z = .iface 117 (FK k x y z) := by unfold slimV; rw [if_neg h1]
          exact this
        have q : (leftV x y z 3 == 1) = false := by simp [h1]
        clear h1
        generalize leftV x y z 3 = cc at *
        generalize lastV x y z 3 = ll at *
        go_wp2_with first
          | ((with_reducible show wpList _ _ _ _ _ _); refine armLv (.tmp 1) 117 rfl rfl rfl HLD.out ?_)
        try go_ret
        rw [← HQ.out, HV.out]
        exact ⟨rfl, HBR.out⟩
end Go.Proofs.Ytenahbdopgmpfaa

namespace Go.Proofs.Ytenahbdopgmpfaa
open Go Go.RowKit Go.Shelf
set_option linter.unusedVariables false
set_option linter.unusedSimpArgs false

theorem zF_one : ∀ u ∈ zF, u.oneCell' = true := fun u hu => by
  have : zF.all (fun u => u.oneCell') = true := by kernel_rfl
  exact List.all_eq_true.1 this u hu
set_option maxHeartbeats 2000000 in
set_option maxRecDepth 100000 in
theorem without_no (x : Value) (hx : x = .nilIface ∨ ∃ v, x = .iface 85 v) (k : Bs) (w : World) :
    Calls Try.prog 72 #[x, KV k] w fun e w' => e = .returned .nilIface ∧ Below w.heap.size w w' := by
  obtain ⟨W1, hW1⟩ : ∃ W1, W1 = w.alloc (.cells (kC k).toArray 39) := ⟨_, rfl⟩
  have hB1 : Below w.heap.size w W1 := by rw [hW1]; exact (Below.refl _ w).alloc (Nat.le_refl _) _
  obtain ⟨w5, hst, hb5, hB5⟩ := box_new (ty := 117) (n := 20) (fun w => by kernel_rfl) W1 zF rfl zF rfl zF_one
  have HST : Hid _ := hst
  have HK : Hid (Below w.heap.size w w5) := hB1.trans (hB5.mono hB1.size)
  have HTA : Hid (∀ w, (Instr.typeAssert x 74 117 true).run Try.prog w = .ok (.tuple #[.agg zF.toArray, .bool false]) w) := fun w => by
    rcases hx with rfl | ⟨v, rfl⟩
    · exact ta_nil_fork w
    · exact ta_leaf_fork v w
  have hW := hW1.symm
  clear hst hb5 hB1 hB5 hx hW1
  go_enter Try.func72, Try.ntmps72
  have t1 := fun w => HTA.out w
  go_wp2_with first
    | ((with_reducible show wpList _ _ _ _ _ _); refine armS (.tmp 5) (.tmp 11) 117 rfl rfl rfl rfl HST.out ?_)
  try go_ret
  exact ⟨rfl, HK.out⟩
set_option maxHeartbeats 4000000 in
set_option maxRecDepth 100000 in
theorem without_fork (f : Bs) (x y z : Value) (hx : NodeV x) (hy : NodeV y) (hz : NodeV z) (h1 : x.oneCell' = true) (h2 : y.oneCell' = true) (h3 : z.oneCell' = true) (hf : f.length ≤ 128) (k : Bs) (hk : k.length ≤ 128) (hlt : k.length ≠ f.length → f.length < 128) (w : World) (R : Value) (hR : NodeV R)
    (hin : ∀ W, Calls Try.prog 72 #[kidV x y z (Tr.sd f k), KV k] W fun e w' => e = .returned R ∧ Below W.heap.size W w') :
    Calls Try.prog 72 #[.iface 117 (FK f x y z), KV k] w fun e w' => e = .returned (slimV f (if Tr.sd f k = 0 then R else x) (if Tr.sd f k = 1 then R else y) (if Tr.sd f k = 2 then R else z)) ∧ Below w.heap.size w w' := by
  have HSD : Hid (∀ W, Calls Try.prog 77 #[FK f x y z, KV k] W fun e w' => e = .returned (.int .i64 (Tr.sd f k : Nat)) ∧ Below W.heap.size W w') := fun W => side_any f k x y z hk hf hlt W
  have hs := Tr.sd_lt f k
  generalize Tr.sd f k = s at *
  have HSL : Hid (∀ W, Calls Try.prog 80 #[FK f (if s = 0 then R else x) (if s = 1 then R else y) (if s = 2 then R else z)] W fun e w' => e = .returned (slimV f (if s = 0 then R else x) (if s = 1 then R else y) (if s = 2 then R else z)) ∧ Below W.heap.size W w') := fun W => slim_calls f _ _ _ (by split <;> assumption) (by split <;> assumption) (by split <;> assumption) W
  generalize hQ : (fun (e : Ending) (w' : World) => e = .returned (slimV f (if s = 0 then R else x) (if s = 1 then R else y) (if s = 2 then R else z)) ∧ Below w.heap.size w w') = Q
  have HQ : Hid ((fun (e : Ending) (w' : World) => e = .returned (slimV f (if s = 0 then R else x) (if s = 1 then R else y) (if s = 2 then R else z)) ∧ Below w.heap.size w w') = Q) := hQ
  clear hQ
  have HR : Hid _ := hin
  have b0 := blk_new w (.cells (kC k).toArray 39)
  obtain ⟨w5, hst, hb5, hB5⟩ := box_new (ty := 117) (n := 20) (fun w => by kernel_rfl) (w.alloc (.cells (kC k).toArray 39)) zF rfl (fkC f x y z) (fkC_length f x y z) (fkC_one f h1 h2 h3)
  have c0 := blk_kept b0 hB5
  rw [show (w.alloc (.cells (kC k).toArray 39)).heap.size = w.heap.size + 1 by simp] at hst hb5
  have kB : Below w.heap.size w w5 := ((Below.refl _ w).alloc (Nat.le_refl _) _).trans (hB5.mono (by simp))
  have HST : Hid _ := hst
  have HFL : Hid _ := fk_load hb5
  have H3 : Hid _ := kb_key (kb0 c0)
  have HB5 : Hid _ := hb5
  have HC0 : Hid _ := c0
  have HKB : Hid _ := kB
  clear hin hst hb5 hB5 b0 c0 kB hf hk hlt
  have t1 := fun w => ta_fork (FK f x y z) w
  go_enter Try.func72, Try.ntmps72
  go_wp2_with first
    | ((with_reducible show wpList _ _ _ _ _ _); refine armS (.tmp 5) (.tmp 11) 117 rfl rfl rfl rfl HST.out ?_)
    | ((with_reducible show wpList _ _ _ _ _ _); refine armLv (.tmp 5) 117 rfl rfl rfl HFL.out ?_)
    | ((with_reducible show wpList _ _ _ _ _ _); refine armLv (.tmp 3) 39 rfl rfl rfl H3.out ?_)
  refine Calls.mono (HSD.out _) ?_
  rintro e w7 ⟨rfl, hb7⟩
  have HM7 : Hid _ := And.intro (blk_kept HC0.out hb7) (blk_kept HB5.out hb7)
  have HK7 : Hid _ := HKB.out.trans (hb7.mono HKB.out.size)
  clear hb7
  go_wp2_with fail
  have hcn : w.heap.size < w.heap.size + 1 := by omega
  generalize hcc : w.heap.size + 1 = c at *
  refine wp_region_held (S := fun X => X.heap[w.heap.size]? = some (.cells (kC k).toArray 39) ∧ ∃ x y z, X.heap[c]? = some (.cells (fkC f x y z).toArray 117)) (by kernel_rfl) ?_
  show wpAnyH _ _ _ _ _ 10 (Array.replicate 10 false) _ w7.drew
  have mL : w7.drew.heap[w.heap.size]? = some (.cells (kC k).toArray 39) := HM7.out.1
  have mF : w7.drew.heap[c]? = some (.cells (fkC f x y z).toArray 117) := HM7.out.2
  have mB : Below w.heap.size w w7.drew := HK7.out.trans ((Below.refl _ w7).drew.mono HK7.out.size)
  generalize w7.drew = U0 at *
  refine take_one (i := 0) (d := some 18) (v := .int .i64 (s : Nat)) rfl rfl rfl (by kernel_rfl) (by kernel_rfl) (by kernel_rfl) (fun _ _ d _ _ h => by cases d <;> exact h) (fun W hS => ex_moveA (.tmp 7) rfl rfl) ⟨mL, _, _, _, mF⟩ ?_
  simp only [Act.put, List.setIfInBounds_toArray, List.set_cons_zero, List.set_cons_succ]
  refine take_one (i := 1) (d := some 19) (v := .int .i64 (s : Nat)) rfl rfl rfl (by kernel_rfl) (by kernel_rfl) (by kernel_rfl) (fun _ _ d _ _ h => by cases d <;> exact h) (fun W hS => ex_moveA (.tmp 7) rfl rfl) ⟨mL, _, _, _, mF⟩ ?_
  simp only [Act.put, List.setIfInBounds_toArray, List.set_cons_zero, List.set_cons_succ]
  refine take_one (i := 2) (d := some 20) (v := .pointer (some ⟨c, 17, none⟩)) rfl rfl rfl (by kernel_rfl) (by kernel_rfl) (by kernel_rfl) (fun _ _ d _ _ h => by cases d <;> exact h) (fun W hS => by kernel_rfl) ⟨mL, _, _, _, mF⟩ ?_
  simp only [Act.put, List.setIfInBounds_toArray, List.set_cons_zero, List.set_cons_succ]
  refine take_one (i := 3) (d := some 21) (v := .pointer (some ⟨c, 17 + s, none⟩)) rfl rfl rfl (by kernel_rfl) (by kernel_rfl) (by kernel_rfl) (fun _ _ d _ _ h => by cases d <;> exact h) (fun W hS => ex_ixK 20 19 rfl rfl rfl hs) ⟨mL, _, _, _, mF⟩ ?_
  simp only [Act.put, List.setIfInBounds_toArray, List.set_cons_zero, List.set_cons_succ]
  refine take_one (i := 5) (d := some 23) (v := KV k) rfl rfl rfl (by kernel_rfl) (by kernel_rfl) (by kernel_rfl) (fun _ _ d _ _ h => by cases d <;> exact h) (fun W hS => ex_loadA (.tmp 3) 39 rfl rfl (kb_key (kb0 hS.1))) ⟨mL, _, _, _, mF⟩ ?_
  simp only [Act.put, List.setIfInBounds_toArray, List.set_cons_zero, List.set_cons_succ]
  refine take_one (i := 7) (d := some 25) (v := .pointer (some ⟨c, 17, none⟩)) rfl rfl rfl (by kernel_rfl) (by kernel_rfl) (by kernel_rfl) (fun _ _ d _ _ h => by cases d <;> exact h) (fun W hS => by kernel_rfl) ⟨mL, _, _, _, mF⟩ ?_
  simp only [Act.put, List.setIfInBounds_toArray, List.set_cons_zero, List.set_cons_succ]
  refine all_one (i := 4) (by kernel_rfl) rfl rfl ?_
  refine wp_effX (d := some 22) (v := kidV x y z s) rfl (ex_loadA (.tmp 21) 74 rfl rfl (ld_kid mF hx hy hz hs)) ⟨⟨mL, _, _, _, mF⟩, ?_⟩
  simp only [Act.put, List.setIfInBounds_toArray, List.set_cons_zero, List.set_cons_succ]
  refine all_one (i := 6) (by kernel_rfl) rfl rfl ?_
  refine wp_call (d := some 24) 72 _ rfl (by kernel_rfl) (callR (HR.out _)) ?_
  rintro v9 U1 ⟨hv9, hu1⟩
  have hv8 := hv9.symm
  clear hv9
  subst hv8
  have mL1 := blk_kept mL hu1
  have mF1 := blk_kept mF hu1
  have mB1 := mB.trans (hu1.mono mB.size)
  refine ⟨⟨mL1, _, _, _, mF1⟩, ?_⟩
  simp only [Act.put, List.setIfInBounds_toArray, List.set_cons_zero, List.set_cons_succ]
  refine take_one (i := 8) (d := some 26) (v := .pointer (some ⟨c, 17 + s, none⟩)) rfl rfl rfl (by kernel_rfl) (by kernel_rfl) (by kernel_rfl) (fun _ _ d _ _ h => by cases d <;> exact h) (fun W hS => ex_ixK 25 18 rfl rfl rfl hs) ⟨mL1, _, _, _, mF1⟩ ?_
  simp only [Act.put, List.setIfInBounds_toArray, List.set_cons_zero, List.set_cons_succ]
  have hst4 := st_node mF1 (show 17 + s < _ by rw [fkC_length]; omega) hR
  have bH := fk_set mF1 hs R
  have onH : Only c U1 (U1.setCell ⟨c, 17 + s, none⟩ R) := (Only.refl _ U1).set _ _
  have hSH := (onH.other w.heap.size (by omega)).trans mL1
  have kH := mB1.trans (onH.below (show w.heap.size ≤ c by omega))
  refine all_one (i := 9) (by kernel_rfl) rfl rfl ?_
  refine wp_storeA (.tmp 26) (.tmp 24) 74 rfl rfl rfl rfl hst4 ⟨⟨hSH, _, _, _, bH⟩, ?_⟩
  refine wpAnyH_done (by kernel_rfl) ?_ _
  generalize U1.setCell ⟨c, 17 + s, none⟩ R = V at *
  have HLD : Hid _ := fk_load bH
  have HKH : Hid _ := kH
  clear hst4 onH bH hSH kH
  generalize (if s = 0 then R else x) = x2 at *
  generalize (if s = 1 then R else y) = y2 at *
  generalize (if s = 2 then R else z) = z2 at *
  go_show
  go_wp2_with first
    | ((with_reducible show wpList _ _ _ _ _ _); refine armLv (.tmp 5) 117 rfl rfl rfl HLD.out ?_)
  refine Calls.mono (HSL.out _) ?_
  rintro e w9 ⟨rfl, hb9⟩
  have HK9 : Hid _ := HKH.out.trans (hb9.mono HKH.out.size)
  clear hb9
  go_wp2
  try go_ret
  rw [← HQ.out]
  exact ⟨rfl, HK9.out⟩
theorem fork_low {f : Bs} {a b c : Tr} (hw : (Tr.fork f a b c).wf) (hok : (Tr.fork f a b c).Ok) : f.length < 128 := by
  obtain ⟨ha, hb, hc, ub, uc, hs⟩ := hw
  obtain ⟨h0, h1, h2, h3⟩ := hok
  have low : ∀ (t : Tr) (q : Bool), t.Ok → t.Und (f ++ [q]) → t.isNil = false → f.length < 128 := fun t q ht hu hn => by
    have h := (hu hn).length_le
    have : t.top.length ≤ 128 := by
      cases t with
      | nil => simp [Tr.isNil] at hn
      | leaf k v => exact ht
      | fork k x y z => exact ht.1
    simp at h
    omega
  rcases Bool.eq_false_or_eq_true b.isNil with q | q
  · rcases Bool.eq_false_or_eq_true c.isNil with q2 | q2
    · exfalso
      have e1 : b.some1 = 0 := by simp [Tr.some1, q]
      have e2 : c.some1 = 0 := by simp [Tr.some1, q2]
      have e3 : a.some1 ≤ 1 := by unfold Tr.some1; split <;> omega
      omega
    · exact low c true h3 uc q2
  · exact low b false h2 ub q
theorem without_any (t : Tr) (hok : t.Ok) (hw : t.wf) (k : Bs) (hk : k.length ≤ 128) (w : World) :
    Calls Try.prog 72 #[enc t, KV k] w fun e w' => e = .returned (enc (t.del k)) ∧ Below w.heap.size w w' := by
  induction t generalizing w with
  | nil => exact without_no _ (.inl rfl) k w
  | leaf k' v' => exact without_no _ (.inr ⟨_, rfl⟩) k w
  | fork f a b c iha ihb ihc =>
    have hlow := fork_low hw hok
    obtain ⟨h0, h1, h2, h3⟩ := hok
    obtain ⟨wa, wb, wc, _⟩ := hw
    have wa' : a.wf := by
      rcases wa with q | ⟨v, rfl⟩
      · rw [Tr.nil_of q]; trivial
      · trivial
    have hs := Tr.sd_lt f k
    have h := without_fork f (enc a) (enc b) (enc c) (enc_node a) (enc_node b) (enc_node c) (enc_one a) (enc_one b) (enc_one c) h0 k hk (fun _ => hlow) w (enc ((Tr.getK a b c (Tr.sd f k)).del k)) (enc_node _) (fun W => by
      rcases (by omega : Tr.sd f k = 0 ∨ Tr.sd f k = 1 ∨ Tr.sd f k = 2) with e | e | e <;> rw [e]
      · exact iha h1 wa' W
      · exact ihb h2 wb W
      · exact ihc h3 wc W)
    have e : enc ((Tr.fork f a b c).del k) = slimV f (if Tr.sd f k = 0 then enc ((Tr.getK a b c (Tr.sd f k)).del k) else enc a) (if Tr.sd f k = 1 then enc ((Tr.getK a b c (Tr.sd f k)).del k) else enc b) (if Tr.sd f k = 2 then enc ((Tr.getK a b c (Tr.sd f k)).del k) else enc c) := by
      rw [Tr.del]
      rcases (by omega : Tr.sd f k = 0 ∨ Tr.sd f k = 1 ∨ Tr.sd f k = 2) with e | e | e <;> simp only [e, Tr.getK] <;> exact slim_enc _ _ _ _
    rw [e]
    exact h
end Go.Proofs.Ytenahbdopgmpfaa
