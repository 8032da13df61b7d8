/-
  A step: Del, Get6, nothing.
  A step: Best, Under and Over.
-/
import Derived.Test.YtenahbdopgmpfaaFold37
namespace Go.Proofs.Ytenahbdopgmpfaa
open Go Go.RowKit Go.Shelf
set_option linter.unusedVariables false
set_option linter.unusedSimpArgs false

set_option maxHeartbeats 8000000 in
set_option maxRecDepth 100000 in
theorem step_del4 {p b : Nat} {lim : Int} {l4 l6 : List Ent} {v4 v6 : Value} {W : World} (hp : p < b) (ht : TBL p lim l4 l6 W) (hd : Doc b lim l4 l6 v4 v6 W) (hc : LC lim l4 l6) (o : OpD) (hi : o.In) (hk : o.kd = 3) :
    Calls Try.prog 11 #[.pointer (some ⟨p, 0, none⟩), .pointer (some ⟨b, 0, none⟩), .agg o.c.toArray] W fun e w' => StepP p b lim W e w' := by
  generalize hQ : (fun (e : Ending) (w' : World) => StepP p b lim W e w') = Q
  have HQ : Hid (∀ e w', StepP p b lim W e w' → Q e w') := fun e w' hh => by rw [← hQ]; exact hh
  clear hQ
  obtain ⟨n, hn⟩ : ∃ n, W.heap.size = n := ⟨_, rfl⟩
  obtain ⟨W1, hW1⟩ : ∃ W1, W1 = W.alloc (.cells o.c.toArray 41) := ⟨_, rfl⟩
  have hB1 : Below n W W1 := by rw [hW1, ← hn]; exact (Below.refl W.heap.size W).alloc (Nat.le_refl _) _
  have hx1 : W1.heap[n]? = some (.cells o.c.toArray 41) := by rw [hW1, ← hn]; exact blk_new W _
  have hbn : b < n := by rw [← hn]; exact hd.lt
  have HX1 : Hid (W1.heap[n]? = some (.cells o.c.toArray 41)) := hx1
  have HT1 : Hid (TBL p lim l4 l6 W1) := ht.on (hB1.block p (by omega))
  have HD1 : Hid (Doc b lim l4 l6 v4 v6 W1) := hd.on (by rw [hn]; exact hB1)
  have HBN : Hid (p < b ∧ b < n ∧ n < W1.heap.size) := ⟨hp, hbn, (Array.getElem?_eq_some_iff.1 hx1).1⟩
  have HB1 : Hid (Below n W W1) := hB1
  have HC : Hid (LC lim l4 l6) := hc
  have HI : Hid o.In := hi
  have ck : W1.cell? ⟨n, 0, none⟩ = some (.int .i64 o.kd) := od_k hx1
  have cv : W1.cell? ⟨n, 43, none⟩ = some (.int .i64 o.v) := od_v hx1 hi
  have hW := hW1.symm
  have hlc : LC lim (delR l4 (ok4L o.l o.n) (keyN o.l o.n)).2 l6 := delR_lc4 hc (ok4L o.l o.n) (keyN o.l o.n)
  have HP : Hid (∀ X : World, TBL p lim l4 l6 X → _) := fun X hX => PDel4 (W := X) hX hc o.l o.n hi.fl hi.kl hi.bn
  have HDP : Hid (∀ (X : World), Doc b lim l4 l6 v4 v6 X → _) := fun X hX => DDel4 (W := X) hX hc o.l o.n hi.fl hi.kl hi.bn
  obtain ⟨r1, l', hR⟩ : ∃ r1 l', delR l4 (ok4L o.l o.n) (keyN o.l o.n) = (r1, l') := ⟨_, _, rfl⟩
  rw [hR] at hlc
  simp only [hR] at HP HDP
  have HLC : Hid (LC lim l' l6) := hlc
  clear hR hlc
  rw [hk] at ck
  clear hW1 hB1 hx1 hbn hp ht hd hc hi hk
  generalize hcc : o.c = CC at *
  go_enter Try.func11, Try.ntmps11
  go_wp2_with fail
  refine wp_region_held (S := fun X => X.heap[n]? = some (.cells CC.toArray 41)) (by kernel_rfl) ?_
  show wpAnyH _ _ _ _ _ 10 (Array.replicate 10 false) _ W1.drew
  have h0 : W1.drew.heap[n]? = some (.cells CC.toArray 41) := HX1.out
  have t0 : TBL p lim l4 l6 W1.drew := HT1.out.on rfl
  have d0 : Doc b lim l4 l6 v4 v6 W1.drew := HD1.out.on (Below.refl _ W1).drew
  have b0 : Below n W W1.drew := HB1.out.trans ((Below.refl n W1).drew)
  have z0 : n < W1.drew.heap.size := HBN.out.2.2
  generalize W1.drew = X0 at *
  refine take_wT (i := 0) (d := some 103) (v := .pointer (some ⟨p, 0, none⟩)) rfl rfl rfl (by kernel_rfl) (by kernel_rfl) (by kernel_rfl) (fun _ _ d _ _ h => by cases d <;> exact h) (fun X hS => by kernel_rfl) h0 ?_
  simp only [Act.put, List.setIfInBounds_toArray, List.set_cons_zero, List.set_cons_succ]
  refine take_wT (i := 1) (d := some 104) (v := .pointer (some ⟨n, 1, none⟩)) rfl rfl rfl (by kernel_rfl) (by kernel_rfl) (by kernel_rfl) (fun _ _ d _ _ h => by cases d <;> exact h) (fun X hS => by kernel_rfl) h0 ?_
  simp only [Act.put, List.setIfInBounds_toArray, List.set_cons_zero, List.set_cons_succ]
  refine take_wT (i := 2) (d := some 105) (v := .agg (cp6 o.l o.n).toArray) rfl rfl rfl (by kernel_rfl) (by kernel_rfl) (by kernel_rfl) (fun _ _ d _ _ h => by cases d <;> exact h) (fun X hS => ex_loadA (.tmp 104) 35 rfl rfl (od_P (by rw [hcc]; exact hS) HI.out)) h0 ?_
  simp only [Act.put, List.setIfInBounds_toArray, List.set_cons_zero, List.set_cons_succ]
  refine take_wT (i := 4) (d := some 107) (v := .pointer (some ⟨b, 0, none⟩)) rfl rfl rfl (by kernel_rfl) (by kernel_rfl) (by kernel_rfl) (fun _ _ d _ _ h => by cases d <;> exact h) (fun X hS => by kernel_rfl) h0 ?_
  simp only [Act.put, List.setIfInBounds_toArray, List.set_cons_zero, List.set_cons_succ]
  refine take_wT (i := 5) (d := some 108) (v := .pointer (some ⟨n, 1, none⟩)) rfl rfl rfl (by kernel_rfl) (by kernel_rfl) (by kernel_rfl) (fun _ _ d _ _ h => by cases d <;> exact h) (fun X hS => by kernel_rfl) h0 ?_
  simp only [Act.put, List.setIfInBounds_toArray, List.set_cons_zero, List.set_cons_succ]
  refine take_wT (i := 6) (d := some 109) (v := .agg (cp6 o.l o.n).toArray) rfl rfl rfl (by kernel_rfl) (by kernel_rfl) (by kernel_rfl) (fun _ _ d _ _ h => by cases d <;> exact h) (fun X hS => ex_loadA (.tmp 108) 35 rfl rfl (od_P (by rw [hcc]; exact hS) HI.out)) h0 ?_
  simp only [Act.put, List.setIfInBounds_toArray, List.set_cons_zero, List.set_cons_succ]
  refine all_wT (i := 3) (by kernel_rfl) rfl rfl ?_
  refine wp_call (d := some 106) 22 _ rfl (by kernel_rfl) (callR (HP.out _ t0)) ?_
  rintro _ X1 ⟨rfl, ht1, hf1⟩
  have h1 : X1.heap[n]? = some (.cells CC.toArray 41) := (hf1.2.2 n z0 (by have := HBN.out; omega)).trans h0
  have hf1 : FrT p X0 X1 := hf1
  have ht1 : TBL p lim l' l6 X1 := ht1
  have d1 := d0.frT HBN.out.1 hf1
  refine ⟨h1, ?_⟩
  simp only [Act.put, List.setIfInBounds_toArray, List.set_cons_zero, List.set_cons_succ]
  refine all_wT (i := 7) (by kernel_rfl) rfl rfl ?_
  refine wp_call (d := some 110) 33 _ rfl (by kernel_rfl) (delX (HDP.out _ d1)) ?_
  rintro _ X2 ⟨rfl, u, hd2, hf2⟩
  have hf2 : FrT b X1 X2 := hf2
  have h2 : X2.heap[n]? = some (.cells CC.toArray 41) := (hf2.2.2 n (Nat.lt_of_lt_of_le z0 hf1.1) (by have := HBN.out; omega)).trans h1
  refine ⟨h2, ?_⟩
  simp only [Act.put, List.setIfInBounds_toArray, List.set_cons_zero, List.set_cons_succ]
  refine take_wT (i := 8) (d := some 111) (v := .bool true) rfl rfl rfl (by kernel_rfl) (by kernel_rfl) (by kernel_rfl) (fun _ _ d _ _ h => by cases d <;> exact h) (fun X hS => ex_eqiT (.tmp 106) (.tmp 110) (.inr rfl) rfl rfl rfl) h2 ?_
  simp only [Act.put, List.setIfInBounds_toArray, List.set_cons_zero, List.set_cons_succ]
  refine take_wT (i := 9) (d := some 6) (v := .bool true) rfl rfl rfl (by kernel_rfl) (by kernel_rfl) (by kernel_rfl) (fun _ _ d _ _ h => by cases d <;> exact h) (fun X hS => by kernel_rfl) h2 ?_
  simp only [Act.put, List.setIfInBounds_toArray, List.set_cons_zero, List.set_cons_succ]
  refine wpAnyH_done (by kernel_rfl) ?_ _
  have HFN : Hid (StepP p b lim W (.returned (.bool true)) X2) := ⟨rfl, _, _, _, _, ht1.on (hf2.2.2 p ht1.lt (by have := HBN.out; omega)), hd2, HLC.out, ((b0.mono (by have := HBN.out; omega)).trans (hf1.2.1 p (Nat.le_refl _) (by have := HBN.out; omega))).trans (hf2.2.1 p (by have := HBN.out; omega) (by have := hf1.1; have := HBN.out; omega))⟩
  clear h0 t0 d0 b0 z0 h1 d1 ht1 hf1 h2 hd2 hf2 HP HDP HT1 HD1 HX1 HB1
  go_wp2
  try go_returns
  exact HQ.out _ _ HFN.out
set_option maxHeartbeats 8000000 in
set_option maxRecDepth 100000 in
theorem step_del6 {p b : Nat} {lim : Int} {l4 l6 : List Ent} {v4 v6 : Value} {W : World} (hp : p < b) (ht : TBL p lim l4 l6 W) (hd : Doc b lim l4 l6 v4 v6 W) (hc : LC lim l4 l6) (o : OpD) (hi : o.In) (hk : o.kd = 4) :
    Calls Try.prog 11 #[.pointer (some ⟨p, 0, none⟩), .pointer (some ⟨b, 0, none⟩), .agg o.c.toArray] W fun e w' => StepP p b lim W e w' := by
  generalize hQ : (fun (e : Ending) (w' : World) => StepP p b lim W e w') = Q
  have HQ : Hid (∀ e w', StepP p b lim W e w' → Q e w') := fun e w' hh => by rw [← hQ]; exact hh
  clear hQ
  obtain ⟨n, hn⟩ : ∃ n, W.heap.size = n := ⟨_, rfl⟩
  obtain ⟨W1, hW1⟩ : ∃ W1, W1 = W.alloc (.cells o.c.toArray 41) := ⟨_, rfl⟩
  have hB1 : Below n W W1 := by rw [hW1, ← hn]; exact (Below.refl W.heap.size W).alloc (Nat.le_refl _) _
  have hx1 : W1.heap[n]? = some (.cells o.c.toArray 41) := by rw [hW1, ← hn]; exact blk_new W _
  have hbn : b < n := by rw [← hn]; exact hd.lt
  have HX1 : Hid (W1.heap[n]? = some (.cells o.c.toArray 41)) := hx1
  have HT1 : Hid (TBL p lim l4 l6 W1) := ht.on (hB1.block p (by omega))
  have HD1 : Hid (Doc b lim l4 l6 v4 v6 W1) := hd.on (by rw [hn]; exact hB1)
  have HBN : Hid (p < b ∧ b < n ∧ n < W1.heap.size) := ⟨hp, hbn, (Array.getElem?_eq_some_iff.1 hx1).1⟩
  have HB1 : Hid (Below n W W1) := hB1
  have HC : Hid (LC lim l4 l6) := hc
  have HI : Hid o.In := hi
  have ck : W1.cell? ⟨n, 0, none⟩ = some (.int .i64 o.kd) := od_k hx1
  have cv : W1.cell? ⟨n, 43, none⟩ = some (.int .i64 o.v) := od_v hx1 hi
  have hW := hW1.symm
  have hlc : LC lim l4 (delR l6 (ok6L o.lq o.m) (keyN o.lq o.m)).2 := delR_lc6 hc (ok6L o.lq o.m) (keyN o.lq o.m)
  have HP : Hid (∀ X : World, TBL p lim l4 l6 X → _) := fun X hX => PDel6 (W := X) hX hc o.lq o.m hi.fq hi.kq hi.bm
  have HDP : Hid (∀ (X : World), Doc b lim l4 l6 v4 v6 X → _) := fun X hX => DDel6 (W := X) hX hc o.lq o.m hi.fq hi.kq hi.bm
  obtain ⟨r1, l', hR⟩ : ∃ r1 l', delR l6 (ok6L o.lq o.m) (keyN o.lq o.m) = (r1, l') := ⟨_, _, rfl⟩
  rw [hR] at hlc
  simp only [hR] at HP HDP
  have HLC : Hid (LC lim l4 l') := hlc
  clear hR hlc
  rw [hk] at ck
  clear hW1 hB1 hx1 hbn hp ht hd hc hi hk
  generalize hcc : o.c = CC at *
  go_enter Try.func11, Try.ntmps11
  go_wp2_with fail
  refine wp_region_held (S := fun X => X.heap[n]? = some (.cells CC.toArray 41)) (by kernel_rfl) ?_
  show wpAnyH _ _ _ _ _ 10 (Array.replicate 10 false) _ W1.drew
  have h0 : W1.drew.heap[n]? = some (.cells CC.toArray 41) := HX1.out
  have t0 : TBL p lim l4 l6 W1.drew := HT1.out.on rfl
  have d0 : Doc b lim l4 l6 v4 v6 W1.drew := HD1.out.on (Below.refl _ W1).drew
  have b0 : Below n W W1.drew := HB1.out.trans ((Below.refl n W1).drew)
  have z0 : n < W1.drew.heap.size := HBN.out.2.2
  generalize W1.drew = X0 at *
  refine take_wT (i := 0) (d := some 114) (v := .pointer (some ⟨p, 0, none⟩)) rfl rfl rfl (by kernel_rfl) (by kernel_rfl) (by kernel_rfl) (fun _ _ d _ _ h => by cases d <;> exact h) (fun X hS => by kernel_rfl) h0 ?_
  simp only [Act.put, List.setIfInBounds_toArray, List.set_cons_zero, List.set_cons_succ]
  refine take_wT (i := 1) (d := some 115) (v := .pointer (some ⟨n, 6, none⟩)) rfl rfl rfl (by kernel_rfl) (by kernel_rfl) (by kernel_rfl) (fun _ _ d _ _ h => by cases d <;> exact h) (fun X hS => by kernel_rfl) h0 ?_
  simp only [Act.put, List.setIfInBounds_toArray, List.set_cons_zero, List.set_cons_succ]
  refine take_wT (i := 2) (d := some 116) (v := .agg (cp6 o.lq o.m).toArray) rfl rfl rfl (by kernel_rfl) (by kernel_rfl) (by kernel_rfl) (fun _ _ d _ _ h => by cases d <;> exact h) (fun X hS => ex_loadA (.tmp 115) 39 rfl rfl (od_Q (by rw [hcc]; exact hS) HI.out)) h0 ?_
  simp only [Act.put, List.setIfInBounds_toArray, List.set_cons_zero, List.set_cons_succ]
  refine take_wT (i := 4) (d := some 118) (v := .pointer (some ⟨b, 0, none⟩)) rfl rfl rfl (by kernel_rfl) (by kernel_rfl) (by kernel_rfl) (fun _ _ d _ _ h => by cases d <;> exact h) (fun X hS => by kernel_rfl) h0 ?_
  simp only [Act.put, List.setIfInBounds_toArray, List.set_cons_zero, List.set_cons_succ]
  refine take_wT (i := 5) (d := some 119) (v := .pointer (some ⟨n, 6, none⟩)) rfl rfl rfl (by kernel_rfl) (by kernel_rfl) (by kernel_rfl) (fun _ _ d _ _ h => by cases d <;> exact h) (fun X hS => by kernel_rfl) h0 ?_
  simp only [Act.put, List.setIfInBounds_toArray, List.set_cons_zero, List.set_cons_succ]
  refine take_wT (i := 6) (d := some 120) (v := .agg (cp6 o.lq o.m).toArray) rfl rfl rfl (by kernel_rfl) (by kernel_rfl) (by kernel_rfl) (fun _ _ d _ _ h => by cases d <;> exact h) (fun X hS => ex_loadA (.tmp 119) 39 rfl rfl (od_Q (by rw [hcc]; exact hS) HI.out)) h0 ?_
  simp only [Act.put, List.setIfInBounds_toArray, List.set_cons_zero, List.set_cons_succ]
  refine all_wT (i := 3) (by kernel_rfl) rfl rfl ?_
  refine wp_call (d := some 117) 24 _ rfl (by kernel_rfl) (callR (HP.out _ t0)) ?_
  rintro _ X1 ⟨rfl, ht1, hf1⟩
  have h1 : X1.heap[n]? = some (.cells CC.toArray 41) := (hf1.2.2 n z0 (by have := HBN.out; omega)).trans h0
  have hf1 : FrT p X0 X1 := hf1
  have ht1 : TBL p lim l4 l' X1 := ht1
  have d1 := d0.frT HBN.out.1 hf1
  refine ⟨h1, ?_⟩
  simp only [Act.put, List.setIfInBounds_toArray, List.set_cons_zero, List.set_cons_succ]
  refine all_wT (i := 7) (by kernel_rfl) rfl rfl ?_
  refine wp_call (d := some 121) 34 _ rfl (by kernel_rfl) (delX (HDP.out _ d1)) ?_
  rintro _ X2 ⟨rfl, u, hd2, hf2⟩
  have hf2 : FrT b X1 X2 := hf2
  have h2 : X2.heap[n]? = some (.cells CC.toArray 41) := (hf2.2.2 n (Nat.lt_of_lt_of_le z0 hf1.1) (by have := HBN.out; omega)).trans h1
  refine ⟨h2, ?_⟩
  simp only [Act.put, List.setIfInBounds_toArray, List.set_cons_zero, List.set_cons_succ]
  refine take_wT (i := 8) (d := some 122) (v := .bool true) rfl rfl rfl (by kernel_rfl) (by kernel_rfl) (by kernel_rfl) (fun _ _ d _ _ h => by cases d <;> exact h) (fun X hS => ex_eqiT (.tmp 117) (.tmp 121) (.inr rfl) rfl rfl rfl) h2 ?_
  simp only [Act.put, List.setIfInBounds_toArray, List.set_cons_zero, List.set_cons_succ]
  refine take_wT (i := 9) (d := some 6) (v := .bool true) rfl rfl rfl (by kernel_rfl) (by kernel_rfl) (by kernel_rfl) (fun _ _ d _ _ h => by cases d <;> exact h) (fun X hS => by kernel_rfl) h2 ?_
  simp only [Act.put, List.setIfInBounds_toArray, List.set_cons_zero, List.set_cons_succ]
  refine wpAnyH_done (by kernel_rfl) ?_ _
  have HFN : Hid (StepP p b lim W (.returned (.bool true)) X2) := ⟨rfl, _, _, _, _, ht1.on (hf2.2.2 p ht1.lt (by have := HBN.out; omega)), hd2, HLC.out, ((b0.mono (by have := HBN.out; omega)).trans (hf1.2.1 p (Nat.le_refl _) (by have := HBN.out; omega))).trans (hf2.2.1 p (by have := HBN.out; omega) (by have := hf1.1; have := HBN.out; omega))⟩
  clear h0 t0 d0 b0 z0 h1 d1 ht1 hf1 h2 hd2 hf2 HP HDP HT1 HD1 HX1 HB1
  go_wp2
  try go_returns
  exact HQ.out _ _ HFN.out
set_option maxHeartbeats 8000000 in
set_option maxRecDepth 100000 in
theorem step_get6 {p b : Nat} {lim : Int} {l4 l6 : List Ent} {v4 v6 : Value} {W : World} (hp : p < b) (ht : TBL p lim l4 l6 W) (hd : Doc b lim l4 l6 v4 v6 W) (hc : LC lim l4 l6) (o : OpD) (hi : o.In) (hk : o.kd = 6) :
    Calls Try.prog 11 #[.pointer (some ⟨p, 0, none⟩), .pointer (some ⟨b, 0, none⟩), .agg o.c.toArray] W fun e w' => StepP p b lim W e w' := by
  generalize hQ : (fun (e : Ending) (w' : World) => StepP p b lim W e w') = Q
  have HQ : Hid (∀ e w', StepP p b lim W e w' → Q e w') := fun e w' hh => by rw [← hQ]; exact hh
  clear hQ
  obtain ⟨n, hn⟩ : ∃ n, W.heap.size = n := ⟨_, rfl⟩
  obtain ⟨W1, hW1⟩ : ∃ W1, W1 = W.alloc (.cells o.c.toArray 41) := ⟨_, rfl⟩
  have hB1 : Below n W W1 := by rw [hW1, ← hn]; exact (Below.refl W.heap.size W).alloc (Nat.le_refl _) _
  have hx1 : W1.heap[n]? = some (.cells o.c.toArray 41) := by rw [hW1, ← hn]; exact blk_new W _
  have hbn : b < n := by rw [← hn]; exact hd.lt
  have HX1 : Hid (W1.heap[n]? = some (.cells o.c.toArray 41)) := hx1
  have HT1 : Hid (TBL p lim l4 l6 W1) := ht.on (hB1.block p (by omega))
  have HD1 : Hid (Doc b lim l4 l6 v4 v6 W1) := hd.on (by rw [hn]; exact hB1)
  have HBN : Hid (p < b ∧ b < n ∧ n < W1.heap.size) := ⟨hp, hbn, (Array.getElem?_eq_some_iff.1 hx1).1⟩
  have HB1 : Hid (Below n W W1) := hB1
  have HC : Hid (LC lim l4 l6) := hc
  have HI : Hid o.In := hi
  have ck : W1.cell? ⟨n, 0, none⟩ = some (.int .i64 o.kd) := od_k hx1
  have cv : W1.cell? ⟨n, 43, none⟩ = some (.int .i64 o.v) := od_v hx1 hi
  have hW := hW1.symm
  have HP : Hid (∀ X : World, TBL p lim l4 l6 X → _) := fun X hX => PGet6 (W := X) hX o.lq o.m hi.fq hi.kq hi.bm
  have HDP : Hid (∀ (X : World), Doc b lim l4 l6 v4 v6 X → _) := fun X hX => DGet6 (W := X) hX hc o.lq o.m hi.fq hi.kq hi.bm
  obtain ⟨r1, r2, r3, hR⟩ : ∃ r1 r2 r3, getR l6 (ok6L o.lq o.m) (keyN o.lq o.m) = (r1, r2, r3) := ⟨_, _, _, rfl⟩
  simp only [hR] at HP HDP
  clear hR
  rw [hk] at ck
  have HLP : Hid _ := od_Q hx1 hi
  clear hW1 hB1 hx1 hbn hp ht hd hc hi hk
  generalize hcc : o.c = CC at *
  go_enter Try.func11, Try.ntmps11
  go_wp2_with first
    | ((with_reducible show wpList _ _ _ ({ dst := _, op := Op.load 39 (Operand.tmp 158), type := _, pos := _, after := _, guard := _ } :: _) _ _); refine armLv (.tmp 158) 39 rfl rfl rfl HLP.out ?_)
  refine Calls.mono (HP.out _ HT1.out) ?_
  rintro e w1 ⟨rfl, ht1, hf1⟩
  have hx2 : w1.heap[n]? = some (.cells CC.toArray 41) := (hf1.2.2 n HBN.out.2.2 (by have := HBN.out; omega)).trans HX1.out
  have HLP2 : Hid _ := od_Q (by rw [hcc]; exact hx2) HI.out
  have HT2 : Hid (TBL p lim l4 l6 w1) := ht1
  have HF1 : Hid (FrT p W1 w1) := hf1
  clear hx2 ht1 hf1
  go_wp2_with first
    | ((with_reducible show wpList _ _ _ ({ dst := _, op := Op.load 39 (Operand.tmp 166), type := _, pos := _, after := _, guard := _ } :: _) _ _); refine armLv (.tmp 166) 39 rfl rfl rfl HLP2.out ?_)
  refine Calls.mono (HDP.out _ (HD1.out.frT HBN.out.1 HF1.out)) ?_
  rintro e w2 ⟨rfl, hb2⟩
  have HFN : Hid (StepP p b lim W (.returned (.bool true)) w2) := ⟨rfl, _, _, _, _, HT2.out.on (hb2.block p HT2.out.lt), (HD1.out.frT HBN.out.1 HF1.out).on hb2, HC.out, ((HB1.out.mono (by have := HBN.out; omega)).trans (HF1.out.2.1 p (Nat.le_refl _) (by have := HBN.out; omega))).trans (hb2.mono (Nat.le_of_lt HT2.out.lt))⟩
  clear hb2 HT2 HF1 HT1 HD1 HP HDP HLP HLP2
  go_wp2
  try go_ret
  exact HQ.out _ _ HFN.out
set_option maxHeartbeats 8000000 in
set_option maxRecDepth 100000 in
theorem step_other {p b : Nat} {lim : Int} {l4 l6 : List Ent} {v4 v6 : Value} {W : World} (hp : p < b) (ht : TBL p lim l4 l6 W) (hd : Doc b lim l4 l6 v4 v6 W) (hc : LC lim l4 l6) (o : OpD) (hi : o.In) (hk : ∀ i : Int, 1 ≤ i → i ≤ 9 → o.kd ≠ i) :
    Calls Try.prog 11 #[.pointer (some ⟨p, 0, none⟩), .pointer (some ⟨b, 0, none⟩), .agg o.c.toArray] W fun e w' => StepP p b lim W e w' := by
  generalize hQ : (fun (e : Ending) (w' : World) => StepP p b lim W e w') = Q
  have HQ : Hid (∀ e w', StepP p b lim W e w' → Q e w') := fun e w' hh => by rw [← hQ]; exact hh
  clear hQ
  obtain ⟨n, hn⟩ : ∃ n, W.heap.size = n := ⟨_, rfl⟩
  obtain ⟨W1, hW1⟩ : ∃ W1, W1 = W.alloc (.cells o.c.toArray 41) := ⟨_, rfl⟩
  have hB1 : Below n W W1 := by rw [hW1, ← hn]; exact (Below.refl W.heap.size W).alloc (Nat.le_refl _) _
  have hx1 : W1.heap[n]? = some (.cells o.c.toArray 41) := by rw [hW1, ← hn]; exact blk_new W _
  have hbn : b < n := by rw [← hn]; exact hd.lt
  have HX1 : Hid (W1.heap[n]? = some (.cells o.c.toArray 41)) := hx1
  have HT1 : Hid (TBL p lim l4 l6 W1) := ht.on (hB1.block p (by omega))
  have HD1 : Hid (Doc b lim l4 l6 v4 v6 W1) := hd.on (by rw [hn]; exact hB1)
  have HBN : Hid (p < b ∧ b < n ∧ n < W1.heap.size) := ⟨hp, hbn, (Array.getElem?_eq_some_iff.1 hx1).1⟩
  have HB1 : Hid (Below n W W1) := hB1
  have HC : Hid (LC lim l4 l6) := hc
  have HI : Hid o.In := hi
  have ck : W1.cell? ⟨n, 0, none⟩ = some (.int .i64 o.kd) := od_k hx1
  have cv : W1.cell? ⟨n, 43, none⟩ = some (.int .i64 o.v) := od_v hx1 hi
  have hW := hW1.symm
  have n1 : (o.kd == 1) = false := by simpa using hk 1 (by omega) (by omega)
  have m1 : decide (o.kd = 1) = false := decide_eq_false (hk 1 (by omega) (by omega))
  have n2 : (o.kd == 2) = false := by simpa using hk 2 (by omega) (by omega)
  have m2 : decide (o.kd = 2) = false := decide_eq_false (hk 2 (by omega) (by omega))
  have n3 : (o.kd == 3) = false := by simpa using hk 3 (by omega) (by omega)
  have m3 : decide (o.kd = 3) = false := decide_eq_false (hk 3 (by omega) (by omega))
  have n4 : (o.kd == 4) = false := by simpa using hk 4 (by omega) (by omega)
  have m4 : decide (o.kd = 4) = false := decide_eq_false (hk 4 (by omega) (by omega))
  have n5 : (o.kd == 5) = false := by simpa using hk 5 (by omega) (by omega)
  have m5 : decide (o.kd = 5) = false := decide_eq_false (hk 5 (by omega) (by omega))
  have n6 : (o.kd == 6) = false := by simpa using hk 6 (by omega) (by omega)
  have m6 : decide (o.kd = 6) = false := decide_eq_false (hk 6 (by omega) (by omega))
  have n7 : (o.kd == 7) = false := by simpa using hk 7 (by omega) (by omega)
  have m7 : decide (o.kd = 7) = false := decide_eq_false (hk 7 (by omega) (by omega))
  have n8 : (o.kd == 8) = false := by simpa using hk 8 (by omega) (by omega)
  have m8 : decide (o.kd = 8) = false := decide_eq_false (hk 8 (by omega) (by omega))
  have n9 : (o.kd == 9) = false := by simpa using hk 9 (by omega) (by omega)
  have m9 : decide (o.kd = 9) = false := decide_eq_false (hk 9 (by omega) (by omega))
  have HFN : Hid (StepP p b lim W (.returned (.bool true)) W1) := ⟨rfl, _, _, _, _, HT1.out, HD1.out, HC.out, HB1.out.mono (by have := HBN.out; omega)⟩
  clear hW1 hB1 hx1 hbn hp ht hd hc hi hk cv
  generalize o.c = CC at *
  generalize o.kd = kd at *
  go_enter Try.func11, Try.ntmps11
  go_wp2
  try go_ret
  exact HQ.out _ _ HFN.out
end Go.Proofs.Ytenahbdopgmpfaa

namespace Go.Proofs.Ytenahbdopgmpfaa
open Go Go.RowKit Go.Shelf
set_option linter.unusedVariables false
set_option linter.unusedSimpArgs false

set_option maxHeartbeats 8000000 in
set_option maxRecDepth 100000 in
theorem step_best4 {p b : Nat} {lim : Int} {l4 l6 : List Ent} {v4 v6 : Value} {W : World} (hp : p < b) (ht : TBL p lim l4 l6 W) (hd : Doc b lim l4 l6 v4 v6 W) (hc : LC lim l4 l6) (o : OpD) (hi : o.In) (hk : o.kd = 7) :
    Calls Try.prog 11 #[.pointer (some ⟨p, 0, none⟩), .pointer (some ⟨b, 0, none⟩), .agg o.c.toArray] W fun e w' => StepP p b lim W e w' := by
  generalize hQ : (fun (e : Ending) (w' : World) => StepP p b lim W e w') = Q
  have HQ : Hid (∀ e w', StepP p b lim W e w' → Q e w') := fun e w' hh => by rw [← hQ]; exact hh
  clear hQ
  obtain ⟨n, hn⟩ : ∃ n, W.heap.size = n := ⟨_, rfl⟩
  obtain ⟨W1, hW1⟩ : ∃ W1, W1 = W.alloc (.cells o.c.toArray 41) := ⟨_, rfl⟩
  have hB1 : Below n W W1 := by rw [hW1, ← hn]; exact (Below.refl W.heap.size W).alloc (Nat.le_refl _) _
  have hx1 : W1.heap[n]? = some (.cells o.c.toArray 41) := by rw [hW1, ← hn]; exact blk_new W _
  have hbn : b < n := by rw [← hn]; exact hd.lt
  have HX1 : Hid (W1.heap[n]? = some (.cells o.c.toArray 41)) := hx1
  have HT1 : Hid (TBL p lim l4 l6 W1) := ht.on (hB1.block p (by omega))
  have HD1 : Hid (Doc b lim l4 l6 v4 v6 W1) := hd.on (by rw [hn]; exact hB1)
  have HBN : Hid (p < b ∧ b < n ∧ n < W1.heap.size) := ⟨hp, hbn, (Array.getElem?_eq_some_iff.1 hx1).1⟩
  have HB1 : Hid (Below n W W1) := hB1
  have HC : Hid (LC lim l4 l6) := hc
  have HI : Hid o.In := hi
  have ck : W1.cell? ⟨n, 0, none⟩ = some (.int .i64 o.kd) := od_k hx1
  have cv : W1.cell? ⟨n, 43, none⟩ = some (.int .i64 o.v) := od_v hx1 hi
  have hW := hW1.symm
  have HP : Hid (∀ X : World, TBL p lim l4 l6 X → _) := fun X hX => PBest4 (W := X) hX o.a hi.ka hi.fa
  have HDP : Hid (∀ (X : World), Doc b lim l4 l6 v4 v6 X → _) := fun X hX => DBest4 (W := X) hX hc o.a hi.ka hi.fa
  generalize bstN (fun k => pre k (bitsK o.a 32)) l4 = bs at HP HDP
  obtain ⟨bo, hbo⟩ : ∃ bo, bs.isSome = bo := ⟨_, rfl⟩
  rw [hbo] at HP HDP
  clear hbo
  rw [hk] at ck
  have HLP : Hid _ := od_A hx1 hi
  clear hW1 hB1 hx1 hbn hp ht hd hc hi hk
  generalize hcc : o.c = CC at *
  go_enter Try.func11, Try.ntmps11
  go_wp2_with first
    | ((with_reducible show wpList _ _ _ ({ dst := _, op := Op.load 33 (Operand.tmp 189), type := _, pos := _, after := _, guard := _ } :: _) _ _); refine armLv (.tmp 189) 33 rfl rfl rfl HLP.out ?_)
  refine Calls.mono (HP.out _ HT1.out) ?_
  rintro e w1 ⟨rfl, hb1⟩
  obtain ⟨y1, hst1, hbx1, hBy1⟩ := box_new (ty := 47) (n := 6) (fun w => by kernel_rfl) w1 [.int .u8 0, .int .u8 0, .int .u8 0, .int .u8 0, .int .i64 0, .int .i64 0] rfl (bE4 bs) (bE4_len bs) (bE4_one bs)
  have HST1 : Hid _ := hst1
  have HBX1 : Hid _ := hbx1
  have HBY1 : Hid _ := hBy1
  have HK1 : Hid (Below W1.heap.size W1 y1) := hb1.trans (hBy1.mono hb1.size)
  have hx2 : y1.heap[n]? = some (.cells CC.toArray 41) := blk_on HX1.out HK1.out
  have HLP2 : Hid _ := od_A (by rw [hcc]; exact hx2) HI.out
  clear hx2 hst1 hbx1 hBy1 hb1
  go_wp2_with first
    | ((with_reducible show wpList _ _ _ ({ dst := _, op := Op.store 47 (Operand.tmp 27) (Operand.tmp 192), type := _, pos := _, after := _, guard := _ } :: _) _ _); refine armS (.tmp 27) (.tmp 192) 47 rfl rfl rfl rfl HST1.out ?_)
    | ((with_reducible show wpList _ _ _ ({ dst := _, op := Op.load 33 (Operand.tmp 196), type := _, pos := _, after := _, guard := _ } :: _) _ _); refine armLv (.tmp 196) 33 rfl rfl rfl HLP2.out ?_)
  refine Calls.mono (HDP.out _ (HD1.out.on HK1.out)) ?_
  rintro e w2 ⟨rfl, hb2⟩
  obtain ⟨y2, hst2, hbx2, hBy2⟩ := box_new (ty := 47) (n := 6) (fun w => by kernel_rfl) w2 [.int .u8 0, .int .u8 0, .int .u8 0, .int .u8 0, .int .i64 0, .int .i64 0] rfl (bE4 bs) (bE4_len bs) (bE4_one bs)
  have HST2 : Hid _ := hst2
  have HBX2 : Hid _ := hbx2
  have HBY2 : Hid _ := hBy2
  have hk2 := hb2.trans (hBy2.mono hb2.size)
  have HK2 : Hid (Below W1.heap.size W1 y2) := HK1.out.trans (hk2.mono HK1.out.size)
  have HE1 : Hid ((Instr.loadAt 47 (.pointer (some ⟨w1.heap.size, 0, none⟩))).run Try.prog y2 = .ok (.agg (bE4 bs).toArray) y2) := agg_load (n := 6) (fun w => by kernel_rfl) (fun w => by kernel_rfl) (bE4_len bs) (CellsAt.of_blk (blk_on HBX1.out hk2))
  have HE2 : Hid ((Instr.loadAt 47 (.pointer (some ⟨w2.heap.size, 0, none⟩))).run Try.prog y2 = .ok (.agg (bE4 bs).toArray) y2) := agg_load (n := 6) (fun w => by kernel_rfl) (fun w => by kernel_rfl) (bE4_len bs) (CellsAt.of_blk hbx2)
  have HEQ : Hid _ := eqlB4 bs y2
  have HGD : Hid _ := fun (x y : Operand) => gdE4 .eql x y (bE4 bs).toArray (bE4 bs).toArray y2
  have HFN : Hid (StepP p b lim W (.returned (.bool true)) y2) := ⟨rfl, _, _, _, _, HT1.out.on (HK2.out.block p HT1.out.lt), HD1.out.on HK2.out, HC.out, (HB1.out.mono (by have := HBN.out; omega)).trans (HK2.out.mono (by have := HBN.out; omega))⟩
  clear hst2 hbx2 hBy2 hb2 hk2 HLP HLP2 HP HDP HT1 HD1 HK1 HK2 HBX1 HBX2 HBY1 HBY2
  generalize (bE4 bs).toArray = VB at *
  go_wp2_with first
    | ((with_reducible show wpList _ _ _ ({ dst := _, op := Op.store 47 (Operand.tmp 29) (Operand.tmp 199), type := _, pos := _, after := _, guard := _ } :: _) _ _); refine armS (.tmp 29) (.tmp 199) 47 rfl rfl rfl rfl HST2.out ?_)
    | ((with_reducible show wpList _ _ _ ({ dst := _, op := Op.load 47 (Operand.tmp 27), type := _, pos := _, after := _, guard := _ } :: _) _ _); refine armLv (.tmp 27) 47 rfl rfl rfl HE1.out ?_)
    | ((with_reducible show wpList _ _ _ ({ dst := _, op := Op.load 47 (Operand.tmp 29), type := _, pos := _, after := _, guard := _ } :: _) _ _); refine armLv (.tmp 29) 47 rfl rfl rfl HE2.out ?_)
    | ((with_reducible show wpList _ _ _ ({ dst := _, op := Op.binOp BinOp.eql 47 (Operand.tmp 201) (Operand.tmp 202) _, type := _, pos := _, after := _, guard := _ } :: _) _ _); refine arm_bin rfl .eql 47 47 (.tmp 201) (.tmp 202) rfl rfl rfl (HGD.out _ _) HEQ.out ?_)
  try go_ret
  exact HQ.out _ _ HFN.out
set_option maxHeartbeats 8000000 in
set_option maxRecDepth 100000 in
theorem step_best6 {p b : Nat} {lim : Int} {l4 l6 : List Ent} {v4 v6 : Value} {W : World} (hp : p < b) (ht : TBL p lim l4 l6 W) (hd : Doc b lim l4 l6 v4 v6 W) (hc : LC lim l4 l6) (o : OpD) (hi : o.In) (hk : o.kd = 8) :
    Calls Try.prog 11 #[.pointer (some ⟨p, 0, none⟩), .pointer (some ⟨b, 0, none⟩), .agg o.c.toArray] W fun e w' => StepP p b lim W e w' := by
  generalize hQ : (fun (e : Ending) (w' : World) => StepP p b lim W e w') = Q
  have HQ : Hid (∀ e w', StepP p b lim W e w' → Q e w') := fun e w' hh => by rw [← hQ]; exact hh
  clear hQ
  obtain ⟨n, hn⟩ : ∃ n, W.heap.size = n := ⟨_, rfl⟩
  obtain ⟨W1, hW1⟩ : ∃ W1, W1 = W.alloc (.cells o.c.toArray 41) := ⟨_, rfl⟩
  have hB1 : Below n W W1 := by rw [hW1, ← hn]; exact (Below.refl W.heap.size W).alloc (Nat.le_refl _) _
  have hx1 : W1.heap[n]? = some (.cells o.c.toArray 41) := by rw [hW1, ← hn]; exact blk_new W _
  have hbn : b < n := by rw [← hn]; exact hd.lt
  have HX1 : Hid (W1.heap[n]? = some (.cells o.c.toArray 41)) := hx1
  have HT1 : Hid (TBL p lim l4 l6 W1) := ht.on (hB1.block p (by omega))
  have HD1 : Hid (Doc b lim l4 l6 v4 v6 W1) := hd.on (by rw [hn]; exact hB1)
  have HBN : Hid (p < b ∧ b < n ∧ n < W1.heap.size) := ⟨hp, hbn, (Array.getElem?_eq_some_iff.1 hx1).1⟩
  have HB1 : Hid (Below n W W1) := hB1
  have HC : Hid (LC lim l4 l6) := hc
  have HI : Hid o.In := hi
  have ck : W1.cell? ⟨n, 0, none⟩ = some (.int .i64 o.kd) := od_k hx1
  have cv : W1.cell? ⟨n, 43, none⟩ = some (.int .i64 o.v) := od_v hx1 hi
  have hW := hW1.symm
  have HP : Hid (∀ X : World, TBL p lim l4 l6 X → _) := fun X hX => PBest6 (W := X) hX o.b hi.kb hi.fb
  have HDP : Hid (∀ (X : World), Doc b lim l4 l6 v4 v6 X → _) := fun X hX => DBest6 (W := X) hX hc o.b hi.kb hi.fb
  generalize bstN (fun k => pre k (bitsK o.b 128)) l6 = bs at HP HDP
  obtain ⟨bo, hbo⟩ : ∃ bo, bs.isSome = bo := ⟨_, rfl⟩
  rw [hbo] at HP HDP
  clear hbo
  rw [hk] at ck
  have HLP : Hid _ := od_B hx1 hi
  clear hW1 hB1 hx1 hbn hp ht hd hc hi hk
  generalize hcc : o.c = CC at *
  go_enter Try.func11, Try.ntmps11
  go_wp2_with first
    | ((with_reducible show wpList _ _ _ ({ dst := _, op := Op.load 37 (Operand.tmp 213), type := _, pos := _, after := _, guard := _ } :: _) _ _); refine armLv (.tmp 213) 37 rfl rfl rfl HLP.out ?_)
  refine Calls.mono (HP.out _ HT1.out) ?_
  rintro e w1 ⟨rfl, hb1⟩
  obtain ⟨y1, hst1, hbx1, hBy1⟩ := box_new (ty := 51) (n := 18) (fun w => by kernel_rfl) w1 [.int .u8 0, .int .u8 0, .int .u8 0, .int .u8 0, .int .u8 0, .int .u8 0, .int .u8 0, .int .u8 0, .int .u8 0, .int .u8 0, .int .u8 0, .int .u8 0, .int .u8 0, .int .u8 0, .int .u8 0, .int .u8 0, .int .i64 0, .int .i64 0] rfl (bE6 bs) (bE6_len bs) (bE6_one bs)
  have HST1 : Hid _ := hst1
  have HBX1 : Hid _ := hbx1
  have HBY1 : Hid _ := hBy1
  have HK1 : Hid (Below W1.heap.size W1 y1) := hb1.trans (hBy1.mono hb1.size)
  have hx2 : y1.heap[n]? = some (.cells CC.toArray 41) := blk_on HX1.out HK1.out
  have HLP2 : Hid _ := od_B (by rw [hcc]; exact hx2) HI.out
  clear hx2 hst1 hbx1 hBy1 hb1
  go_wp2_with first
    | ((with_reducible show wpList _ _ _ ({ dst := _, op := Op.store 51 (Operand.tmp 31) (Operand.tmp 216), type := _, pos := _, after := _, guard := _ } :: _) _ _); refine armS (.tmp 31) (.tmp 216) 51 rfl rfl rfl rfl HST1.out ?_)
    | ((with_reducible show wpList _ _ _ ({ dst := _, op := Op.load 37 (Operand.tmp 220), type := _, pos := _, after := _, guard := _ } :: _) _ _); refine armLv (.tmp 220) 37 rfl rfl rfl HLP2.out ?_)
  refine Calls.mono (HDP.out _ (HD1.out.on HK1.out)) ?_
  rintro e w2 ⟨rfl, hb2⟩
  obtain ⟨y2, hst2, hbx2, hBy2⟩ := box_new (ty := 51) (n := 18) (fun w => by kernel_rfl) w2 [.int .u8 0, .int .u8 0, .int .u8 0, .int .u8 0, .int .u8 0, .int .u8 0, .int .u8 0, .int .u8 0, .int .u8 0, .int .u8 0, .int .u8 0, .int .u8 0, .int .u8 0, .int .u8 0, .int .u8 0, .int .u8 0, .int .i64 0, .int .i64 0] rfl (bE6 bs) (bE6_len bs) (bE6_one bs)
  have HST2 : Hid _ := hst2
  have HBX2 : Hid _ := hbx2
  have HBY2 : Hid _ := hBy2
  have hk2 := hb2.trans (hBy2.mono hb2.size)
  have HK2 : Hid (Below W1.heap.size W1 y2) := HK1.out.trans (hk2.mono HK1.out.size)
  have HE1 : Hid ((Instr.loadAt 51 (.pointer (some ⟨w1.heap.size, 0, none⟩))).run Try.prog y2 = .ok (.agg (bE6 bs).toArray) y2) := agg_load (n := 18) (fun w => by kernel_rfl) (fun w => by kernel_rfl) (bE6_len bs) (CellsAt.of_blk (blk_on HBX1.out hk2))
  have HE2 : Hid ((Instr.loadAt 51 (.pointer (some ⟨w2.heap.size, 0, none⟩))).run Try.prog y2 = .ok (.agg (bE6 bs).toArray) y2) := agg_load (n := 18) (fun w => by kernel_rfl) (fun w => by kernel_rfl) (bE6_len bs) (CellsAt.of_blk hbx2)
  have HEQ : Hid _ := eqlB6 bs y2
  have HGD : Hid _ := fun (x y : Operand) => gdE6 .eql x y (bE6 bs).toArray (bE6 bs).toArray y2
  have HFN : Hid (StepP p b lim W (.returned (.bool true)) y2) := ⟨rfl, _, _, _, _, HT1.out.on (HK2.out.block p HT1.out.lt), HD1.out.on HK2.out, HC.out, (HB1.out.mono (by have := HBN.out; omega)).trans (HK2.out.mono (by have := HBN.out; omega))⟩
  clear hst2 hbx2 hBy2 hb2 hk2 HLP HLP2 HP HDP HT1 HD1 HK1 HK2 HBX1 HBX2 HBY1 HBY2
  generalize (bE6 bs).toArray = VB at *
  go_wp2_with first
    | ((with_reducible show wpList _ _ _ ({ dst := _, op := Op.store 51 (Operand.tmp 33) (Operand.tmp 223), type := _, pos := _, after := _, guard := _ } :: _) _ _); refine armS (.tmp 33) (.tmp 223) 51 rfl rfl rfl rfl HST2.out ?_)
    | ((with_reducible show wpList _ _ _ ({ dst := _, op := Op.load 51 (Operand.tmp 31), type := _, pos := _, after := _, guard := _ } :: _) _ _); refine armLv (.tmp 31) 51 rfl rfl rfl HE1.out ?_)
    | ((with_reducible show wpList _ _ _ ({ dst := _, op := Op.load 51 (Operand.tmp 33), type := _, pos := _, after := _, guard := _ } :: _) _ _); refine armLv (.tmp 33) 51 rfl rfl rfl HE2.out ?_)
    | ((with_reducible show wpList _ _ _ ({ dst := _, op := Op.binOp BinOp.eql 51 (Operand.tmp 225) (Operand.tmp 226) _, type := _, pos := _, after := _, guard := _ } :: _) _ _); refine arm_bin rfl .eql 51 51 (.tmp 225) (.tmp 226) rfl rfl rfl (HGD.out _ _) HEQ.out ?_)
  try go_ret
  exact HQ.out _ _ HFN.out
set_option maxHeartbeats 8000000 in
set_option maxRecDepth 100000 in
theorem step_list {p b : Nat} {lim : Int} {l4 l6 : List Ent} {v4 v6 : Value} {W : World} (hp : p < b) (ht : TBL p lim l4 l6 W) (hd : Doc b lim l4 l6 v4 v6 W) (hc : LC lim l4 l6) (o : OpD) (hi : o.In) (hk : o.kd = 9) :
    Calls Try.prog 11 #[.pointer (some ⟨p, 0, none⟩), .pointer (some ⟨b, 0, none⟩), .agg o.c.toArray] W fun e w' => StepP p b lim W e w' := by
  generalize hQ : (fun (e : Ending) (w' : World) => StepP p b lim W e w') = Q
  have HQ : Hid (∀ e w', StepP p b lim W e w' → Q e w') := fun e w' hh => by rw [← hQ]; exact hh
  clear hQ
  obtain ⟨n, hn⟩ : ∃ n, W.heap.size = n := ⟨_, rfl⟩
  obtain ⟨W1, hW1⟩ : ∃ W1, W1 = W.alloc (.cells o.c.toArray 41) := ⟨_, rfl⟩
  have hB1 : Below n W W1 := by rw [hW1, ← hn]; exact (Below.refl W.heap.size W).alloc (Nat.le_refl _) _
  have hx1 : W1.heap[n]? = some (.cells o.c.toArray 41) := by rw [hW1, ← hn]; exact blk_new W _
  have hbn : b < n := by rw [← hn]; exact hd.lt
  have HX1 : Hid (W1.heap[n]? = some (.cells o.c.toArray 41)) := hx1
  have HT1 : Hid (TBL p lim l4 l6 W1) := ht.on (hB1.block p (by omega))
  have HD1 : Hid (Doc b lim l4 l6 v4 v6 W1) := hd.on (by rw [hn]; exact hB1)
  have HBN : Hid (p < b ∧ b < n ∧ n < W1.heap.size) := ⟨hp, hbn, (Array.getElem?_eq_some_iff.1 hx1).1⟩
  have HB1 : Hid (Below n W W1) := hB1
  have HC : Hid (LC lim l4 l6) := hc
  have HI : Hid o.In := hi
  have ck : W1.cell? ⟨n, 0, none⟩ = some (.int .i64 o.kd) := od_k hx1
  have cv : W1.cell? ⟨n, 43, none⟩ = some (.int .i64 o.v) := od_v hx1 hi
  have hW := hW1.symm
  have HPUnder : Hid (∀ X : World, TBL p lim l4 l6 X → _) := fun X hX => PUnder4 (W := X) hX hc o.l o.n hi.fl hi.kl hi.bn
  have HDUnder : Hid (∀ (X : World), Doc b lim l4 l6 v4 v6 X → _) := fun X hX => DUnder4 (W := X) hX hc o.l o.n hi.fl hi.kl hi.bn
  have HPOver : Hid (∀ X : World, TBL p lim l4 l6 X → _) := fun X hX => POver4 (W := X) hX hc o.l o.n hi.fl hi.kl hi.bn
  have HDOver : Hid (∀ (X : World), Doc b lim l4 l6 v4 v6 X → _) := fun X hX => DOver4 (W := X) hX hc o.l o.n hi.fl hi.kl hi.bn
  have hl1 : (undR l4 (ok4L o.l o.n) (keyN o.l o.n)).length ≤ 65536 := by
    have := hc.le; have := hc.lim
    unfold undR; split
    · simp
    · refine Nat.le_trans (List.length_filter_le _ _) (by omega)
  have hl2 : (ovrR l4 (ok4L o.l o.n) (keyN o.l o.n)).length ≤ 65536 := by
    have := hc.le; have := hc.lim
    unfold ovrR; split
    · simp
    · refine Nat.le_trans (List.length_filter_le _ _) (by omega)
  generalize undR l4 (ok4L o.l o.n) (keyN o.l o.n) = LU at *
  generalize ovrR l4 (ok4L o.l o.n) (keyN o.l o.n) = LO at *
  obtain ⟨er, her⟩ : ∃ er : Int, (if ok4L o.l o.n = true then (0 : Int) else 22) = er := ⟨_, rfl⟩
  rw [her] at HPUnder HPOver HDUnder HDOver
  clear her
  have HL : Hid (LU.length ≤ 65536 ∧ LO.length ≤ 65536) := ⟨hl1, hl2⟩
  clear hl1 hl2
  rw [hk] at ck
  have HLP : Hid _ := od_P hx1 hi
  clear hW1 hB1 hx1 hbn hp ht hd hc hi hk
  generalize hcc : o.c = CC at *
  go_enter Try.func11, Try.ntmps11
  go_wp2_with first
    | ((with_reducible show wpList _ _ _ ({ dst := _, op := Op.load 35 (Operand.tmp 237), type := _, pos := _, after := _, guard := _ } :: _) _ _); refine armLv (.tmp 237) 35 rfl rfl rfl HLP.out ?_)
  refine Calls.mono (HPUnder.out _ HT1.out) ?_
  rintro e w1 ⟨va, rfl, hoa, hb1⟩
  have HK1 : Hid (Below W1.heap.size W1 w1) := hb1
  have HOA : Hid _ := hoa
  have HLP2 : Hid _ := od_P (o := o) (W := w1) (n := n) (by rw [hcc]; exact blk_on HX1.out hb1) HI.out
  clear hb1 hoa
  go_wp2_with first
    | ((with_reducible show wpList _ _ _ ({ dst := _, op := Op.load 35 (Operand.tmp 244), type := _, pos := _, after := _, guard := _ } :: _) _ _); refine armLv (.tmp 244) 35 rfl rfl rfl HLP2.out ?_)
  refine Calls.mono (HDUnder.out _ (HD1.out.on HK1.out)) ?_
  rintro e w2 ⟨vb, rfl, hob, hb2⟩
  have HK2 : Hid (Below W1.heap.size W1 w2) := HK1.out.trans (hb2.mono HK1.out.size)
  have HOA2 : Hid _ := own_sameT (w' := w2) HOA.out (fun q hq => hb2.block q (own_ltT HOA.out hq).2)
  have HOB : Hid _ := hob
  have HLP3 : Hid _ := od_P (o := o) (W := w2) (n := n) (by rw [hcc]; exact blk_on HX1.out HK2.out) HI.out
  clear hb2 hob HLP HLP2 HOA HK1
  go_wp2_with first
    | ((with_reducible show wpList _ _ _ ({ dst := _, op := Op.load 35 (Operand.tmp 251), type := _, pos := _, after := _, guard := _ } :: _) _ _); refine armLv (.tmp 251) 35 rfl rfl rfl HLP3.out ?_)
  refine Calls.mono (HPOver.out _ (HT1.out.on (HK2.out.block p HT1.out.lt))) ?_
  rintro e w3 ⟨vc, rfl, hoc, hb3⟩
  have HK3 : Hid (Below W1.heap.size W1 w3) := HK2.out.trans (hb3.mono HK2.out.size)
  have HOA3 : Hid _ := own_sameT (w' := w3) HOA2.out (fun q hq => hb3.block q (own_ltT HOA2.out hq).2)
  have HOB3 : Hid _ := own_sameT (w' := w3) HOB.out (fun q hq => hb3.block q (own_ltT HOB.out hq).2)
  have HOC : Hid _ := hoc
  have HLP4 : Hid _ := od_P (o := o) (W := w3) (n := n) (by rw [hcc]; exact blk_on HX1.out HK3.out) HI.out
  clear hb3 hoc HLP3 HOA2 HOB HK2
  go_wp2_with first
    | ((with_reducible show wpList _ _ _ ({ dst := _, op := Op.load 35 (Operand.tmp 258), type := _, pos := _, after := _, guard := _ } :: _) _ _); refine armLv (.tmp 258) 35 rfl rfl rfl HLP4.out ?_)
  refine Calls.mono (HDOver.out _ (HD1.out.on HK3.out)) ?_
  rintro e w4 ⟨vd, rfl, hod, hb4⟩
  have HK4 : Hid (Below W1.heap.size W1 w4) := HK3.out.trans (hb4.mono HK3.out.size)
  have HOA4 : Hid _ := own_sameT (w' := w4) HOA3.out (fun q hq => hb4.block q (own_ltT HOA3.out hq).2)
  have HOB4 : Hid _ := own_sameT (w' := w4) HOB3.out (fun q hq => hb4.block q (own_ltT HOB3.out hq).2)
  have HOC4 : Hid _ := own_sameT (w' := w4) HOC.out (fun q hq => hb4.block q (own_ltT HOC.out hq).2)
  have HOD4 : Hid _ := hod
  clear hb4 hod HLP4 HOA3 HOB3 HOC HK3
  go_wp2_with fail
  refine Calls.mono (RFours_same HOA4.out HOB4.out (by have := HL.out; omega)) ?_
  rintro e w5 ⟨rfl, hb5⟩
  have HK5 : Hid (Below W1.heap.size W1 w5) := HK4.out.trans (hb5.mono HK4.out.size)
  have HOC5 : Hid _ := own_sameT (w' := w5) HOC4.out (fun q hq => hb5.block q (own_ltT HOC4.out hq).2)
  have HOD5 : Hid _ := own_sameT (w' := w5) HOD4.out (fun q hq => hb5.block q (own_ltT HOD4.out hq).2)
  clear hb5 HOA4 HOB4 HOC4 HOD4 HK4
  go_wp2_with fail
  refine Calls.mono (RFours_same HOC5.out HOD5.out (by have := HL.out; omega)) ?_
  rintro e w6 ⟨rfl, hb6⟩
  have hk6 : Below W1.heap.size W1 w6 := HK5.out.trans (hb6.mono HK5.out.size)
  have HFN : Hid (StepP p b lim W (.returned (.bool true)) w6) := ⟨rfl, _, _, _, _, HT1.out.on (hk6.block p HT1.out.lt), HD1.out.on hk6, HC.out, (HB1.out.mono (by have := HBN.out; omega)).trans (hk6.mono (by have := HBN.out; omega))⟩
  clear hb6 hk6 HOC5 HOD5 HK5 HPUnder HPOver HDUnder HDOver HT1 HD1
  go_wp2
  try go_ret
  exact HQ.out _ _ HFN.out
end Go.Proofs.Ytenahbdopgmpfaa
