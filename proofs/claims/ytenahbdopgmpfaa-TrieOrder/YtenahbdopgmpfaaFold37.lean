/-
  What a law asks: same of both; an operation.
  A step: Put, Get.
-/
import Derived.Test.YtenahbdopgmpfaaFold36
import Derived.Test.YtenahbdopgmpfaaFold23
namespace Go.Proofs.Ytenahbdopgmpfaa
open Go Go.RowKit Go.Shelf
set_option linter.unusedVariables false
set_option linter.unusedSimpArgs false

theorem take_wT {d : Option Nat} {P : Program} {ops : Array Oper} {Q : Exit → Act → World → Prop} {md : Region.Mode} {S : World → Prop} {i : Nat} {o : Oper} {v : Value} {fuel : Nat} {listed : Array Bool} {a : Act} {w : World} (hi : ops[i]? = some o) (hw : Region.wanted o (yielded ops a.tmps) = true) (hd : o.dst = d)
    (hs : Region.noSelect ops = true) (hf : Region.free md ops listed i = true) (hr : (Region.ready md ops listed).contains i = true) (hQ : ∀ c (a : Act) d v w, Q (.panic c) (a.put d v) w → Q (.panic c) a w)
    (hy : ∀ w, S w → (execOp a.eval o).run P w = .ok (.value v) w) (hS : S w) (h : wpAnyH P md ops Q S fuel (listed.setIfInBounds i true) (a.put d v) w) : wpAnyH P md ops Q S (fuel + 1) listed a w :=
  wpAnyH_take hi hs hf hr (fun c a w q => hQ c a _ _ w q) (.inl ⟨hw, hy⟩) hS (hd ▸ h)
theorem all_wT {P : Program} {ops : Array Oper} {Q : Exit → Act → World → Prop} {md : Region.Mode} {S : World → Prop} {i : Nat} {o : Oper} {fuel : Nat} {listed : Array Bool} {a : Act} {w : World} (hr : Region.ready md ops listed = [i]) (hi : ops[i]? = some o) (hw : Region.wanted o (yielded ops a.tmps) = true)
    (h : o.wp P a w (fun a' w' => S w' ∧ wpAnyH P md ops Q S fuel (listed.setIfInBounds i true) a' w') Q) : wpAnyH P md ops Q S (fuel + 1) listed a w := by
  refine wpAnyH_all (rs := [i]) hr (by simp) ?_
  intro j hj
  obtain rfl : j = i := by simpa using hj
  unfold wpOp
  rw [hi]
  simp only
  rw [if_pos hw]
  exact .inl h
theorem ex_eqiT {o : Oper} {a : Act} {W : World} (p q : Operand) {t u : TypeId} (ht : t = 3 ∨ t = 24) (hop : o.op = Op.binOp .eql t p q u) {x : Int} (hp : a.eval p = .int .i64 x) (hq : a.eval q = .int .i64 x) : (execOp a.eval o).run Try.prog W = .ok (.value (.bool true)) W := by
  generalize a.eval = ev at *
  rcases ht with rfl | rfl <;> simp [execOp, hop, hp, hq, go_sem]
theorem ex_pickT {P : Program} {o : Oper} {a : Act} {W : World} (p q r : Operand) (hop : o.op = Op.pick p q r) (hp : a.eval p = .bool true) {v : Value} (hv : a.eval q = v) : (execOp a.eval o).run P W = .ok (.value v) W := by
  generalize a.eval = ev at *
  simp [execOp, hop, hp, hv, go_sem]
theorem Doc.frT {b p : Nat} {lim : Int} {l4 l6 : List Ent} {v4 v6 : Value} {W W' : World} (h : Doc b lim l4 l6 v4 v6 W) (hp : p < b) (hf : FrT p W W') : Doc b lim l4 l6 v4 v6 W' :=
  ⟨(hf.2.2 b h.lt (by omega)).trans h.box, own_sameT h.r4 (fun q hq => hf.2.2 q (own_ltT h.r4 hq).2 (by have := (own_ltT h.r4 hq).1; omega)), own_sameT h.r6 (fun q hq => hf.2.2 q (own_ltT h.r6 hq).2 (by have := (own_ltT h.r6 hq).1; omega)), h.ne⟩
theorem FrT.trans {p : Nat} {A B C : World} (h : FrT p A B) (g : FrT p B C) : FrT p A C := ⟨Nat.le_trans h.1 g.1, fun q hq hA => (h.2.1 q hq hA).trans (g.2.1 q hq (Nat.le_trans hA h.1)), fun j hj hn => (g.2.2 j (Nat.lt_of_lt_of_le hj h.1) hn).trans (h.2.2 j hj hn)⟩
theorem PLen {p : Nat} {lim : Int} {l4 l6 : List Ent} {W : World} (h : TBL p lim l4 l6 W) : Calls Try.prog 30 #[.pointer (some ⟨p, 0, none⟩)] W fun e w' => e = .returned (.int .i64 ((l4.length + l6.length : Nat) : Int)) ∧ Below W.heap.size W w' := by
  obtain ⟨T4, T6, h1, h2, h3, h4, h5, h6, h7⟩ := h
  refine (Len_made h7).mono ?_
  rintro e w' ⟨rfl, rfl⟩
  exact ⟨rfl, Below.refl _ _⟩
theorem PAll4 {p : Nat} {lim : Int} {l4 l6 : List Ent} {W : World} (h : TBL p lim l4 l6 W) (hl : l4.length ≤ 100000) : Calls Try.prog 16 #[.pointer (some ⟨p, 0, none⟩)] W fun e w' => ∃ vs, e = .returned vs ∧ w'.ownsRow W.heap.size 47 6 vs l4.length (l4.flatMap ec4) ∧ Below W.heap.size W w' := by
  obtain ⟨T4, T6, rfl, rfl, h3, h4, h5, h6, h7⟩ := h
  exact All4_made h7 h3 hl
theorem ld_fld4 {W : World} {b : Nat} {lim : Int} {v4 v6 : Value} (h : W.heap[b]? = some (.cells [.int .i64 lim, v4, v6].toArray 63)) (hv : ∃ x n m, v4 = .slice x n m) : (Instr.loadAt 54 (.pointer (some ⟨b, 1, none⟩))).run Try.prog W = .ok v4 W := by
  obtain ⟨x, n, m, rfl⟩ := hv
  have h1 : W.cell? ⟨b, 1, none⟩ = some (.slice x n m) := blk_cell h rfl
  simp [Instr.loadAt, go_sem, h1]
theorem bE4_ec (o : Option Ent) : bE4 o = ec4 (o.getD ([], 0)) := by
  cases o with
  | none => kernel_rfl
  | some e => rfl
theorem eqlB4 (o : Option Ent) (w : World) : (binOp .eql 47 (.agg (bE4 o).toArray) (.agg (bE4 o).toArray)).run Try.prog w = .ok (.bool true) w := by
  rw [bE4_ec]
  exact eqlE4 _ w
theorem PAll6 {p : Nat} {lim : Int} {l4 l6 : List Ent} {W : World} (h : TBL p lim l4 l6 W) (hl : l6.length ≤ 100000) : Calls Try.prog 17 #[.pointer (some ⟨p, 0, none⟩)] W fun e w' => ∃ vs, e = .returned vs ∧ w'.ownsRow W.heap.size 51 18 vs l6.length (l6.flatMap ec6) ∧ Below W.heap.size W w' := by
  obtain ⟨T4, T6, rfl, rfl, h3, h4, h5, h6, h7⟩ := h
  exact All6_made h7 h4 hl
theorem ld_fld6 {W : World} {b : Nat} {lim : Int} {v4 v6 : Value} (h : W.heap[b]? = some (.cells [.int .i64 lim, v4, v6].toArray 63)) (hv : ∃ x n m, v6 = .slice x n m) : (Instr.loadAt 56 (.pointer (some ⟨b, 2, none⟩))).run Try.prog W = .ok v6 W := by
  obtain ⟨x, n, m, rfl⟩ := hv
  have h1 : W.cell? ⟨b, 2, none⟩ = some (.slice x n m) := blk_cell h rfl
  simp [Instr.loadAt, go_sem, h1]
theorem bE6_ec (o : Option Ent) : bE6 o = ec6 (o.getD ([], 0)) := by
  cases o with
  | none => kernel_rfl
  | some e => rfl
theorem eqlB6 (o : Option Ent) (w : World) : (binOp .eql 51 (.agg (bE6 o).toArray) (.agg (bE6 o).toArray)).run Try.prog w = .ok (.bool true) w := by
  rw [bE6_ec]
  exact eqlE6 _ w
/-- An operation. -/
structure OpD where
  kd : Int
  l : List Int
  n : Int
  lq : List Int
  m : Int
  a : List Int
  b : List Int
  v : Int
def OpD.c (o : OpD) : List Value := opC o.kd (cp6 o.l o.n) (cp6 o.lq o.m) o.a o.b o.v
structure OpD.In (o : OpD) : Prop where
  fl : FitB o.l
  kl : o.l.length = 4
  bn : -9223372036854775808 ≤ o.n ∧ o.n ≤ 9223372036854775807
  fq : FitB o.lq
  kq : o.lq.length = 16
  bm : -9223372036854775808 ≤ o.m ∧ o.m ≤ 9223372036854775807
  fa : FitB o.a
  ka : o.a.length = 4
  fb : FitB o.b
  kb : o.b.length = 16
section
variable {W : World} {n : Nat} {o : OpD} (h : W.heap[n]? = some (.cells o.c.toArray 41)) (hi : o.In)
include h hi
theorem od_P : (Instr.loadAt 35 (.pointer (some ⟨n, 1, none⟩))).run Try.prog W = .ok (.agg (cp6 o.l o.n).toArray) W := op_P h (by simp [cp6, u8s, hi.kl])
theorem od_Q : (Instr.loadAt 39 (.pointer (some ⟨n, 6, none⟩))).run Try.prog W = .ok (.agg (cp6 o.lq o.m).toArray) W := op_Q h (by simp [cp6, u8s, hi.kl]) (by simp [cp6, u8s, hi.kq])
theorem od_A : (Instr.loadAt 33 (.pointer (some ⟨n, 23, none⟩))).run Try.prog W = .ok (.agg (u8s o.a).toArray) W := op_A h (by simp [cp6, u8s, hi.kl]) (by simp [cp6, u8s, hi.kq]) hi.ka
theorem od_B : (Instr.loadAt 37 (.pointer (some ⟨n, 27, none⟩))).run Try.prog W = .ok (.agg (u8s o.b).toArray) W := op_B h (by simp [cp6, u8s, hi.kl]) (by simp [cp6, u8s, hi.kq]) hi.ka hi.kb
omit hi in
theorem od_k : W.cell? ⟨n, 0, none⟩ = some (.int .i64 o.kd) := blk_cell h rfl
theorem od_v : W.cell? ⟨n, 43, none⟩ = some (.int .i64 o.v) := by
  refine blk_cell h ?_
  have e : o.c = ([Value.int .i64 o.kd] ++ (cp6 o.l o.n ++ (cp6 o.lq o.m ++ (u8s o.a ++ u8s o.b)))) ++ [.int .i64 o.v] := by simp [OpD.c, opC]
  have hl : ([Value.int .i64 o.kd] ++ (cp6 o.l o.n ++ (cp6 o.lq o.m ++ (u8s o.a ++ u8s o.b)))).length = 43 := by simp [cp6, u8s, hi.kl, hi.kq, hi.ka, hi.kb]
  rw [e, List.getElem?_append_right (by rw [hl]; exact Nat.le_refl _), hl]
  rfl
end
set_option maxHeartbeats 4000000 in
set_option maxRecDepth 100000 in
theorem same_any {p b : Nat} {lim : Int} {l4 l6 : List Ent} {v4 v6 : Value} {W : World} (ht : TBL p lim l4 l6 W) (hd : Doc b lim l4 l6 v4 v6 W) (hc : LC lim l4 l6) :
    Calls Try.prog 12 #[.pointer (some ⟨p, 0, none⟩), .pointer (some ⟨b, 0, none⟩)] W fun e w' => e = .returned (.bool true) ∧ Below W.heap.size W w' := by
  generalize hQ : (fun (e : Ending) (w' : World) => e = .returned (.bool true) ∧ Below W.heap.size W w') = Q
  have HQ : Hid (∀ e w', (e = .returned (.bool true) ∧ Below W.heap.size W w') → Q e w') := fun e w' hh => by rw [← hQ]; exact hh
  clear hQ
  have hle : l4.length + l6.length ≤ 65536 := by have := hc.le; have := hc.lim; omega
  have hs4 : ∃ x n m, v4 = .slice x n m := by obtain ⟨a, c, e⟩ := own_slcT hd.r4; exact ⟨_, _, _, e⟩
  have hs6 : ∃ x n m, v6 = .slice x n m := by obtain ⟨a, c, e⟩ := own_slcT hd.r6; exact ⟨_, _, _, e⟩
  have HS : Hid ((l4.length + l6.length ≤ 65536) ∧ (∃ x n m, v4 = .slice x n m) ∧ (∃ x n m, v6 = .slice x n m)) := ⟨hle, hs4, hs6⟩
  have HT : Hid (TBL p lim l4 l6 W) := ht
  have HD : Hid (Doc b lim l4 l6 v4 v6 W) := hd
  clear hle hs4 hs6 ht hd hc
  go_enter Try.func12, Try.ntmps12
  go_wp2_with fail
  refine wp_region_held (S := fun X => TBL p lim l4 l6 X ∧ Doc b lim l4 l6 v4 v6 X) (by kernel_rfl) ?_
  show wpAnyH _ _ _ _ _ 24 (Array.replicate 24 false) _ W.drew
  have h0 : TBL p lim l4 l6 W.drew ∧ Doc b lim l4 l6 v4 v6 W.drew := ⟨HT.out.on rfl, HD.out.on (Below.refl _ W).drew⟩
  have b0 : Below W.heap.size W W.drew := (Below.refl _ W).drew
  generalize W.drew = X0 at *
  refine take_wT (i := 0) (d := some 5) (v := .pointer (some ⟨p, 0, none⟩)) rfl rfl rfl (by kernel_rfl) (by kernel_rfl) (by kernel_rfl) (fun _ _ d _ _ h => by cases d <;> exact h) (fun X hS => by kernel_rfl) h0 ?_
  simp only [Act.put, List.setIfInBounds_toArray, List.set_cons_zero, List.set_cons_succ]
  refine take_wT (i := 2) (d := some 7) (v := .pointer (some ⟨b, 0, none⟩)) rfl rfl rfl (by kernel_rfl) (by kernel_rfl) (by kernel_rfl) (fun _ _ d _ _ h => by cases d <;> exact h) (fun X hS => by kernel_rfl) h0 ?_
  simp only [Act.put, List.setIfInBounds_toArray, List.set_cons_zero, List.set_cons_succ]
  refine all_wT (i := 1) (by kernel_rfl) rfl rfl ?_
  refine wp_call (d := some 6) 30 _ rfl (by kernel_rfl) (callR (PLen h0.1)) ?_
  rintro _ X1 ⟨rfl, hb1⟩
  have h1 : TBL p lim l4 l6 X1 ∧ Doc b lim l4 l6 v4 v6 X1 := ⟨h0.1.on (hb1.block _ h0.1.lt), h0.2.on hb1⟩
  have b1 := b0.trans (hb1.mono b0.size)
  refine ⟨h1, ?_⟩
  simp only [Act.put, List.setIfInBounds_toArray, List.set_cons_zero, List.set_cons_succ]
  refine all_wT (i := 3) (by kernel_rfl) rfl rfl ?_
  refine wp_call (d := some 8) 40 _ rfl (by kernel_rfl) (callR (RLen_any h1.2 (by have := HS.out.1; omega))) ?_
  rintro _ X2 ⟨rfl, hb2⟩
  have h2 : TBL p lim l4 l6 X2 ∧ Doc b lim l4 l6 v4 v6 X2 := ⟨h1.1.on (hb2.block _ h1.1.lt), h1.2.on hb2⟩
  have b2 := b1.trans (hb2.mono b1.size)
  refine ⟨h2, ?_⟩
  simp only [Act.put, List.setIfInBounds_toArray, List.set_cons_zero, List.set_cons_succ]
  generalize ((l4.length + l6.length : Nat) : Int) = cnt
  refine take_wT (i := 4) (d := some 9) (v := .bool true) rfl rfl rfl (by kernel_rfl) (by kernel_rfl) (by kernel_rfl) (fun _ _ d _ _ h => by cases d <;> exact h) (fun X hS => ex_eqiT (.tmp 6) (.tmp 8) (.inl rfl) rfl rfl rfl) h2 ?_
  simp only [Act.put, List.setIfInBounds_toArray, List.set_cons_zero, List.set_cons_succ]
  refine take_wT (i := 5) (d := some 10) (v := .bool true) rfl rfl rfl (by kernel_rfl) (by kernel_rfl) (by kernel_rfl) (fun _ _ d _ _ h => by cases d <;> exact h) (fun X hS => by kernel_rfl) h2 ?_
  simp only [Act.put, List.setIfInBounds_toArray, List.set_cons_zero, List.set_cons_succ]
  refine take_wT (i := 6) (d := some 11) (v := .pointer (some ⟨p, 0, none⟩)) rfl rfl rfl (by kernel_rfl) (by kernel_rfl) (by kernel_rfl) (fun _ _ d _ _ h => by cases d <;> exact h) (fun X hS => by kernel_rfl) h2 ?_
  simp only [Act.put, List.setIfInBounds_toArray, List.set_cons_zero, List.set_cons_succ]
  refine take_wT (i := 8) (d := some 13) (v := .pointer (some ⟨b, 0, none⟩)) rfl rfl rfl (by kernel_rfl) (by kernel_rfl) (by kernel_rfl) (fun _ _ d _ _ h => by cases d <;> exact h) (fun X hS => by kernel_rfl) h2 ?_
  simp only [Act.put, List.setIfInBounds_toArray, List.set_cons_zero, List.set_cons_succ]
  refine take_wT (i := 9) (d := some 14) (v := .pointer (some ⟨b, 0, none⟩)) rfl rfl rfl (by kernel_rfl) (by kernel_rfl) (by kernel_rfl) (fun _ _ d _ _ h => by cases d <;> exact h) (fun X hS => by kernel_rfl) h2 ?_
  simp only [Act.put, List.setIfInBounds_toArray, List.set_cons_zero, List.set_cons_succ]
  refine take_wT (i := 10) (d := some 15) (v := .pointer (some ⟨b, 1, none⟩)) rfl rfl rfl (by kernel_rfl) (by kernel_rfl) (by kernel_rfl) (fun _ _ d _ _ h => by cases d <;> exact h) (fun X hS => by kernel_rfl) h2 ?_
  simp only [Act.put, List.setIfInBounds_toArray, List.set_cons_zero, List.set_cons_succ]
  refine take_wT (i := 11) (d := some 16) (v := v4) rfl rfl rfl (by kernel_rfl) (by kernel_rfl) (by kernel_rfl) (fun _ _ d _ _ h => by cases d <;> exact h) (fun X hS => ex_loadA (.tmp 15) 54 rfl rfl (ld_fld4 hS.2.box HS.out.2.1)) h2 ?_
  simp only [Act.put, List.setIfInBounds_toArray, List.set_cons_zero, List.set_cons_succ]
  refine all_wT (i := 7) (by kernel_rfl) rfl rfl ?_
  refine wp_call (d := some 12) 16 _ rfl (by kernel_rfl) (PAll4 h2.1 (by have := HS.out.1; omega)) ?_
  rintro va X3 ⟨ho3, hb3⟩
  have h3 : TBL p lim l4 l6 X3 ∧ Doc b lim l4 l6 v4 v6 X3 := ⟨h2.1.on (hb3.block _ h2.1.lt), h2.2.on hb3⟩
  have b3 := b2.trans (hb3.mono b2.size)
  refine ⟨h3, ?_⟩
  simp only [Act.put, List.setIfInBounds_toArray, List.set_cons_zero, List.set_cons_succ]
  refine all_wT (i := 12) (by kernel_rfl) rfl rfl ?_
  refine wp_call (d := some 17) 39 _ rfl (by kernel_rfl) (callR (RFours_same ho3 h3.2.r4 (by have := HS.out.1; omega))) ?_
  rintro _ X4 ⟨rfl, hb4⟩
  have h4 : TBL p lim l4 l6 X4 ∧ Doc b lim l4 l6 v4 v6 X4 := ⟨h3.1.on (hb4.block _ h3.1.lt), h3.2.on hb4⟩
  have b4 := b3.trans (hb4.mono b3.size)
  refine ⟨h4, ?_⟩
  simp only [Act.put, List.setIfInBounds_toArray, List.set_cons_zero, List.set_cons_succ]
  refine take_wT (i := 13) (d := some 18) (v := .bool true) rfl rfl rfl (by kernel_rfl) (by kernel_rfl) (by kernel_rfl) (fun _ _ d _ _ h => by cases d <;> exact h) (fun X hS => ex_pickT (.tmp 10) (.tmp 17) _ rfl rfl rfl) h4 ?_
  simp only [Act.put, List.setIfInBounds_toArray, List.set_cons_zero, List.set_cons_succ]
  refine take_wT (i := 14) (d := some 19) (v := .bool true) rfl rfl rfl (by kernel_rfl) (by kernel_rfl) (by kernel_rfl) (fun _ _ d _ _ h => by cases d <;> exact h) (fun X hS => by kernel_rfl) h4 ?_
  simp only [Act.put, List.setIfInBounds_toArray, List.set_cons_zero, List.set_cons_succ]
  refine take_wT (i := 15) (d := some 20) (v := .pointer (some ⟨p, 0, none⟩)) rfl rfl rfl (by kernel_rfl) (by kernel_rfl) (by kernel_rfl) (fun _ _ d _ _ h => by cases d <;> exact h) (fun X hS => by kernel_rfl) h4 ?_
  simp only [Act.put, List.setIfInBounds_toArray, List.set_cons_zero, List.set_cons_succ]
  refine take_wT (i := 17) (d := some 22) (v := .pointer (some ⟨b, 0, none⟩)) rfl rfl rfl (by kernel_rfl) (by kernel_rfl) (by kernel_rfl) (fun _ _ d _ _ h => by cases d <;> exact h) (fun X hS => by kernel_rfl) h4 ?_
  simp only [Act.put, List.setIfInBounds_toArray, List.set_cons_zero, List.set_cons_succ]
  refine take_wT (i := 18) (d := some 23) (v := .pointer (some ⟨b, 0, none⟩)) rfl rfl rfl (by kernel_rfl) (by kernel_rfl) (by kernel_rfl) (fun _ _ d _ _ h => by cases d <;> exact h) (fun X hS => by kernel_rfl) h4 ?_
  simp only [Act.put, List.setIfInBounds_toArray, List.set_cons_zero, List.set_cons_succ]
  refine take_wT (i := 19) (d := some 24) (v := .pointer (some ⟨b, 2, none⟩)) rfl rfl rfl (by kernel_rfl) (by kernel_rfl) (by kernel_rfl) (fun _ _ d _ _ h => by cases d <;> exact h) (fun X hS => by kernel_rfl) h4 ?_
  simp only [Act.put, List.setIfInBounds_toArray, List.set_cons_zero, List.set_cons_succ]
  refine take_wT (i := 20) (d := some 25) (v := v6) rfl rfl rfl (by kernel_rfl) (by kernel_rfl) (by kernel_rfl) (fun _ _ d _ _ h => by cases d <;> exact h) (fun X hS => ex_loadA (.tmp 24) 56 rfl rfl (ld_fld6 hS.2.box HS.out.2.2)) h4 ?_
  simp only [Act.put, List.setIfInBounds_toArray, List.set_cons_zero, List.set_cons_succ]
  refine all_wT (i := 16) (by kernel_rfl) rfl rfl ?_
  refine wp_call (d := some 21) 17 _ rfl (by kernel_rfl) (PAll6 h4.1 (by have := HS.out.1; omega)) ?_
  rintro vb X5 ⟨ho5, hb5⟩
  have h5 : TBL p lim l4 l6 X5 ∧ Doc b lim l4 l6 v4 v6 X5 := ⟨h4.1.on (hb5.block _ h4.1.lt), h4.2.on hb5⟩
  have b5 := b4.trans (hb5.mono b4.size)
  refine ⟨h5, ?_⟩
  simp only [Act.put, List.setIfInBounds_toArray, List.set_cons_zero, List.set_cons_succ]
  refine all_wT (i := 21) (by kernel_rfl) rfl rfl ?_
  refine wp_call (d := some 26) 41 _ rfl (by kernel_rfl) (callR (RSixes_same ho5 h5.2.r6 (by have := HS.out.1; omega))) ?_
  rintro _ X6 ⟨rfl, hb6⟩
  have h6 : TBL p lim l4 l6 X6 ∧ Doc b lim l4 l6 v4 v6 X6 := ⟨h5.1.on (hb6.block _ h5.1.lt), h5.2.on hb6⟩
  have b6 := b5.trans (hb6.mono b5.size)
  refine ⟨h6, ?_⟩
  simp only [Act.put, List.setIfInBounds_toArray, List.set_cons_zero, List.set_cons_succ]
  refine take_wT (i := 22) (d := some 27) (v := .bool true) rfl rfl rfl (by kernel_rfl) (by kernel_rfl) (by kernel_rfl) (fun _ _ d _ _ h => by cases d <;> exact h) (fun X hS => ex_pickT (.tmp 19) (.tmp 26) _ rfl rfl rfl) h6 ?_
  simp only [Act.put, List.setIfInBounds_toArray, List.set_cons_zero, List.set_cons_succ]
  refine take_wT (i := 23) (d := some 4) (v := .bool true) rfl rfl rfl (by kernel_rfl) (by kernel_rfl) (by kernel_rfl) (fun _ _ d _ _ h => by cases d <;> exact h) (fun X hS => by kernel_rfl) h6 ?_
  simp only [Act.put, List.setIfInBounds_toArray, List.set_cons_zero, List.set_cons_succ]
  refine wpAnyH_done (by kernel_rfl) ?_ _
  have HF : Hid (Below W.heap.size W X6) := b6
  clear h0 b0 h1 b1 hb1 h2 b2 hb2 h3 b3 hb3 ho3 h4 b4 hb4 h5 b5 hb5 ho5 h6 b6 hb6 HT HD HS
  go_wp2
  try go_returns
  exact HQ.out _ _ ⟨rfl, HF.out⟩
end Go.Proofs.Ytenahbdopgmpfaa

namespace Go.Proofs.Ytenahbdopgmpfaa
open Go Go.RowKit Go.Shelf
set_option linter.unusedVariables false
set_option linter.unusedSimpArgs false

/-- What a step comes to. -/
def StepP (p b : Nat) (lim : Int) (W : World) (e : Ending) (w' : World) : Prop := e = .returned (.bool true) ∧ ∃ l4 l6 u4 u6, TBL p lim l4 l6 w' ∧ Doc b lim l4 l6 u4 u6 w' ∧ LC lim l4 l6 ∧ Below p W w'
theorem delX {P : Program} {f : FuncId} {vs : Array Value} {w : World} {v : Value} {B : Value → World → Prop} (h : Calls P f vs w fun e w' => ∃ u, e = .returned v ∧ B u w') : Calls P f vs w fun e w' => ∃ v', e = .returned v' ∧ (v' = v ∧ ∃ u, B u w') := h.mono fun e w' ⟨u, he, hb⟩ => ⟨_, he, rfl, u, hb⟩
set_option maxHeartbeats 8000000 in
set_option maxRecDepth 100000 in
theorem step_put4 {p b : Nat} {lim : Int} {l4 l6 : List Ent} {v4 v6 : Value} {W : World} (hp : p < b) (ht : TBL p lim l4 l6 W) (hd : Doc b lim l4 l6 v4 v6 W) (hc : LC lim l4 l6) (o : OpD) (hi : o.In) (hk : o.kd = 1) :
    Calls Try.prog 11 #[.pointer (some ⟨p, 0, none⟩), .pointer (some ⟨b, 0, none⟩), .agg o.c.toArray] W fun e w' => StepP p b lim W e w' := by
  generalize hQ : (fun (e : Ending) (w' : World) => StepP p b lim W e w') = Q
  have HQ : Hid (∀ e w', StepP p b lim W e w' → Q e w') := fun e w' hh => by rw [← hQ]; exact hh
  clear hQ
  obtain ⟨n, hn⟩ : ∃ n, W.heap.size = n := ⟨_, rfl⟩
  obtain ⟨W1, hW1⟩ : ∃ W1, W1 = W.alloc (.cells o.c.toArray 41) := ⟨_, rfl⟩
  have hB1 : Below n W W1 := by rw [hW1, ← hn]; exact (Below.refl W.heap.size W).alloc (Nat.le_refl _) _
  have hx1 : W1.heap[n]? = some (.cells o.c.toArray 41) := by rw [hW1, ← hn]; exact blk_new W _
  have hbn : b < n := by rw [← hn]; exact hd.lt
  have HX1 : Hid (W1.heap[n]? = some (.cells o.c.toArray 41)) := hx1
  have HT1 : Hid (TBL p lim l4 l6 W1) := ht.on (hB1.block p (by omega))
  have HD1 : Hid (Doc b lim l4 l6 v4 v6 W1) := hd.on (by rw [hn]; exact hB1)
  have HBN : Hid (p < b ∧ b < n ∧ n < W1.heap.size) := ⟨hp, hbn, (Array.getElem?_eq_some_iff.1 hx1).1⟩
  have HB1 : Hid (Below n W W1) := hB1
  have HC : Hid (LC lim l4 l6) := hc
  have HI : Hid o.In := hi
  have ck : W1.cell? ⟨n, 0, none⟩ = some (.int .i64 o.kd) := od_k hx1
  have cv : W1.cell? ⟨n, 43, none⟩ = some (.int .i64 o.v) := od_v hx1 hi
  have hW := hW1.symm
  have hlc : LC lim (putR l4 (ok4L o.l o.n) (keyN o.l o.n) lim ((l4.length + l6.length : Nat) : Int) o.v).2.2 l6 := putR_lc4 hc (ok4L o.l o.n) (k := keyN o.l o.n) (fun ho => (pv4 (by first | exact hi.fl | exact hi.fq) (by first | exact hi.kl | exact hi.kq) ho).2) o.v
  have HP : Hid (∀ X : World, TBL p lim l4 l6 X → _) := fun X hX => PPut4 (W := X) hX hc o.l o.n hi.fl hi.kl hi.bn o.v
  have HDP : Hid (∀ (X : World), Doc b lim l4 l6 v4 v6 X → _) := fun X hX => DPut4 (W := X) hX hc o.l o.n hi.fl hi.kl hi.bn o.v
  obtain ⟨r1, r2, l', hR⟩ : ∃ r1 r2 l', putR l4 (ok4L o.l o.n) (keyN o.l o.n) lim ((l4.length + l6.length : Nat) : Int) o.v = (r1, r2, l') := ⟨_, _, _, rfl⟩
  rw [hR] at hlc
  simp only [hR] at HP HDP
  have HLC : Hid (LC lim l' l6) := hlc
  clear hR hlc
  rw [hk] at ck
  have HLP : Hid _ := od_P hx1 hi
  clear hW1 hB1 hx1 hbn hp ht hd hc hi hk
  generalize hcc : o.c = CC at *
  go_enter Try.func11, Try.ntmps11
  go_wp2_with first
    | ((with_reducible show wpList _ _ _ ({ dst := _, op := Op.load 35 (Operand.tmp 49), type := _, pos := _, after := _, guard := _ } :: _) _ _); refine armLv (.tmp 49) 35 rfl rfl rfl HLP.out ?_)
  refine Calls.mono (HP.out _ HT1.out) ?_
  rintro e w1 ⟨rfl, ht1, hf1⟩
  have hx2 : w1.heap[n]? = some (.cells CC.toArray 41) := (hf1.2.2 n HBN.out.2.2 (by have := HBN.out; omega)).trans HX1.out
  have HLP2 : Hid _ := od_P (by rw [hcc]; exact hx2) HI.out
  have cv2 : w1.cell? ⟨n, 43, none⟩ = some (.int .i64 o.v) := od_v (by rw [hcc]; exact hx2) HI.out
  have HT2 : Hid (TBL p lim l' l6 w1) := ht1
  have HF1 : Hid (FrT p W1 w1) := hf1
  clear hx2 ht1 hf1
  go_wp2_with first
    | ((with_reducible show wpList _ _ _ ({ dst := _, op := Op.load 35 (Operand.tmp 58), type := _, pos := _, after := _, guard := _ } :: _) _ _); refine armLv (.tmp 58) 35 rfl rfl rfl HLP2.out ?_)
  refine Calls.mono (HDP.out _ (HD1.out.frT HBN.out.1 HF1.out)) ?_
  rintro e w2 ⟨u, rfl, hd2, hb2⟩
  have HFN : Hid (StepP p b lim W (.returned (.bool true)) w2) := ⟨rfl, _, _, _, _, HT2.out.on (hb2.block p HBN.out.1), hd2, HLC.out, ((HB1.out.mono (by have := HBN.out; omega)).trans (HF1.out.2.1 p (Nat.le_refl _) (by have := HBN.out; omega))).trans (hb2.mono (by have := HBN.out; omega))⟩
  clear hd2 hb2 HT2 HF1 HT1 HD1 HP HDP HLP HLP2
  go_wp2
  try go_ret
  exact HQ.out _ _ HFN.out
set_option maxHeartbeats 8000000 in
set_option maxRecDepth 100000 in
theorem step_put6 {p b : Nat} {lim : Int} {l4 l6 : List Ent} {v4 v6 : Value} {W : World} (hp : p < b) (ht : TBL p lim l4 l6 W) (hd : Doc b lim l4 l6 v4 v6 W) (hc : LC lim l4 l6) (o : OpD) (hi : o.In) (hk : o.kd = 2) :
    Calls Try.prog 11 #[.pointer (some ⟨p, 0, none⟩), .pointer (some ⟨b, 0, none⟩), .agg o.c.toArray] W fun e w' => StepP p b lim W e w' := by
  generalize hQ : (fun (e : Ending) (w' : World) => StepP p b lim W e w') = Q
  have HQ : Hid (∀ e w', StepP p b lim W e w' → Q e w') := fun e w' hh => by rw [← hQ]; exact hh
  clear hQ
  obtain ⟨n, hn⟩ : ∃ n, W.heap.size = n := ⟨_, rfl⟩
  obtain ⟨W1, hW1⟩ : ∃ W1, W1 = W.alloc (.cells o.c.toArray 41) := ⟨_, rfl⟩
  have hB1 : Below n W W1 := by rw [hW1, ← hn]; exact (Below.refl W.heap.size W).alloc (Nat.le_refl _) _
  have hx1 : W1.heap[n]? = some (.cells o.c.toArray 41) := by rw [hW1, ← hn]; exact blk_new W _
  have hbn : b < n := by rw [← hn]; exact hd.lt
  have HX1 : Hid (W1.heap[n]? = some (.cells o.c.toArray 41)) := hx1
  have HT1 : Hid (TBL p lim l4 l6 W1) := ht.on (hB1.block p (by omega))
  have HD1 : Hid (Doc b lim l4 l6 v4 v6 W1) := hd.on (by rw [hn]; exact hB1)
  have HBN : Hid (p < b ∧ b < n ∧ n < W1.heap.size) := ⟨hp, hbn, (Array.getElem?_eq_some_iff.1 hx1).1⟩
  have HB1 : Hid (Below n W W1) := hB1
  have HC : Hid (LC lim l4 l6) := hc
  have HI : Hid o.In := hi
  have ck : W1.cell? ⟨n, 0, none⟩ = some (.int .i64 o.kd) := od_k hx1
  have cv : W1.cell? ⟨n, 43, none⟩ = some (.int .i64 o.v) := od_v hx1 hi
  have hW := hW1.symm
  have hlc : LC lim l4 (putR l6 (ok6L o.lq o.m) (keyN o.lq o.m) lim ((l4.length + l6.length : Nat) : Int) o.v).2.2 := putR_lc6 hc (ok6L o.lq o.m) (k := keyN o.lq o.m) (fun ho => (pv6 (by first | exact hi.fl | exact hi.fq) (by first | exact hi.kl | exact hi.kq) ho).2) o.v
  have HP : Hid (∀ X : World, TBL p lim l4 l6 X → _) := fun X hX => PPut6 (W := X) hX hc o.lq o.m hi.fq hi.kq hi.bm o.v
  have HDP : Hid (∀ (X : World), Doc b lim l4 l6 v4 v6 X → _) := fun X hX => DPut6 (W := X) hX hc o.lq o.m hi.fq hi.kq hi.bm o.v
  obtain ⟨r1, r2, l', hR⟩ : ∃ r1 r2 l', putR l6 (ok6L o.lq o.m) (keyN o.lq o.m) lim ((l4.length + l6.length : Nat) : Int) o.v = (r1, r2, l') := ⟨_, _, _, rfl⟩
  rw [hR] at hlc
  simp only [hR] at HP HDP
  have HLC : Hid (LC lim l4 l') := hlc
  clear hR hlc
  rw [hk] at ck
  have HLP : Hid _ := od_Q hx1 hi
  clear hW1 hB1 hx1 hbn hp ht hd hc hi hk
  generalize hcc : o.c = CC at *
  go_enter Try.func11, Try.ntmps11
  go_wp2_with first
    | ((with_reducible show wpList _ _ _ ({ dst := _, op := Op.load 39 (Operand.tmp 77), type := _, pos := _, after := _, guard := _ } :: _) _ _); refine armLv (.tmp 77) 39 rfl rfl rfl HLP.out ?_)
  refine Calls.mono (HP.out _ HT1.out) ?_
  rintro e w1 ⟨rfl, ht1, hf1⟩
  have hx2 : w1.heap[n]? = some (.cells CC.toArray 41) := (hf1.2.2 n HBN.out.2.2 (by have := HBN.out; omega)).trans HX1.out
  have HLP2 : Hid _ := od_Q (by rw [hcc]; exact hx2) HI.out
  have cv2 : w1.cell? ⟨n, 43, none⟩ = some (.int .i64 o.v) := od_v (by rw [hcc]; exact hx2) HI.out
  have HT2 : Hid (TBL p lim l4 l' w1) := ht1
  have HF1 : Hid (FrT p W1 w1) := hf1
  clear hx2 ht1 hf1
  go_wp2_with first
    | ((with_reducible show wpList _ _ _ ({ dst := _, op := Op.load 39 (Operand.tmp 86), type := _, pos := _, after := _, guard := _ } :: _) _ _); refine armLv (.tmp 86) 39 rfl rfl rfl HLP2.out ?_)
  refine Calls.mono (HDP.out _ (HD1.out.frT HBN.out.1 HF1.out)) ?_
  rintro e w2 ⟨u, rfl, hd2, hb2⟩
  have HFN : Hid (StepP p b lim W (.returned (.bool true)) w2) := ⟨rfl, _, _, _, _, HT2.out.on (hb2.block p HBN.out.1), hd2, HLC.out, ((HB1.out.mono (by have := HBN.out; omega)).trans (HF1.out.2.1 p (Nat.le_refl _) (by have := HBN.out; omega))).trans (hb2.mono (by have := HBN.out; omega))⟩
  clear hd2 hb2 HT2 HF1 HT1 HD1 HP HDP HLP HLP2
  go_wp2
  try go_ret
  exact HQ.out _ _ HFN.out
set_option maxHeartbeats 8000000 in
set_option maxRecDepth 100000 in
theorem step_get4 {p b : Nat} {lim : Int} {l4 l6 : List Ent} {v4 v6 : Value} {W : World} (hp : p < b) (ht : TBL p lim l4 l6 W) (hd : Doc b lim l4 l6 v4 v6 W) (hc : LC lim l4 l6) (o : OpD) (hi : o.In) (hk : o.kd = 5) :
    Calls Try.prog 11 #[.pointer (some ⟨p, 0, none⟩), .pointer (some ⟨b, 0, none⟩), .agg o.c.toArray] W fun e w' => StepP p b lim W e w' := by
  generalize hQ : (fun (e : Ending) (w' : World) => StepP p b lim W e w') = Q
  have HQ : Hid (∀ e w', StepP p b lim W e w' → Q e w') := fun e w' hh => by rw [← hQ]; exact hh
  clear hQ
  obtain ⟨n, hn⟩ : ∃ n, W.heap.size = n := ⟨_, rfl⟩
  obtain ⟨W1, hW1⟩ : ∃ W1, W1 = W.alloc (.cells o.c.toArray 41) := ⟨_, rfl⟩
  have hB1 : Below n W W1 := by rw [hW1, ← hn]; exact (Below.refl W.heap.size W).alloc (Nat.le_refl _) _
  have hx1 : W1.heap[n]? = some (.cells o.c.toArray 41) := by rw [hW1, ← hn]; exact blk_new W _
  have hbn : b < n := by rw [← hn]; exact hd.lt
  have HX1 : Hid (W1.heap[n]? = some (.cells o.c.toArray 41)) := hx1
  have HT1 : Hid (TBL p lim l4 l6 W1) := ht.on (hB1.block p (by omega))
  have HD1 : Hid (Doc b lim l4 l6 v4 v6 W1) := hd.on (by rw [hn]; exact hB1)
  have HBN : Hid (p < b ∧ b < n ∧ n < W1.heap.size) := ⟨hp, hbn, (Array.getElem?_eq_some_iff.1 hx1).1⟩
  have HB1 : Hid (Below n W W1) := hB1
  have HC : Hid (LC lim l4 l6) := hc
  have HI : Hid o.In := hi
  have ck : W1.cell? ⟨n, 0, none⟩ = some (.int .i64 o.kd) := od_k hx1
  have cv : W1.cell? ⟨n, 43, none⟩ = some (.int .i64 o.v) := od_v hx1 hi
  have hW := hW1.symm
  have HP : Hid (∀ X : World, TBL p lim l4 l6 X → _) := fun X hX => PGet4 (W := X) hX o.l o.n hi.fl hi.kl hi.bn
  have HDP : Hid (∀ (X : World), Doc b lim l4 l6 v4 v6 X → _) := fun X hX => DGet4 (W := X) hX hc o.l o.n hi.fl hi.kl hi.bn
  obtain ⟨r1, r2, r3, hR⟩ : ∃ r1 r2 r3, getR l4 (ok4L o.l o.n) (keyN o.l o.n) = (r1, r2, r3) := ⟨_, _, _, rfl⟩
  simp only [hR] at HP HDP
  clear hR
  rw [hk] at ck
  have HLP : Hid _ := od_P hx1 hi
  clear hW1 hB1 hx1 hbn hp ht hd hc hi hk
  generalize hcc : o.c = CC at *
  go_enter Try.func11, Try.ntmps11
  go_wp2_with first
    | ((with_reducible show wpList _ _ _ ({ dst := _, op := Op.load 35 (Operand.tmp 127), type := _, pos := _, after := _, guard := _ } :: _) _ _); refine armLv (.tmp 127) 35 rfl rfl rfl HLP.out ?_)
  refine Calls.mono (HP.out _ HT1.out) ?_
  rintro e w1 ⟨rfl, ht1, hf1⟩
  have hx2 : w1.heap[n]? = some (.cells CC.toArray 41) := (hf1.2.2 n HBN.out.2.2 (by have := HBN.out; omega)).trans HX1.out
  have HLP2 : Hid _ := od_P (by rw [hcc]; exact hx2) HI.out
  have HT2 : Hid (TBL p lim l4 l6 w1) := ht1
  have HF1 : Hid (FrT p W1 w1) := hf1
  clear hx2 ht1 hf1
  go_wp2_with first
    | ((with_reducible show wpList _ _ _ ({ dst := _, op := Op.load 35 (Operand.tmp 135), type := _, pos := _, after := _, guard := _ } :: _) _ _); refine armLv (.tmp 135) 35 rfl rfl rfl HLP2.out ?_)
  refine Calls.mono (HDP.out _ (HD1.out.frT HBN.out.1 HF1.out)) ?_
  rintro e w2 ⟨rfl, hb2⟩
  have HFN : Hid (StepP p b lim W (.returned (.bool true)) w2) := ⟨rfl, _, _, _, _, HT2.out.on (hb2.block p HT2.out.lt), (HD1.out.frT HBN.out.1 HF1.out).on hb2, HC.out, ((HB1.out.mono (by have := HBN.out; omega)).trans (HF1.out.2.1 p (Nat.le_refl _) (by have := HBN.out; omega))).trans (hb2.mono (Nat.le_of_lt HT2.out.lt))⟩
  clear hb2 HT2 HF1 HT1 HD1 HP HDP HLP HLP2
  go_wp2
  try go_ret
  exact HQ.out _ _ HFN.out
end Go.Proofs.Ytenahbdopgmpfaa
