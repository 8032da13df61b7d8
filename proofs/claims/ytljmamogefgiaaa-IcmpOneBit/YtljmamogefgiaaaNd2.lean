/-
  IcmpOneBit: the walk.
-/
import Derived.Test.YtljmamogefgiaaaNd1
namespace Go.Proofs.Ytljmamogefgiaaa
open Go Go.RowKit Go.Shelf
set_option linter.unusedVariables false
set_option linter.unusedSimpArgs false

theorem wp_ex {P : Program} {o : Oper} {a : Act} {d : Option Nat} {w : World} {K : Act → World → Prop} {Q : Exit → Act → World → Prop} {v : Value} (hd : o.dst = d) (hrun : (execOp a.eval o).run P w = .ok (.value v) w) (hK : K (a.put d v) w) : o.wp P a w K Q := by
  subst hd
  unfold Oper.wp
  rw [hrun]
  exact hK
theorem store8 {w : World} {g i : Nat} {zs : List Int} (h : OwnG w g zs) (hi : i < zs.length) (z : Int) : (Instr.storeAt 5 (.pointer (some ⟨g, 0 + i, none⟩)) (.int .u8 z)).run Try.prog w = .ok () (w.setCell ⟨g, i, none⟩ (.int .u8 z)) := by
  have h1 := h.cell i hi
  have h2 := h.open i
  rw [Nat.zero_add]
  go_simp

set_option maxHeartbeats 8000000 in
set_option maxRecDepth 100000 in
theorem icmpOneBit_walk (A B : List Int) (la : A.length = 16) (lb : B.length = 16) (fa : Fit A) (fb : Fit B) (c : List Value) (m : Msg) (w : World) (h : MsgA w c m) (bit : Int) (hbit : 0 ≤ bit ∧ bit ≤ 4294967295) :
    Calls Try.prog 8 #[.agg (u8L A).toArray, .agg (u8L B).toArray, .agg c.toArray, .int .u32 bit] w fun e w' => e = .returned (.bool true) ∧ Below w.heap.size w w' := by
  obtain ⟨ab, kb, au, ku, W0, W1, hX⟩ := box3 w A B la lb c m h
  obtain ⟨hcc, hW0, hW1, k3, f3, hcut, hmsg, hbel, lA, lB, lM⟩ := hX
  subst hcc
  clear h
  have HCUT : Hid _ := hcut
  have HB : Hid _ := hbel
  have HLA : Hid _ := lA
  have HLB : Hid _ := lB
  have HLM : Hid _ := lM
  have HM : Hid _ := hmsg
  have ok4 := phN_ok
  have ok6 := ph6I_ok la lb fa fb
  have M1 : Hid (∀ W, Below W1.heap.size W1 W → Calls Try.prog 10 #[.agg [.int .u8 m.ty, .int .u8 m.code, .int .u32 m.rest, .slice au (m.body.take 70000).length ku].toArray] W (Wrote2 W (icB phN (cutM m)) (icE (cutM m)))) := fun W hW => Write4_any _ _ W (hmsg.on hW)
  have M2 : Hid (∀ W, Below W1.heap.size W1 W → Calls Try.prog 12 #[.agg (u8L A).toArray, .agg (u8L B).toArray, .agg [.int .u8 m.ty, .int .u8 m.code, .int .u32 m.rest, .slice au (m.body.take 70000).length ku].toArray] W (Wrote2 W (icB (ph6I A B) (cutM m)) (icE (cutM m)))) := fun W hW => Write6_any A B la lb fa fb _ _ W (hmsg.on hW)
  have M3 : Hid (∀ W v zs, RowC W v zs → Calls Try.prog 15 #[v] W fun e w' => ParI phN zs W e w') := fun W v zs hr => Parse4_any v zs W hr
  have M4 : Hid (∀ W v zs, RowC W v zs → Calls Try.prog 17 #[.agg (u8L A).toArray, .agg (u8L B).toArray, v] W fun e w' => ParI (ph6I A B) zs W e w') := fun W v zs hr => Parse6_any A B la lb fa fb v zs W hr
  have hx0 : Below W1.heap.size W1 W1 := Below.refl _ _
  have hOK : Hid (8 + (cutM m).body.length ≤ 65535 → icE (cutM m) = 0 ∧ icB phN (cutM m) = icL phN (cutM m) ∧ icB (ph6I A B) (cutM m) = icL (ph6I A B) (cutM m) ∧ (∀ i k, i < 8 + (cutM m).body.length → k < 8 → pE phN ((icL phN (cutM m)).set i (bits .xor .u8 (gz (icL phN (cutM m)) i) ((2 : Int) ^ k % 256))) = 71 ∧ Fit ((icL phN (cutM m)).set i (bits .xor .u8 (gz (icL phN (cutM m)) i) ((2 : Int) ^ k % 256)))) ∧ (∀ i k, i < 8 + (cutM m).body.length → k < 8 → pE (ph6I A B) ((icL (ph6I A B) (cutM m)).set i (bits .xor .u8 (gz (icL (ph6I A B) (cutM m)) i) ((2 : Int) ^ k % 256))) = 71 ∧ Fit ((icL (ph6I A B) (cutM m)).set i (bits .xor .u8 (gz (icL (ph6I A B) (cutM m)) i) ((2 : Int) ^ k % 256))))) := fun hn => ⟨if_pos hn, if_pos hn, if_pos hn, fun i k hi hk => bit_none ok4 (icL_fit ok4 hmsg hn) (by rw [icL_length]; omega) (by rw [icL_length]; omega) (ic_sum ok4 hmsg hn) i k (by rw [icL_length]; exact hi) hk, fun i k hi hk => bit_none ok6 (icL_fit ok6 hmsg hn) (by rw [icL_length]; omega) (by rw [icL_length]; omega) (ic_sum ok6 hmsg hn) i k (by rw [icL_length]; exact hi) hk⟩
  have hNO : Hid (¬ 8 + (cutM m).body.length ≤ 65535 → icE (cutM m) = 2 ∧ icB phN (cutM m) = [] ∧ icB (ph6I A B) (cutM m) = []) := fun hn => ⟨if_neg hn, if_neg hn, if_neg hn⟩
  clear hcut hbel lA lB lM hmsg ok4 ok6 la lb fa fb
  generalize hbl : (m.body.take 70000).length = bl at *
  generalize u8L A = xA at *
  generalize u8L B = xB at *
  generalize ph6I A B = ph6 at *
  clear hbl
  generalize hcm : cutM m = m' at *
  clear hcm
  generalize m.body.length = bl0 at *
  generalize m.ty = ty at *
  generalize m.code = code at *
  generalize m.rest = rest at *
  by_cases hn : 8 + m'.body.length ≤ 65535
  · obtain ⟨hE, h4, h6, b4, b6⟩ := hOK.out hn
    have hl4 := icL_length phN m'
    have hl6 := icL_length ph6 m'
    rw [hE] at M1 M2
    rw [h4] at M1
    rw [h6] at M2
    clear hE h4 h6 hOK hNO
    have BN4 : Hid _ := b4
    have BN6 : Hid _ := b6
    obtain ⟨LL, hLL⟩ : ∃ LL, 8 + m'.body.length = LL := ⟨_, rfl⟩
    rw [hLL] at BN4 BN6 hl4 hl6 hn
    have h8 : 8 ≤ LL := by omega
    have HL4 : Hid _ := hl4
    have HL6 : Hid _ := hl6
    clear b4 b6 hLL hl4 hl6
    generalize icL phN m' = z4 at *
    generalize icL ph6 m' = z6 at *
    obtain ⟨N, hN⟩ : ∃ N : Nat, bit % (8 * (LL : Int)) = (N : Int) := ⟨(bit % (8 * (LL : Int))).toNat, (Int.toNat_of_nonneg (Int.emod_nonneg _ (by omega))).symm⟩
    have hNl : N < 8 * LL := by
      have := Int.emod_lt_of_pos bit (by omega : (0 : Int) < 8 * (LL : Int))
      omega
    have hw1 : 8 * (LL : Int) % 4294967296 = 8 * (LL : Int) := by omega
    have hi : N / 8 < LL := by omega
    have hj : N % 8 < 8 := by omega
    have hN6 : N ≤ 1000000 := by omega
    go_enter Try.func8, Try.ntmps8
    go_wp2_with fail
    refine Calls.mono (HCUT.out _) ?_
    rintro _ _ ⟨rfl, rfl⟩
    go_wp2_with first
      | ((with_reducible show wpList _ _ _ _ _ _); refine arm_load rfl (.tmp 6) 26 rfl rfl (HLM.out _ hx0) ?_)
    refine Calls.mono (M1.out _ hx0) ?_
    rintro _ w1 ⟨v1, rfl, h1⟩
    have hx1 := hx0.trans (h1.bel.mono hx0.size)
    obtain ⟨g1, c1, e1, hc1, _, hg1, own1⟩ := own_G h1.own (by rw [HL4.out]; omega)
    rw [HL4.out] at e1 hc1
    subst e1
    have OWN1 : Hid _ := own1
    clear h1 M1 own1
    go_wp2_with first
      | ((with_reducible show wpList _ _ _ _ _ _); refine arm_load rfl (.tmp 4) 22 rfl rfl (HLA.out _ hx1) ?_)
      | ((with_reducible show wpList _ _ _ _ _ _); refine arm_load rfl (.tmp 5) 22 rfl rfl (HLB.out _ hx1) ?_)
      | ((with_reducible show wpList _ _ _ _ _ _); refine arm_load rfl (.tmp 6) 26 rfl rfl (HLM.out _ hx1) ?_)
    refine Calls.mono (M2.out _ hx1) ?_
    rintro _ w2 ⟨v2, rfl, h2⟩
    have hx2 := hx1.trans (h2.bel.mono hx1.size)
    obtain ⟨g2, c2, e2, hc2, _, hg2, own2⟩ := own_G h2.own (by rw [HL6.out]; omega)
    rw [HL6.out] at e2 hc2
    subst e2
    have own12 := OWN1.out.kept OWN1.out.lt h2.bel
    have hlt1 := OWN1.out.lt
    have hg12 : g1 ≠ g2 := by omega
    have OWN2 : Hid _ := own2
    have OWN12 : Hid _ := own12
    have HS1 := hx1.size
    have hc1' := hc1
    clear h2 M2 own2 own12 OWN1
    have q0 : ((LL : Int) == 0) = false := by simp; omega
    have q1 : ((LL : Int) != (LL : Int)) = false := by simp
    go_wp2_with fail
    generalize hN0 : N = N0 at hN
    subst hN0
    have hd2 : Below W1.heap.size W1 w2.drew := hx2.drew
    have ownd : OwnG w2.drew g1 z4 := OWN12.out.kept OWN12.out.lt (Below.refl _ w2).drew
    refine wp_region_held (S := fun W => Below W1.heap.size W1 W) (by kernel_rfl) ?_
    show wpAnyH _ _ _ _ _ 14 (Array.replicate 14 false) _ w2.drew
    refine take_one (i := 0) (d := some 73) (v := .slice (some ⟨g1, 0, none⟩) LL c1) rfl rfl rfl (by kernel_rfl) (by kernel_rfl) (by kernel_rfl) (fun _ _ d _ _ h => by cases d <;> exact h) (fun W hS => ex_move (.tmp 9) rfl rfl) hd2 ?_
    simp only [Act.put, List.setIfInBounds_toArray, List.set_cons_zero, List.set_cons_succ]
    refine take_one (i := 1) (d := some 74) (v := .int .i64 (N : Int)) rfl rfl rfl (by kernel_rfl) (by kernel_rfl) (by kernel_rfl) (fun _ _ d _ _ h => by cases d <;> exact h) (fun W hS => ex_move (.tmp 13) rfl rfl) hd2 ?_
    simp only [Act.put, List.setIfInBounds_toArray, List.set_cons_zero, List.set_cons_succ]
    refine take_one (i := 2) (d := some 75) (v := .int .i64 ((N / 8 : Nat) : Int)) rfl rfl rfl (by kernel_rfl) (by kernel_rfl) (by kernel_rfl) (fun _ _ d _ _ h => by cases d <;> exact h) (fun W hS => ex_quo8 74 rfl rfl hN6) hd2 ?_
    simp only [Act.put, List.setIfInBounds_toArray, List.set_cons_zero, List.set_cons_succ]
    refine take_one (i := 3) (d := some 76) (v := .slice (some ⟨g1, 0, none⟩) LL c1) rfl rfl rfl (by kernel_rfl) (by kernel_rfl) (by kernel_rfl) (fun _ _ d _ _ h => by cases d <;> exact h) (fun W hS => ex_move (.tmp 9) rfl rfl) hd2 ?_
    simp only [Act.put, List.setIfInBounds_toArray, List.set_cons_zero, List.set_cons_succ]
    refine take_one (i := 4) (d := some 77) (v := .int .i64 (N : Int)) rfl rfl rfl (by kernel_rfl) (by kernel_rfl) (by kernel_rfl) (fun _ _ d _ _ h => by cases d <;> exact h) (fun W hS => ex_move (.tmp 13) rfl rfl) hd2 ?_
    simp only [Act.put, List.setIfInBounds_toArray, List.set_cons_zero, List.set_cons_succ]
    refine take_one (i := 5) (d := some 78) (v := .int .i64 ((N / 8 : Nat) : Int)) rfl rfl rfl (by kernel_rfl) (by kernel_rfl) (by kernel_rfl) (fun _ _ d _ _ h => by cases d <;> exact h) (fun W hS => ex_quo8 77 rfl rfl hN6) hd2 ?_
    simp only [Act.put, List.setIfInBounds_toArray, List.set_cons_zero, List.set_cons_succ]
    refine take_one (i := 6) (d := some 79) (v := .pointer (some ⟨g1, 0 + N / 8, none⟩)) rfl rfl rfl (by kernel_rfl) (by kernel_rfl) (by kernel_rfl) (fun _ _ d _ _ h => by cases d <;> exact h) (fun W hS => ex_indexV 76 78 rfl rfl rfl hi) hd2 ?_
    simp only [Act.put, List.setIfInBounds_toArray, List.set_cons_zero, List.set_cons_succ]
    refine take_one (i := 8) (d := some 81) (v := .int .i64 (N : Int)) rfl rfl rfl (by kernel_rfl) (by kernel_rfl) (by kernel_rfl) (fun _ _ d _ _ h => by cases d <;> exact h) (fun W hS => ex_move (.tmp 13) rfl rfl) hd2 ?_
    simp only [Act.put, List.setIfInBounds_toArray, List.set_cons_zero, List.set_cons_succ]
    refine take_one (i := 9) (d := some 82) (v := .int .i64 ((N % 8 : Nat) : Int)) rfl rfl rfl (by kernel_rfl) (by kernel_rfl) (by kernel_rfl) (fun _ _ d _ _ h => by cases d <;> exact h) (fun W hS => ex_rem8 81 rfl rfl hN6) hd2 ?_
    simp only [Act.put, List.setIfInBounds_toArray, List.set_cons_zero, List.set_cons_succ]
    refine take_one (i := 10) (d := some 83) (v := .int .u8 ((2 : Int) ^ (N % 8) % 256)) rfl rfl rfl (by kernel_rfl) (by kernel_rfl) (by kernel_rfl) (fun _ _ d _ _ h => by cases d <;> exact h) (fun W hS => ex_shl1 (t := 0) 82 rfl rfl hj) hd2 ?_
    simp only [Act.put, List.setIfInBounds_toArray, List.set_cons_zero, List.set_cons_succ]
    refine all_one (i := 7) (by kernel_rfl) rfl rfl ?_
    refine wp_ex (d := some 80) rfl (ex_load8 79 rfl rfl (by rw [Nat.zero_add]; exact ownd.cell (N / 8) (by rw [HL4.out]; exact hi))) ⟨hd2, ?_⟩
    simp only [Act.put, List.setIfInBounds_toArray, List.set_cons_zero, List.set_cons_succ]
    refine take_one (i := 11) (d := some 84) (v := .int .u8 (bits .xor .u8 (gz z4 (N / 8)) ((2 : Int) ^ (N % 8) % 256))) rfl rfl rfl (by kernel_rfl) (by kernel_rfl) (by kernel_rfl) (fun _ _ d _ _ h => by cases d <;> exact h) (fun W hS => ex_xor8 80 83 rfl rfl rfl) hd2 ?_
    simp only [Act.put, List.setIfInBounds_toArray, List.set_cons_zero, List.set_cons_succ]
    refine take_one (i := 12) (d := some 85) (v := .pointer (some ⟨g1, 0 + N / 8, none⟩)) rfl rfl rfl (by kernel_rfl) (by kernel_rfl) (by kernel_rfl) (fun _ _ d _ _ h => by cases d <;> exact h) (fun W hS => ex_indexV 73 75 rfl rfl rfl hi) hd2 ?_
    simp only [Act.put, List.setIfInBounds_toArray, List.set_cons_zero, List.set_cons_succ]
    have hxs3 : Below W1.heap.size W1 (w2.drew.setCell ⟨g1, N / 8, none⟩ (.int .u8 (bits .xor .u8 (gz z4 (N / 8)) ((2 : Int) ^ (N % 8) % 256)))) := hd2.setCell hg1 _
    refine all_one (i := 13) (by kernel_rfl) rfl rfl ?_
    refine store_wp (.tmp 85) (.tmp 84) 5 rfl rfl rfl (store8 ownd (by rw [HL4.out]; exact hi) _) ⟨hxs3, ?_⟩
    simp only [Act.put, List.setIfInBounds_toArray, List.set_cons_zero, List.set_cons_succ]
    refine wpAnyH_done (by kernel_rfl) ?_ _
    have own3 : OwnG (w2.drew.setCell ⟨g1, N / 8, none⟩ (.int .u8 (bits .xor .u8 (gz z4 (N / 8)) ((2 : Int) ^ (N % 8) % 256)))) g1 (z4.set (N / 8) (bits .xor .u8 (gz z4 (N / 8)) ((2 : Int) ^ (N % 8) % 256))) := ownd.set (N / 8) (by rw [HL4.out]; exact hi) _
    have own23 : OwnG (w2.drew.setCell ⟨g1, N / 8, none⟩ (.int .u8 (bits .xor .u8 (gz z4 (N / 8)) ((2 : Int) ^ (N % 8) % 256)))) g2 z6 := (OWN2.out.kept OWN2.out.lt (Below.refl _ w2).drew).off ((Only.refl g1 w2.drew).set _ _) (by omega)
    obtain ⟨w3, hw3⟩ : ∃ w3, w2.drew.setCell ⟨g1, N / 8, none⟩ (.int .u8 (bits .xor .u8 (gz z4 (N / 8)) ((2 : Int) ^ (N % 8) % 256))) = w3 := ⟨_, rfl⟩
    rw [hw3] at own3 own23 hxs3 ⊢
    clear hw3 hd2 hx2 ownd OWN2 OWN12
    have OWN3 : Hid _ := own3
    have OWN23 : Hid _ := own23
    clear own3 own23
    go_wp2_with fail
    have hd3 : Below W1.heap.size W1 w3.drew := hxs3.drew
    have ownd : OwnG w3.drew g2 z6 := OWN23.out.kept OWN23.out.lt (Below.refl _ w3).drew
    refine wp_region_held (S := fun W => Below W1.heap.size W1 W) (by kernel_rfl) ?_
    show wpAnyH _ _ _ _ _ 14 (Array.replicate 14 false) _ w3.drew
    refine take_one (i := 0) (d := some 86) (v := .slice (some ⟨g2, 0, none⟩) LL c2) rfl rfl rfl (by kernel_rfl) (by kernel_rfl) (by kernel_rfl) (fun _ _ d _ _ h => by cases d <;> exact h) (fun W hS => ex_move (.tmp 11) rfl rfl) hd3 ?_
    simp only [Act.put, List.setIfInBounds_toArray, List.set_cons_zero, List.set_cons_succ]
    refine take_one (i := 1) (d := some 87) (v := .int .i64 (N : Int)) rfl rfl rfl (by kernel_rfl) (by kernel_rfl) (by kernel_rfl) (fun _ _ d _ _ h => by cases d <;> exact h) (fun W hS => ex_move (.tmp 13) rfl rfl) hd3 ?_
    simp only [Act.put, List.setIfInBounds_toArray, List.set_cons_zero, List.set_cons_succ]
    refine take_one (i := 2) (d := some 88) (v := .int .i64 ((N / 8 : Nat) : Int)) rfl rfl rfl (by kernel_rfl) (by kernel_rfl) (by kernel_rfl) (fun _ _ d _ _ h => by cases d <;> exact h) (fun W hS => ex_quo8 87 rfl rfl hN6) hd3 ?_
    simp only [Act.put, List.setIfInBounds_toArray, List.set_cons_zero, List.set_cons_succ]
    refine take_one (i := 3) (d := some 89) (v := .slice (some ⟨g2, 0, none⟩) LL c2) rfl rfl rfl (by kernel_rfl) (by kernel_rfl) (by kernel_rfl) (fun _ _ d _ _ h => by cases d <;> exact h) (fun W hS => ex_move (.tmp 11) rfl rfl) hd3 ?_
    simp only [Act.put, List.setIfInBounds_toArray, List.set_cons_zero, List.set_cons_succ]
    refine take_one (i := 4) (d := some 90) (v := .int .i64 (N : Int)) rfl rfl rfl (by kernel_rfl) (by kernel_rfl) (by kernel_rfl) (fun _ _ d _ _ h => by cases d <;> exact h) (fun W hS => ex_move (.tmp 13) rfl rfl) hd3 ?_
    simp only [Act.put, List.setIfInBounds_toArray, List.set_cons_zero, List.set_cons_succ]
    refine take_one (i := 5) (d := some 91) (v := .int .i64 ((N / 8 : Nat) : Int)) rfl rfl rfl (by kernel_rfl) (by kernel_rfl) (by kernel_rfl) (fun _ _ d _ _ h => by cases d <;> exact h) (fun W hS => ex_quo8 90 rfl rfl hN6) hd3 ?_
    simp only [Act.put, List.setIfInBounds_toArray, List.set_cons_zero, List.set_cons_succ]
    refine take_one (i := 6) (d := some 92) (v := .pointer (some ⟨g2, 0 + N / 8, none⟩)) rfl rfl rfl (by kernel_rfl) (by kernel_rfl) (by kernel_rfl) (fun _ _ d _ _ h => by cases d <;> exact h) (fun W hS => ex_indexV 89 91 rfl rfl rfl hi) hd3 ?_
    simp only [Act.put, List.setIfInBounds_toArray, List.set_cons_zero, List.set_cons_succ]
    refine take_one (i := 8) (d := some 94) (v := .int .i64 (N : Int)) rfl rfl rfl (by kernel_rfl) (by kernel_rfl) (by kernel_rfl) (fun _ _ d _ _ h => by cases d <;> exact h) (fun W hS => ex_move (.tmp 13) rfl rfl) hd3 ?_
    simp only [Act.put, List.setIfInBounds_toArray, List.set_cons_zero, List.set_cons_succ]
    refine take_one (i := 9) (d := some 95) (v := .int .i64 ((N % 8 : Nat) : Int)) rfl rfl rfl (by kernel_rfl) (by kernel_rfl) (by kernel_rfl) (fun _ _ d _ _ h => by cases d <;> exact h) (fun W hS => ex_rem8 94 rfl rfl hN6) hd3 ?_
    simp only [Act.put, List.setIfInBounds_toArray, List.set_cons_zero, List.set_cons_succ]
    refine take_one (i := 10) (d := some 96) (v := .int .u8 ((2 : Int) ^ (N % 8) % 256)) rfl rfl rfl (by kernel_rfl) (by kernel_rfl) (by kernel_rfl) (fun _ _ d _ _ h => by cases d <;> exact h) (fun W hS => ex_shl1 (t := 0) 95 rfl rfl hj) hd3 ?_
    simp only [Act.put, List.setIfInBounds_toArray, List.set_cons_zero, List.set_cons_succ]
    refine all_one (i := 7) (by kernel_rfl) rfl rfl ?_
    refine wp_ex (d := some 93) rfl (ex_load8 92 rfl rfl (by rw [Nat.zero_add]; exact ownd.cell (N / 8) (by rw [HL6.out]; exact hi))) ⟨hd3, ?_⟩
    simp only [Act.put, List.setIfInBounds_toArray, List.set_cons_zero, List.set_cons_succ]
    refine take_one (i := 11) (d := some 97) (v := .int .u8 (bits .xor .u8 (gz z6 (N / 8)) ((2 : Int) ^ (N % 8) % 256))) rfl rfl rfl (by kernel_rfl) (by kernel_rfl) (by kernel_rfl) (fun _ _ d _ _ h => by cases d <;> exact h) (fun W hS => ex_xor8 93 96 rfl rfl rfl) hd3 ?_
    simp only [Act.put, List.setIfInBounds_toArray, List.set_cons_zero, List.set_cons_succ]
    refine take_one (i := 12) (d := some 98) (v := .pointer (some ⟨g2, 0 + N / 8, none⟩)) rfl rfl rfl (by kernel_rfl) (by kernel_rfl) (by kernel_rfl) (fun _ _ d _ _ h => by cases d <;> exact h) (fun W hS => ex_indexV 86 88 rfl rfl rfl hi) hd3 ?_
    simp only [Act.put, List.setIfInBounds_toArray, List.set_cons_zero, List.set_cons_succ]
    have hxs4 : Below W1.heap.size W1 (w3.drew.setCell ⟨g2, N / 8, none⟩ (.int .u8 (bits .xor .u8 (gz z6 (N / 8)) ((2 : Int) ^ (N % 8) % 256)))) := hd3.setCell (Nat.le_trans hx1.size hg2) _
    refine all_one (i := 13) (by kernel_rfl) rfl rfl ?_
    refine store_wp (.tmp 98) (.tmp 97) 5 rfl rfl rfl (store8 ownd (by rw [HL6.out]; exact hi) _) ⟨hxs4, ?_⟩
    simp only [Act.put, List.setIfInBounds_toArray, List.set_cons_zero, List.set_cons_succ]
    refine wpAnyH_done (by kernel_rfl) ?_ _
    have own4 : OwnG (w3.drew.setCell ⟨g2, N / 8, none⟩ (.int .u8 (bits .xor .u8 (gz z6 (N / 8)) ((2 : Int) ^ (N % 8) % 256)))) g2 (z6.set (N / 8) (bits .xor .u8 (gz z6 (N / 8)) ((2 : Int) ^ (N % 8) % 256))) := ownd.set (N / 8) (by rw [HL6.out]; exact hi) _
    have own34 : OwnG (w3.drew.setCell ⟨g2, N / 8, none⟩ (.int .u8 (bits .xor .u8 (gz z6 (N / 8)) ((2 : Int) ^ (N % 8) % 256)))) g1 (z4.set (N / 8) (bits .xor .u8 (gz z4 (N / 8)) ((2 : Int) ^ (N % 8) % 256))) := (OWN3.out.kept OWN3.out.lt (Below.refl _ w3).drew).off ((Only.refl g2 w3.drew).set _ _) (by omega)
    obtain ⟨w4, hw4⟩ : ∃ w4, w3.drew.setCell ⟨g2, N / 8, none⟩ (.int .u8 (bits .xor .u8 (gz z6 (N / 8)) ((2 : Int) ^ (N % 8) % 256))) = w4 := ⟨_, rfl⟩
    rw [hw4] at own4 own34 hxs4 ⊢
    obtain ⟨p4, f4⟩ := BN4.out (N / 8) (N % 8) hi hj
    obtain ⟨p6, f6⟩ := BN6.out (N / 8) (N % 8) hi hj
    have r4 : RowC w4 (.slice (some ⟨g1, 0, none⟩) LL c1) (z4.set (N / 8) (bits .xor .u8 (gz z4 (N / 8)) ((2 : Int) ^ (N % 8) % 256))) := .of_bytes (own34.all f4 (by rw [List.length_set, HL4.out]; omega) LL c1 (by rw [List.length_set, HL4.out])) hc1'
    have r6 : RowC w4 (.slice (some ⟨g2, 0, none⟩) LL c2) (z6.set (N / 8) (bits .xor .u8 (gz z6 (N / 8)) ((2 : Int) ^ (N % 8) % 256))) := .of_bytes (own4.all f6 (by rw [List.length_set, HL6.out]; omega) LL c2 (by rw [List.length_set, HL6.out])) hc2
    have hp4 := M3.out w4 _ _ r4
    unfold ParI at hp4
    rw [p4] at hp4
    have HP4 : Hid _ := hp4
    have HP6 : Hid (∀ W, Below w4.heap.size w4 W → Calls Try.prog 17 #[.agg xA.toArray, .agg xB.toArray, .slice (some ⟨g2, 0, none⟩) LL c2] W fun e w' => ∃ d : List Value, e = .returned (.tuple #[.agg d.toArray, .int .i64 71]) ∧ (d.length = 4 ∧ ∀ v ∈ d, v.oneCell' = true) ∧ Below W.heap.size W w') := fun W hW => (M4.out W _ _ (r6.on hW)).mono (fun e w' k => by
      obtain ⟨d, k1, k2, k3⟩ := k
      rw [p6] at k1
      exact ⟨d, k1, ⟨k2.1.len, k2.1.one⟩, k3⟩)
    clear own4 own34 hw4 p4 p6 f4 f6 r4 r6 hp4 hxs3 hd3 ownd OWN3 OWN23 BN4 BN6 M3 M4 HM HL4 HL6
    go_wp2_with fail
    refine Calls.mono HP4.out ?_
    rintro _ w5 ⟨d5, rfl, hd5, hb5⟩
    obtain ⟨w6, hst6, b6, hb6⟩ := box_new Try.sizeOf26 w5 [.int .u8 0, .int .u8 0, .int .u32 0, .slice none 0 0] rfl d5 hd5.1.len hd5.1.one
    have hx5 := hxs4.trans (hb5.mono hxs4.size)
    have hx6 := hx5.trans (hb6.mono hx5.size)
    have hy6 := hb5.trans (hb6.mono hb5.size)
    have HP66 : Hid _ := HP6.out w6 hy6
    have HST6 : Hid _ := hst6
    clear hst6 b6 hb6 hd5 hb5 hx5 hy6 HP4 HP6 hxs4
    go_wp2_with first
      | ((with_reducible show wpList _ _ _ _ _ _); refine arm_store rfl (.tmp 14) (.tmp 102) 26 rfl rfl rfl HST6.out ?_)
      | ((with_reducible show wpList _ _ _ _ _ _); refine arm_load rfl (.tmp 4) 22 rfl rfl (HLA.out _ hx6) ?_)
      | ((with_reducible show wpList _ _ _ _ _ _); refine arm_load rfl (.tmp 5) 22 rfl rfl (HLB.out _ hx6) ?_)
    refine Calls.mono HP66.out ?_
    rintro _ w7 ⟨d7, rfl, ⟨n7, o7⟩, hb7⟩
    obtain ⟨w8, hst8, b8, hb8⟩ := box_new Try.sizeOf26 w7 [.int .u8 0, .int .u8 0, .int .u32 0, .slice none 0 0] rfl d7 n7 o7
    have hx7 := hx6.trans (hb7.mono hx6.size)
    have hx8 := hx7.trans (hb8.mono hx7.size)
    have HF : Hid (Below w.heap.size w w8) := HB.out.trans (hx8.mono HB.out.size)
    have HST8 : Hid _ := hst8
    clear hst8 b8 hb8 n7 o7 hb7 hx7 hx6 hx8 HP66 HST6 HLA HLB HLM
    go_wp2_with first
      | ((with_reducible show wpList _ _ _ _ _ _); refine arm_store rfl (.tmp 16) (.tmp 109) 26 rfl rfl rfl HST8.out ?_)
    refine Calls.mono (alive_calls _) ?_
    rintro _ w9 ⟨rfl, hz9⟩
    go_wp2
    go_ret
    exact ⟨rfl, HF.out.trans (hz9.mono HF.out.size)⟩
  · obtain ⟨hE, h4, h6⟩ := hNO.out hn
    rw [hE] at M1 M2
    rw [h4] at M1
    rw [h6] at M2
    clear hE h4 h6 hOK hNO hn M3 M4
    go_enter Try.func8, Try.ntmps8
    go_wp2_with fail
    refine Calls.mono (HCUT.out _) ?_
    rintro _ _ ⟨rfl, rfl⟩
    go_wp2_with first
      | ((with_reducible show wpList _ _ _ _ _ _); refine arm_load rfl (.tmp 6) 26 rfl rfl (HLM.out _ hx0) ?_)
    refine Calls.mono (M1.out _ hx0) ?_
    rintro _ w1 ⟨v1, rfl, h1⟩
    have hx1 := hx0.trans (h1.bel.mono hx0.size)
    have hr1 := h1.rowC (fit_of _ rfl) (by simp)
    obtain ⟨a1, c1, rfl, _⟩ := hr1.val
    clear h1 hr1 M1
    go_wp2_with first
      | ((with_reducible show wpList _ _ _ _ _ _); refine arm_load rfl (.tmp 4) 22 rfl rfl (HLA.out _ hx1) ?_)
      | ((with_reducible show wpList _ _ _ _ _ _); refine arm_load rfl (.tmp 5) 22 rfl rfl (HLB.out _ hx1) ?_)
      | ((with_reducible show wpList _ _ _ _ _ _); refine arm_load rfl (.tmp 6) 26 rfl rfl (HLM.out _ hx1) ?_)
    refine Calls.mono (M2.out _ hx1) ?_
    rintro _ w2 ⟨v2, rfl, h2⟩
    have hx2 := hx1.trans (h2.bel.mono hx1.size)
    have hr2 := h2.rowC (fit_of _ rfl) (by simp)
    obtain ⟨a2, c2, rfl, _⟩ := hr2.val
    have HF : Hid (Below w.heap.size w w2) := HB.out.trans (hx2.mono HB.out.size)
    clear h2 hr2 M2 hx1 hx0 hx2 HLA HLB HLM HM
    simp only [List.length_nil]
    go_wp2_with fail
    refine Calls.mono (alive_calls _) ?_
    rintro _ w3 ⟨rfl, hz3⟩
    go_wp2
    go_ret
    exact ⟨rfl, HF.out.trans (hz3.mono HF.out.size)⟩

set_option maxRecDepth 100000 in
theorem icmpOneBit_open {H : Type} {enc : TypeId × Value → H} {W : World} {base : Nat} (v0 v1 v2 v3 : Value) {d0 d1 d2 d3 : DataW H} {p0 p1 p2 p3 : List MemPlace}
    (o0 : Value.okWide Try.prog W .any base 22 v0) (h0 : DataW.Trod enc Try.prog W 0 (fun _ => true) true 22 v0 d0 p0) (z0 : ∀ k ∈ d0.weights Try.prog 22, k ≤ reachBytes)
    (o1 : Value.okWide Try.prog W .any base 22 v1) (h1 : DataW.Trod enc Try.prog W 0 (fun _ => true) true 22 v1 d1 p1) (z1 : ∀ k ∈ d1.weights Try.prog 22, k ≤ reachBytes)
    (o2 : Value.okWide Try.prog W .any base 26 v2) (h2 : DataW.Trod enc Try.prog W 0 (fun _ => true) true 26 v2 d2 p2) (z2 : ∀ k ∈ d2.weights Try.prog 26, k ≤ reachBytes)
    (o3 : Value.okWide Try.prog W .any base 23 v3) (h3 : DataW.Trod enc Try.prog W 0 (fun _ => true) true 23 v3 d3 p3) (z3 : ∀ k ∈ d3.weights Try.prog 23, k ≤ reachBytes) :
    Calls Try.prog 8 #[v0, v1, v2, v3] W fun e w' => e = .returned (.bool true) ∧ Below W.heap.size W w' := by
  obtain ⟨A, rfl, la, fa⟩ := open_arr16 h0
  obtain ⟨B, rfl, lb, fb⟩ := open_arr16 h1
  obtain ⟨c, m, rfl, hm⟩ := open_msg h2 z2
  obtain ⟨n, rfl, _, _, wn⟩ := Go.ChangeShapes.open_int Try.underlying23 o3 h3
  have hq := bounds_u32 wn
  exact icmpOneBit_walk A B la lb fa fb c m W hm n (by omega)

end Go.Proofs.Ytljmamogefgiaaa
