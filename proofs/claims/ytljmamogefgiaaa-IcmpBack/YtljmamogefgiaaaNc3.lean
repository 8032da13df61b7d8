/-
  IcmpBack: the walk.
-/
import Derived.Test.YtljmamogefgiaaaNc2
namespace Go.Proofs.Ytljmamogefgiaaa
open Go Go.RowKit Go.Shelf
set_option linter.unusedVariables false
set_option linter.unusedSimpArgs false

set_option maxHeartbeats 8000000 in
set_option maxRecDepth 100000 in
theorem icmpBack_walk (A B : List Int) (la : A.length = 16) (lb : B.length = 16) (fa : Fit A) (fb : Fit B) (c : List Value) (m : Msg) (w : World) (h : MsgA w c m) :
    Calls Try.prog 7 #[.agg (u8L A).toArray, .agg (u8L B).toArray, .agg c.toArray] w fun e w' => e = .returned (.bool true) ∧ Below w.heap.size w w' := by
  obtain ⟨ab, kb, au, ku, W0, W1, hX⟩ := box3 w A B la lb c m h
  obtain ⟨hcc, hW0, hW1, k3, f3, hcut, hmsg, hbel, lA, lB, lM⟩ := hX
  subst hcc
  clear h
  have HCUT : Hid _ := hcut
  have HB : Hid _ := hbel
  have HLA : Hid _ := lA
  have HLB : Hid _ := lB
  have HLM : Hid _ := lM
  have HM : Hid _ := hmsg
  have ok4 := phN_ok
  have ok6 := ph6I_ok la lb fa fb
  have M1 : Hid (∀ W, Below W1.heap.size W1 W → Calls Try.prog 10 #[.agg [.int .u8 m.ty, .int .u8 m.code, .int .u32 m.rest, .slice au (m.body.take 70000).length ku].toArray] W (Wrote2 W (icB phN (cutM m)) (icE (cutM m)))) := fun W hW => Write4_any _ _ W (hmsg.on hW)
  have M2 : Hid (∀ W, Below W1.heap.size W1 W → Calls Try.prog 12 #[.agg (u8L A).toArray, .agg (u8L B).toArray, .agg [.int .u8 m.ty, .int .u8 m.code, .int .u32 m.rest, .slice au (m.body.take 70000).length ku].toArray] W (Wrote2 W (icB (ph6I A B) (cutM m)) (icE (cutM m)))) := fun W hW => Write6_any A B la lb fa fb _ _ W (hmsg.on hW)
  have M3 : Hid (∀ W v zs, RowC W v zs → Calls Try.prog 15 #[v] W fun e w' => ParI phN zs W e w') := fun W v zs hr => Parse4_any v zs W hr
  have M4 : Hid (∀ W v zs, RowC W v zs → Calls Try.prog 17 #[.agg (u8L A).toArray, .agg (u8L B).toArray, v] W fun e w' => ParI (ph6I A B) zs W e w') := fun W v zs hr => Parse6_any A B la lb fa fb v zs W hr
  have hx0 : Below W1.heap.size W1 W1 := Below.refl _ _
  have hOK : Hid (8 + (cutM m).body.length ≤ 65535 → icE (cutM m) = 0 ∧ icB phN (cutM m) = icL phN (cutM m) ∧ icB (ph6I A B) (cutM m) = icL (ph6I A B) (cutM m) ∧ Fit (icL phN (cutM m)) ∧ Fit (icL (ph6I A B) (cutM m)) ∧ pE phN (icL phN (cutM m)) = 0 ∧ pM phN (icL phN (cutM m)) = cutM m ∧ pE (ph6I A B) (icL (ph6I A B) (cutM m)) = 0 ∧ pM (ph6I A B) (icL (ph6I A B) (cutM m)) = cutM m) := fun hn => ⟨if_pos hn, if_pos hn, if_pos hn, icL_fit ok4 hmsg hn, icL_fit ok6 hmsg hn, (ic_back ok4 hmsg hn).1, (ic_back ok4 hmsg hn).2, (ic_back ok6 hmsg hn).1, (ic_back ok6 hmsg hn).2⟩
  have hNO : Hid (¬ 8 + (cutM m).body.length ≤ 65535 → icE (cutM m) = 2 ∧ icB phN (cutM m) = [] ∧ icB (ph6I A B) (cutM m) = []) := fun hn => ⟨if_neg hn, if_neg hn, if_neg hn⟩
  clear hcut hbel lA lB lM hmsg ok4 ok6 la lb fa fb
  generalize hbl : (m.body.take 70000).length = bl at *
  generalize u8L A = xA at *
  generalize u8L B = xB at *
  generalize ph6I A B = ph6 at *
  clear hbl
  generalize hcm : cutM m = m' at *
  clear hcm
  generalize m.body.length = bl0 at *
  generalize m.ty = ty at *
  generalize m.code = code at *
  generalize m.rest = rest at *
  by_cases hn : 8 + m'.body.length ≤ 65535
  · obtain ⟨hE, h4, h6, fit4, fit6, p4, q4, p6, q6⟩ := hOK.out hn
    have hl4 := icL_length phN m'
    have hl6 := icL_length ph6 m'
    rw [hE] at M1 M2
    rw [h4] at M1
    rw [h6] at M2
    clear hE h4 h6 hOK hNO
    have FIT4 : Hid _ := fit4
    have FIT6 : Hid _ := fit6
    have LE4 : Hid ((icL phN m').length ≤ 140737488351232) := by
      have : (icL phN m').length ≤ 140737488351232 := by omega
      exact this
    have LE6 : Hid ((icL ph6 m').length ≤ 140737488351232) := by
      have : (icL ph6 m').length ≤ 140737488351232 := by omega
      exact this
    have P4 : Hid _ := p4
    have Q4 : Hid _ := q4
    have P6 : Hid _ := p6
    have Q6 : Hid _ := q6
    clear fit4 fit6 hl4 hl6 p4 q4 p6 q6 hn
    generalize icL phN m' = z4 at *
    generalize icL ph6 m' = z6 at *
    go_enter Try.func7, Try.ntmps7
    go_wp2_with fail
    refine Calls.mono (HCUT.out _) ?_
    rintro _ _ ⟨rfl, rfl⟩
    go_wp2_with first
      | ((with_reducible show wpList _ _ _ _ _ _); refine arm_load rfl (.tmp 5) 26 rfl rfl (HLM.out _ hx0) ?_)
    refine Calls.mono (M1.out _ hx0) ?_
    rintro _ w1 ⟨v1, rfl, h1⟩
    have hx1 := hx0.trans (h1.bel.mono hx0.size)
    have hr1 := h1.rowC FIT4.out LE4.out
    have HR1 : Hid _ := hr1
    obtain ⟨a1, c1, rfl, _⟩ := hr1.val
    clear h1 hr1 M1
    go_wp2_with first
      | ((with_reducible show wpList _ _ _ _ _ _); refine arm_load rfl (.tmp 3) 22 rfl rfl (HLA.out _ hx1) ?_)
      | ((with_reducible show wpList _ _ _ _ _ _); refine arm_load rfl (.tmp 4) 22 rfl rfl (HLB.out _ hx1) ?_)
      | ((with_reducible show wpList _ _ _ _ _ _); refine arm_load rfl (.tmp 5) 26 rfl rfl (HLM.out _ hx1) ?_)
    refine Calls.mono (M2.out _ hx1) ?_
    rintro _ w2 ⟨v2, rfl, h2⟩
    have hx2 := hx1.trans (h2.bel.mono hx1.size)
    have hr2 := h2.rowC FIT6.out LE6.out
    have hp3 := M3.out w2 _ _ (HR1.out.on h2.bel)
    unfold ParI at hp3
    rw [P4.out, Q4.out] at hp3
    have HP3 : Hid _ := hp3
    have HR2 : Hid _ := hr2
    obtain ⟨a2, c2, rfl, _⟩ := hr2.val
    clear h2 hr2 M2 HR1 hp3
    go_wp2_with fail
    refine Calls.mono HP3.out ?_
    rintro _ w3 ⟨d3, rfl, hd3, hb3⟩
    obtain ⟨w4, hst4, b4, hb4⟩ := box_new Try.sizeOf26 w3 [.int .u8 0, .int .u8 0, .int .u32 0, .slice none 0 0] rfl d3 hd3.1.len hd3.1.one
    have hx3 := hx2.trans (hb3.mono hx2.size)
    have hx4 := hx3.trans (hb4.mono hx3.size)
    have hy4 := hb3.trans (hb4.mono hb3.size)
    have hp4 := M4.out w4 _ _ (HR2.out.on hy4)
    unfold ParI at hp4
    rw [P6.out, Q6.out] at hp4
    have HP4 : Hid _ := hp4
    have HD3 : Hid (MsgC w4 d3 m') := hd3.1.on hb4
    have B4 : Hid _ := b4
    have HST4 : Hid _ := hst4
    have N3 : Hid _ := hd3.1.len
    clear hd3 hb3 hb4 hst4 b4 hx3 hy4 hp4 HP3 HR2
    go_wp2_with first
      | ((with_reducible show wpList _ _ _ _ _ _); refine arm_store rfl (.tmp 11) (.tmp 54) 26 rfl rfl rfl HST4.out ?_)
      | ((with_reducible show wpList _ _ _ _ _ _); refine arm_load rfl (.tmp 3) 22 rfl rfl (HLA.out _ hx4) ?_)
      | ((with_reducible show wpList _ _ _ _ _ _); refine arm_load rfl (.tmp 4) 22 rfl rfl (HLB.out _ hx4) ?_)
    refine Calls.mono HP4.out ?_
    rintro _ w5 ⟨d5, rfl, hd5, hb5⟩
    obtain ⟨w6, hst6, b6, hb6⟩ := box_new Try.sizeOf26 w5 [.int .u8 0, .int .u8 0, .int .u32 0, .slice none 0 0] rfl d5 hd5.1.len hd5.1.one
    have hx5 := hx4.trans (hb5.mono hx4.size)
    have hx6 := hx5.trans (hb6.mono hx5.size)
    have hy6 := hb5.trans (hb6.mono hb5.size)
    have L3 : Hid (∀ W, Below w6.heap.size w6 W → (Instr.loadAt 26 (.pointer (some ⟨w3.heap.size, 0, none⟩))).run Try.prog W = .ok (.agg d3.toArray) W) := fun W hW => agg_load Try.isAgg26 Try.sizeOf26 N3.out (CellsAt.of_blk (blk_on (blk_on B4.out hy6) hW))
    have L5 : Hid (∀ W, Below w6.heap.size w6 W → (Instr.loadAt 26 (.pointer (some ⟨w5.heap.size, 0, none⟩))).run Try.prog W = .ok (.agg d5.toArray) W) := fun W hW => agg_load Try.isAgg26 Try.sizeOf26 hd5.1.len (CellsAt.of_blk (blk_on b6 hW))
    have S1 : Hid (Calls Try.prog 19 #[.agg d3.toArray, .agg [.int .u8 ty, .int .u8 code, .int .u32 rest, .slice au bl ku].toArray] w6 fun e w' => e = .returned (.bool true) ∧ Below w6.heap.size w6 w') := by
      have k := RSame_calls w6 (HD3.out.on hy6) (HM.out.on hx6)
      rw [sameM_self] at k
      exact k
    have S2 : Hid (∀ W, Below w6.heap.size w6 W → Calls Try.prog 19 #[.agg d5.toArray, .agg [.int .u8 ty, .int .u8 code, .int .u32 rest, .slice au bl ku].toArray] W fun e w' => e = .returned (.bool true) ∧ Below W.heap.size W w') := fun W hW => by
      have k := RSame_calls W ((hd5.1.on hb6).on hW) (HM.out.on (hx6.trans (hW.mono hx6.size)))
      rw [sameM_self] at k
      exact k
    have HST6 : Hid _ := hst6
    have HLM6 : Hid (∀ W, Below w6.heap.size w6 W → (Instr.loadAt 26 (.pointer (some ⟨w.heap.size + 1 + 1, 0, none⟩))).run Try.prog W = .ok (.agg [.int .u8 ty, .int .u8 code, .int .u32 rest, .slice au bl ku].toArray) W) := fun W hW => HLM.out W (hx6.trans (hW.mono hx6.size))
    have HF : Hid (Below w.heap.size w w6) := HB.out.trans (hx6.mono HB.out.size)
    have hz0 : Below w6.heap.size w6 w6 := Below.refl _ _
    clear hd5 hb5 hb6 hst6 b6 hx5 hy6 hx6 hx4 hx2 hx1 hx0 HP4 HD3 B4 N3 HLA HLB HLM HM HST4 M3 M4
    go_wp2_with first
      | ((with_reducible show wpList _ _ _ _ _ _); refine arm_store rfl (.tmp 13) (.tmp 61) 26 rfl rfl rfl HST6.out ?_)
      | ((with_reducible show wpList _ _ _ _ _ _); refine arm_load rfl (.tmp 11) 26 rfl rfl (L3.out _ hz0) ?_)
      | ((with_reducible show wpList _ _ _ _ _ _); refine arm_load rfl (.tmp 5) 26 rfl rfl (HLM6.out _ hz0) ?_)
    refine Calls.mono S1.out ?_
    rintro _ w7 ⟨rfl, hz7⟩
    go_wp2_with first
      | ((with_reducible show wpList _ _ _ _ _ _); refine arm_load rfl (.tmp 13) 26 rfl rfl (L5.out _ hz7) ?_)
      | ((with_reducible show wpList _ _ _ _ _ _); refine arm_load rfl (.tmp 5) 26 rfl rfl (HLM6.out _ hz7) ?_)
    refine Calls.mono (S2.out _ hz7) ?_
    rintro _ w8 ⟨rfl, hz8⟩
    go_wp2_with fail
    refine Calls.mono (alive_calls _) ?_
    rintro _ w9 ⟨rfl, hz9⟩
    go_wp2
    go_ret
    have hz78 := hz7.trans (hz8.mono hz7.size)
    have hz79 := hz78.trans (hz9.mono hz78.size)
    exact ⟨rfl, HF.out.trans (hz79.mono HF.out.size)⟩
  · obtain ⟨hE, h4, h6⟩ := hNO.out hn
    rw [hE] at M1 M2
    rw [h4] at M1
    rw [h6] at M2
    clear hE h4 h6 hOK hNO hn M3 M4
    go_enter Try.func7, Try.ntmps7
    go_wp2_with fail
    refine Calls.mono (HCUT.out _) ?_
    rintro _ _ ⟨rfl, rfl⟩
    go_wp2_with first
      | ((with_reducible show wpList _ _ _ _ _ _); refine arm_load rfl (.tmp 5) 26 rfl rfl (HLM.out _ hx0) ?_)
    refine Calls.mono (M1.out _ hx0) ?_
    rintro _ w1 ⟨v1, rfl, h1⟩
    have hx1 := hx0.trans (h1.bel.mono hx0.size)
    have hr1 := h1.rowC (fit_of _ rfl) (by simp)
    obtain ⟨a1, c1, rfl, _⟩ := hr1.val
    clear h1 hr1 M1
    go_wp2_with first
      | ((with_reducible show wpList _ _ _ _ _ _); refine arm_load rfl (.tmp 3) 22 rfl rfl (HLA.out _ hx1) ?_)
      | ((with_reducible show wpList _ _ _ _ _ _); refine arm_load rfl (.tmp 4) 22 rfl rfl (HLB.out _ hx1) ?_)
      | ((with_reducible show wpList _ _ _ _ _ _); refine arm_load rfl (.tmp 5) 26 rfl rfl (HLM.out _ hx1) ?_)
    refine Calls.mono (M2.out _ hx1) ?_
    rintro _ w2 ⟨v2, rfl, h2⟩
    have hx2 := hx1.trans (h2.bel.mono hx1.size)
    have hr2 := h2.rowC (fit_of _ rfl) (by simp)
    obtain ⟨a2, c2, rfl, _⟩ := hr2.val
    have HF : Hid (Below w.heap.size w w2) := HB.out.trans (hx2.mono HB.out.size)
    clear h2 hr2 M2 hx1 hx0 hx2 HLA HLB HLM HM
    simp only [List.length_nil]
    go_wp2_with fail
    refine Calls.mono (alive_calls _) ?_
    rintro _ w3 ⟨rfl, hz3⟩
    go_wp2
    go_ret
    exact ⟨rfl, HF.out.trans (hz3.mono HF.out.size)⟩

set_option maxRecDepth 100000 in
theorem icmpBack_open {H : Type} {enc : TypeId × Value → H} {W : World} {base : Nat} (v0 v1 v2 : Value) {d0 d1 d2 : DataW H} {p0 p1 p2 : List MemPlace}
    (o0 : Value.okWide Try.prog W .any base 22 v0) (h0 : DataW.Trod enc Try.prog W 0 (fun _ => true) true 22 v0 d0 p0) (z0 : ∀ k ∈ d0.weights Try.prog 22, k ≤ reachBytes)
    (o1 : Value.okWide Try.prog W .any base 22 v1) (h1 : DataW.Trod enc Try.prog W 0 (fun _ => true) true 22 v1 d1 p1) (z1 : ∀ k ∈ d1.weights Try.prog 22, k ≤ reachBytes)
    (o2 : Value.okWide Try.prog W .any base 26 v2) (h2 : DataW.Trod enc Try.prog W 0 (fun _ => true) true 26 v2 d2 p2) (z2 : ∀ k ∈ d2.weights Try.prog 26, k ≤ reachBytes) :
    Calls Try.prog 7 #[v0, v1, v2] W fun e w' => e = .returned (.bool true) ∧ Below W.heap.size W w' := by
  obtain ⟨A, rfl, la, fa⟩ := open_arr16 h0
  obtain ⟨B, rfl, lb, fb⟩ := open_arr16 h1
  obtain ⟨c, m, rfl, hm⟩ := open_msg h2 z2
  exact icmpBack_walk A B la lb fa fb c m W hm

end Go.Proofs.Ytljmamogefgiaaa
