/-
  IcmpWrites: the walk.
-/
import Derived.Test.YtljmamogefgiaaaNe1
namespace Go.Proofs.Ytljmamogefgiaaa
open Go Go.RowKit Go.Shelf
set_option linter.unusedVariables false
set_option linter.unusedSimpArgs false

theorem icB_fit {ph : Int → List Int} (h : PhI ph) {w : World} {c : List Value} {m : Msg} (hm : MsgC w c m) : Fit (icB ph m) ∧ (icB ph m).length ≤ 65535 := by
  unfold icB
  split
  · next hn => exact ⟨icL_fit h hm hn, by rw [icL_length]; exact hn⟩
  · exact ⟨fun z hz => by simp at hz, by simp⟩
set_option maxHeartbeats 8000000 in
set_option maxRecDepth 100000 in
theorem icmpWrites_walk (A B : List Int) (la : A.length = 16) (lb : B.length = 16) (fa : Fit A) (fb : Fit B) (c : List Value) (m : Msg) (w : World) (h : MsgA w c m) :
    Calls Try.prog 3 #[.agg (u8L A).toArray, .agg (u8L B).toArray, .agg c.toArray] w fun e w' => e = .returned (.bool true) ∧ Below w.heap.size w w' := by
  obtain ⟨ab, kb, au, ku, W0, W1, hX⟩ := box3 w A B la lb c m h
  obtain ⟨hcc, hW0, hW1, k3, f3, hcut, hmsg, hbel, lA, lB, lM⟩ := hX
  subst hcc
  clear h
  have HCUT : Hid _ := hcut
  have HB : Hid _ := hbel
  have HLA : Hid _ := lA
  have HLB : Hid _ := lB
  have HLM : Hid _ := lM
  have HM : Hid _ := hmsg
  have ok4 := phN_ok
  have ok6 := ph6I_ok la lb fa fb
  have M1 : Hid (∀ W, Below W1.heap.size W1 W → Calls Try.prog 10 #[.agg [.int .u8 m.ty, .int .u8 m.code, .int .u32 m.rest, .slice au (m.body.take 70000).length ku].toArray] W (Wrote2 W (icB phN (cutM m)) (icE (cutM m)))) := fun W hW => Write4_any _ _ W (hmsg.on hW)
  have M2 : Hid (∀ W, Below W1.heap.size W1 W → Calls Try.prog 12 #[.agg (u8L A).toArray, .agg (u8L B).toArray, .agg [.int .u8 m.ty, .int .u8 m.code, .int .u32 m.rest, .slice au (m.body.take 70000).length ku].toArray] W (Wrote2 W (icB (ph6I A B) (cutM m)) (icE (cutM m)))) := fun W hW => Write6_any A B la lb fa fb _ _ W (hmsg.on hW)
  have M3 : Hid (∀ W, Below W1.heap.size W1 W → Calls Try.prog 11 #[.agg [.int .u8 m.ty, .int .u8 m.code, .int .u32 m.rest, .slice au (m.body.take 70000).length ku].toArray] W (Wrote2 W (icB phN (cutM m)) (icE (cutM m)))) := fun W hW => RWrite4_any _ _ W (hmsg.on hW)
  have M4 : Hid (∀ W, Below W1.heap.size W1 W → Calls Try.prog 13 #[.agg (u8L A).toArray, .agg (u8L B).toArray, .agg [.int .u8 m.ty, .int .u8 m.code, .int .u32 m.rest, .slice au (m.body.take 70000).length ku].toArray] W (Wrote2 W (icB (ph6I A B) (cutM m)) (icE (cutM m)))) := fun W hW => RWrite6_any A B la lb fa fb _ _ W (hmsg.on hW)
  have hx0 : Below W1.heap.size W1 W1 := Below.refl _ _
  have hf4 := icB_fit ok4 hmsg
  have hf6 := icB_fit ok6 hmsg
  have F4 : Hid _ := hf4
  have F6 : Hid _ := hf6
  clear hcut hbel lA lB lM hmsg ok4 ok6 la lb fa fb HM hf4 hf6
  generalize hbl : (m.body.take 70000).length = bl at *
  generalize u8L A = xA at *
  generalize u8L B = xB at *
  generalize icB (ph6I A B) (cutM m) = z6 at *
  generalize icB phN (cutM m) = z4 at *
  generalize icE (cutM m) = er at *
  clear hbl
  generalize m.body.length = bl0 at *
  generalize m.ty = ty at *
  generalize m.code = code at *
  generalize m.rest = rest at *
  go_enter Try.func3, Try.ntmps3
  go_wp2_with fail
  refine Calls.mono (HCUT.out _) ?_
  rintro _ _ ⟨rfl, rfl⟩
  go_wp2_with first
    | ((with_reducible show wpList _ _ _ _ _ _); refine arm_load rfl (.tmp 5) 26 rfl rfl (HLM.out _ hx0) ?_)
  refine Calls.mono (M1.out _ hx0) ?_
  rintro _ w1 ⟨v1, rfl, h1⟩
  have hx1 := hx0.trans (h1.bel.mono hx0.size)
  have hr1 := h1.bytes F4.out.1 (Nat.le_trans F4.out.2 (by decide))
  have R1 : Hid _ := hr1
  obtain ⟨a1, c1, rfl, _⟩ := hr1.val
  clear h1 hr1 M1
  go_wp2_with first
    | ((with_reducible show wpList _ _ _ _ _ _); refine arm_load rfl (.tmp 5) 26 rfl rfl (HLM.out _ hx1) ?_)
  refine Calls.mono (M3.out _ hx1) ?_
  rintro _ w2 ⟨v2, rfl, h2⟩
  have hx2 := hx1.trans (h2.bel.mono hx1.size)
  have hr2 := h2.bytes F4.out.1 (Nat.le_trans F4.out.2 (by decide))
  have R2 : Hid _ := hr2
  have Y2 : Hid _ := h2.bel
  obtain ⟨a2, c2, rfl, _⟩ := hr2.val
  clear h2 hr2 M3
  go_wp2_with first
    | ((with_reducible show wpList _ _ _ _ _ _); refine arm_load rfl (.tmp 3) 22 rfl rfl (HLA.out _ hx2) ?_)
    | ((with_reducible show wpList _ _ _ _ _ _); refine arm_load rfl (.tmp 4) 22 rfl rfl (HLB.out _ hx2) ?_)
    | ((with_reducible show wpList _ _ _ _ _ _); refine arm_load rfl (.tmp 5) 26 rfl rfl (HLM.out _ hx2) ?_)
  refine Calls.mono (M2.out _ hx2) ?_
  rintro _ w3 ⟨v3, rfl, h3⟩
  have hx3 := hx2.trans (h3.bel.mono hx2.size)
  have hr3 := h3.bytes F6.out.1 (Nat.le_trans F6.out.2 (by decide))
  have R3 : Hid _ := hr3
  have Y3 : Hid _ := h3.bel
  obtain ⟨a3, c3, rfl, _⟩ := hr3.val
  clear h3 hr3 M2
  go_wp2_with first
    | ((with_reducible show wpList _ _ _ _ _ _); refine arm_load rfl (.tmp 3) 22 rfl rfl (HLA.out _ hx3) ?_)
    | ((with_reducible show wpList _ _ _ _ _ _); refine arm_load rfl (.tmp 4) 22 rfl rfl (HLB.out _ hx3) ?_)
    | ((with_reducible show wpList _ _ _ _ _ _); refine arm_load rfl (.tmp 5) 26 rfl rfl (HLM.out _ hx3) ?_)
  refine Calls.mono (M4.out _ hx3) ?_
  rintro _ w4 ⟨v4, rfl, h4⟩
  have hx4 := hx3.trans (h4.bel.mono hx3.size)
  have hr4 := h4.bytes F6.out.1 (Nat.le_trans F6.out.2 (by decide))
  have y34 := Y3.out.trans (h4.bel.mono Y3.out.size)
  have y24 := Y2.out.trans (y34.mono Y2.out.size)
  have t1 := (R1.out.later y24).text
  have t2 := (R2.out.later y34).text
  have t3 := (R3.out.later h4.bel).text
  have t4 := hr4.text
  obtain ⟨a4, c4, rfl, _⟩ := hr4.val
  generalize strOfNums z4 = X4 at *
  generalize strOfNums z6 = X6 at *
  have q1 : (X4.toList == X4.toList) = true := by simp
  have q2 : (X6.toList == X6.toList) = true := by simp
  have q3 : (er == er) = true := by simp
  have HF : Hid (Below w.heap.size w w4) := HB.out.trans (hx4.mono HB.out.size)
  clear h4 hr4 M4 y34 y24 hx4 hx3 hx2 hx1 hx0 R1 R2 R3 Y2 Y3 HLA HLB HLM F4 F6
  go_wp2_with fail
  refine Calls.mono (alive_calls _) ?_
  rintro _ w9 ⟨rfl, hz9⟩
  go_wp2
  go_ret
  exact ⟨rfl, HF.out.trans (hz9.mono HF.out.size)⟩

set_option maxRecDepth 100000 in
theorem icmpWrites_open {H : Type} {enc : TypeId × Value → H} {W : World} {base : Nat} (v0 v1 v2 : Value) {d0 d1 d2 : DataW H} {p0 p1 p2 : List MemPlace}
    (o0 : Value.okWide Try.prog W .any base 22 v0) (h0 : DataW.Trod enc Try.prog W 0 (fun _ => true) true 22 v0 d0 p0) (z0 : ∀ k ∈ d0.weights Try.prog 22, k ≤ reachBytes)
    (o1 : Value.okWide Try.prog W .any base 22 v1) (h1 : DataW.Trod enc Try.prog W 0 (fun _ => true) true 22 v1 d1 p1) (z1 : ∀ k ∈ d1.weights Try.prog 22, k ≤ reachBytes)
    (o2 : Value.okWide Try.prog W .any base 26 v2) (h2 : DataW.Trod enc Try.prog W 0 (fun _ => true) true 26 v2 d2 p2) (z2 : ∀ k ∈ d2.weights Try.prog 26, k ≤ reachBytes) :
    Calls Try.prog 3 #[v0, v1, v2] W fun e w' => e = .returned (.bool true) ∧ Below W.heap.size W w' := by
  obtain ⟨A, rfl, la, fa⟩ := open_arr16 h0
  obtain ⟨B, rfl, lb, fb⟩ := open_arr16 h1
  obtain ⟨c, m, rfl, hm⟩ := open_msg h2 z2
  exact icmpWrites_walk A B la lb fa fb c m W hm

end Go.Proofs.Ytljmamogefgiaaa
