/-
  What messages go over: over4, over6 and check of package icmp.
-/
import Derived.Test.YtljmamogefgiaaaSg4
import Derived.Test.YtljmamogefgiaaaGc
namespace Go.Proofs.Ytljmamogefgiaaa
open Go Go.RowKit Go.Shelf
set_option linter.unusedVariables false
set_option linter.unusedSimpArgs false

/-- What messages go over: a function that tells what stands ahead of so many bytes. -/
structure OverI (w : World) (v : Value) (ph : Int → List Int) : Prop where
  even : ∀ n, (ph n).length ≤ 40 ∧ (ph n).length % 2 = 0
  fun' : ∃ g lb, v = .func (.func g) #[] lb ∧ (∀ args w, (callFunc g args).run Try.prog w = .ok (.enter g args) w) ∧
    (∀ W, Below w.heap.size w W → ∀ n : Int, 0 ≤ n ∧ n ≤ 65535 → Calls Try.prog g (#[.int .i64 n] ++ lb) W fun e w' => ∃ u, e = .returned (.tuple #[u, .int .i64 0]) ∧ BytesAt w'.heap.size w' u (ph n) ∧ Below W.heap.size W w') ∧
    (∀ W, Below w.heap.size w W → ∀ n : Int, 65535 < n → Calls Try.prog g (#[.int .i64 n] ++ lb) W fun e w' => e = .returned (.tuple #[.slice none 0 0, .int .i64 2]) ∧ Below W.heap.size W w')
theorem OverI.later {w W : World} {v : Value} {ph : Int → List Int} (h : OverI w v ph) (hb : Below w.heap.size w W) : OverI W v ph := by
  obtain ⟨he, g, lb, hv, hc, h1, h2⟩ := h
  exact ⟨he, g, lb, hv, hc, fun X hX => h1 X (hb.trans (hX.mono hb.size)), fun X hX => h2 X (hb.trans (hX.mono hb.size))⟩
theorem OverI.own {w : World} {v : Value} {ph : Int → List Int} (h : OverI w v ph) : ∃ g lb, v = .func (.func g) #[] lb := by
  obtain ⟨_, g, lb, hv, _⟩ := h
  exact ⟨g, lb, hv⟩
def phN (n : Int) : List Int := []
def ph6I (A B : List Int) (n : Int) : List Int := ph6 A B 58 n
theorem eg_over4i : ∀ args w, (callFunc 34 args).run Try.prog w = .ok (.enter 34 args) w := enters_of Try.func34 (by kernel_rfl) rfl
theorem over4_yes (n : Int) (hn : 0 ≤ n ∧ n ≤ 65535) (w : World) : Calls Try.prog 34 #[.int .i64 n] w fun e w' => e = .returned (.tuple #[.slice none 0 0, .int .i64 0]) ∧ w' = w := by
  go_enter Try.func34, Try.ntmps34
  go_wp2
  go_ret2
  exact ⟨rfl, rfl⟩
theorem over4_no (n : Int) (hn : 65535 < n) (w : World) : Calls Try.prog 34 #[.int .i64 n] w fun e w' => e = .returned (.tuple #[.slice none 0 0, .int .i64 2]) ∧ w' = w := by
  go_enter Try.func34, Try.ntmps34
  go_wp2
  go_ret2
  exact ⟨rfl, rfl⟩
theorem over4_over (w : World) : OverI w (.func (.func 34) #[] #[]) phN := by
  refine ⟨fun n => by simp [phN], _, _, rfl, eg_over4i, fun W hW n hn => ?_, fun W hW n hn => ?_⟩
  · exact (over4_yes n hn W).mono (fun e w' h => ⟨_, h.1, BytesAt.none w', by rw [h.2]; exact Below.refl _ _⟩)
  · exact (over4_no n hn W).mono (fun e w' h => ⟨h.1, by rw [h.2]; exact Below.refl _ _⟩)

set_option maxHeartbeats 1000000 in
set_option maxRecDepth 100000 in
theorem over6_one (A B : List Int) (hA : A.length = 16) (hB : B.length = 16) (n : Int) (w : World) (x y : Nat) (cA : CellsAt w x 0 (u8L A)) (cB : CellsAt w y 0 (u8L B)) {R : Ending → World → Prop}
    (HC : Calls Try.prog 52 #[.agg (u8L A).toArray, .agg (u8L B).toArray, .int .u8 58, .int .i64 n] w R) (hR : ∀ e w', R e w' → ∃ a b, e = .returned (.tuple #[a, b])) :
    Calls Try.prog 51 #[.int .i64 n, .pointer (some ⟨x, 0, none⟩), .pointer (some ⟨y, 0, none⟩)] w R := by
  have HA : Hid _ := agg_load (t := 59) Try.isAgg59 Try.sizeOf59 (by simp [u8L, hA]) cA
  have HB : Hid _ := agg_load (t := 59) Try.isAgg59 Try.sizeOf59 (by simp [u8L, hB]) cB
  have HCC : Hid _ := HC
  have HR : Hid _ := hR
  clear HC cA cB hR
  generalize u8L A = xA at *
  generalize u8L B = xB at *
  clear hA hB
  go_enter Try.func51, Try.ntmps51
  go_wp2_with first
    | ((with_reducible show wpList _ _ _ _ _ _); refine arm_load rfl (.tmp 1) 59 rfl rfl HA.out ?_)
    | ((with_reducible show wpList _ _ _ _ _ _); refine arm_load rfl (.tmp 2) 59 rfl rfl HB.out ?_)
  refine Calls.mono HCC.out ?_
  intro e w' hr
  obtain ⟨a, b, rfl⟩ := HR.out e w' hr
  have H : Hid _ := hr
  clear hr
  go_wp2
  exact H.out


theorem eg_over6i : ∀ args w, (callFunc 51 args).run Try.prog w = .ok (.enter 51 args) w := enters_of Try.func51 (by kernel_rfl) rfl
set_option maxHeartbeats 1000000 in
set_option maxRecDepth 100000 in
theorem over6_calls (A B : List Int) (hA : A.length = 16) (hB : B.length = 16) (fa : Fit A) (fb : Fit B) (w : World) :
    Calls Try.prog 37 #[.agg (u8L A).toArray, .agg (u8L B).toArray] w fun e w' => ∃ v, e = .returned v ∧ OverI w' v (ph6I A B) ∧ Below w.heap.size w w' := by
  have hb : Below w.heap.size w ((w.alloc (.cells (u8L A).toArray 59)).alloc (.cells (u8L B).toArray 59)) := ((Below.refl _ w).alloc (Nat.le_refl _) _).alloc (by simp) _
  have b1 := blk_alloc (blk_new w (.cells (u8L A).toArray 59)) (.cells (u8L B).toArray 59)
  have b2 := blk_new (w.alloc (.cells (u8L A).toArray 59)) (.cells (u8L B).toArray 59)
  have e2 : (w.alloc (.cells (u8L A).toArray 59)).heap.size = w.heap.size + 1 := by simp
  rw [e2] at b2
  have hv : OverI ((w.alloc (.cells (u8L A).toArray 59)).alloc (.cells (u8L B).toArray 59)) (.func (.func 51) #[] #[.pointer (some ⟨w.heap.size, 0, none⟩), .pointer (some ⟨w.heap.size + 1, 0, none⟩)]) (ph6I A B) := by
    refine ⟨fun n => by simp [ph6I, ph6, hA, hB], _, _, rfl, eg_over6i, fun W hW n hn => ?_, fun W hW n hn => ?_⟩
    · refine over6_one A B hA hB n W w.heap.size (w.heap.size + 1) (CellsAt.of_blk (blk_on b1 hW)) (CellsAt.of_blk (blk_on b2 hW)) (pseudo6_list A B hA hB fa fb 58 n (by decide) hn W) ?_
      rintro e w' ⟨u, rfl, _⟩
      exact ⟨_, _, rfl⟩
    · refine over6_one A B hA hB n W w.heap.size (w.heap.size + 1) (CellsAt.of_blk (blk_on b1 hW)) (CellsAt.of_blk (blk_on b2 hW)) (pseudo6_long A B hA hB 58 n hn W) ?_
      rintro e w' ⟨rfl, _⟩
      exact ⟨_, _, rfl⟩
  have HV : Hid _ := hv
  have HB : Hid _ := hb
  clear hv hb b1 b2 e2 fa fb
  have h1 : (u8L A).length = 16 := by simp [u8L, hA]
  have h2 : (u8L B).length = 16 := by simp [u8L, hB]
  clear hA hB
  generalize u8L A = xA at *
  generalize u8L B = xB at *
  go_enter Try.func37, Try.ntmps37
  go_wp2
  go_ret
  exact ⟨_, rfl, HV.out, HB.out⟩
set_option maxHeartbeats 1000000 in
set_option maxRecDepth 100000 in
theorem check_ok (o : Value) (ph : Int → List Int) (v : Value) (ps : List (List Int)) (w : World) (ho : OverI w o ph) (hv : PartsAt w.heap.size w v ps) (hn : ps.length ≤ 100) (ht : ps.flatten.length ≤ 65535) :
    Calls Try.prog 47 #[o, v] w fun e w' => e = .returned (.tuple #[.int .u16 (65535 - sumW 0 (wordsL (ph ps.flatten.length ++ ps.flatten))), .int .i64 0]) ∧ Below w.heap.size w w' := by
  have hv0 := hv
  obtain ⟨hev, g, lb, rfl, eg, hyes, _⟩ := ho
  obtain ⟨hlen, a, cap, rfl, hz⟩ := hv
  have HY : Hid _ := hyes
  have HV0 : Hid _ := hv0
  have hpa := pre_all ps
  have hps := pre_succ ps
  have hpl := pre_le ps
  clear hyes hv0 hlen
  generalize hf : ps.flatten = f at *
  have HPA : Hid _ := hpa
  have HPS : Hid _ := hps
  have HPL : Hid _ := hpl
  have HF : Hid _ := hf
  generalize hN : ps.length = N at *
  have HN : Hid _ := hN
  clear hpa hps hpl hf hN
  go_enter Try.func47, Try.ntmps47
  go_wp2
  go_loopw [6, 13] (fun n i wr => ∃ k : Nat, k ≤ N ∧ i = .int .i64 k ∧ n = .int .i64 (pre ps k : Nat) ∧ wr = w) (fun _ i _ => N - (intOf i).toNat)
  case atStart => exact ⟨0, Nat.zero_le _, rfl, by simp [pre_zero], rfl⟩
  case round =>
    obtain ⟨k, hk, rfl, rfl, rfl⟩ := hrel
    have hplk := HPL.out k
    by_cases hlt : k < N
    · rcases hz with hz | ⟨b, off, rfl, hbn, hc⟩
      · omega
      obtain ⟨u, hu, hb⟩ := hc k hlt
      obtain ⟨a2, c2, rfl, _⟩ := hb.val
      have hsn := HPS.out k hlt
      have hpl2 := HPL.out (k + 1)
      generalize (ps[k]?.getD []).length = m at *
      have hb2 : pre ps k + m ≤ 65535 := by omega
      have HSN : Hid (pre ps (k + 1) = pre ps k + m) := hsn
      clear hsn hc hb hpl2
      generalize pre ps k = P0 at *
      go_wp2
      exact ⟨⟨k + 1, by omega, by simp, by have := HSN.out; simp; omega, trivial⟩, by simp [intOf]; omega⟩
    · obtain rfl : k = N := by omega
      have e1 := HPA.out
      rw [e1]
      clear hplk e1
      go_wp2_with fail
      refine Calls.mono (HY.out _ (Below.refl _ _) f.length (by omega)) ?_
      rintro _ w1 ⟨u, rfl, hu, hb1⟩
      obtain ⟨a4, c4, rfl, _⟩ := hu.val
      obtain ⟨v2, w2, hr, hP2, hb2⟩ := parts_cons hu (HV0.out.later hb1) (by omega) 76
      obtain ⟨a3, c3, rfl, _⟩ := hP2.val
      have HO : Hid _ := of_calls a3 _ c3 _ w2 hP2
      have HR : Hid _ := hr
      have HFE : Hid ((ph f.length :: ps).flatten = ph f.length ++ f) := by
        have := HF.out
        show (ph f.length :: ps).flatten = ph f.length ++ f
        rw [List.flatten_cons, this]
      have HB : Hid (Below wr.heap.size wr w2) := hb1.trans (hb2.mono hb1.size)
      rw [HFE.out] at HO
      have HBS := HB.out.size
      clear hr hP2 hu hb1 hb2
      generalize hFF : (ph f.length ++ f) = F at *
      have HFF : Hid _ := hFF
      clear hFF HFE HV0 HY HPA HPS HPL hz
      go_wp2_with (at_builtin; refine wpList_append_run rfl _ _ _ _ rfl rfl rfl HR.out ?_)
      refine Calls.mono HO.out ?_
      rintro _ w3 ⟨rfl, hb3⟩
      have HB3 : Hid _ := HB.out.trans (hb3.mono HBS)
      generalize hS : (65535 - sumW 0 (wordsL F)) = S at *
      have HS : Hid _ := hS
      clear HO hb3 HB hS
      go_wp2
      go_ret2
      exact ⟨by rw [HFF.out, HS.out]; rfl, HB3.out⟩

set_option maxHeartbeats 1000000 in
set_option maxRecDepth 100000 in
theorem check_long (o : Value) (ph : Int → List Int) (v : Value) (ps : List (List Int)) (w : World) (ho : OverI w o ph) (hv : PartsAt w.heap.size w v ps) (hn : ps.length ≤ 100) (ht : 65535 < ps.flatten.length) (ht2 : ps.flatten.length ≤ 1000000000000000000) :
    Calls Try.prog 47 #[o, v] w fun e w' => e = .returned (.tuple #[.int .u16 0, .int .i64 2]) ∧ Below w.heap.size w w' := by
  obtain ⟨hev, g, lb, rfl, eg, _, hno⟩ := ho
  obtain ⟨hlen, a, cap, rfl, hz⟩ := hv
  have HY : Hid _ := hno
  have hpa := pre_all ps
  have hps := pre_succ ps
  have hpl := pre_le ps
  clear hno hlen
  generalize hf : ps.flatten = f at *
  have HPA : Hid _ := hpa
  have HPS : Hid _ := hps
  have HPL : Hid _ := hpl
  have HF : Hid _ := hf
  generalize hN : ps.length = N at *
  have HN : Hid _ := hN
  clear hpa hps hpl hf hN
  go_enter Try.func47, Try.ntmps47
  go_wp2
  go_loopw [6, 13] (fun n i wr => ∃ k : Nat, k ≤ N ∧ i = .int .i64 k ∧ n = .int .i64 (pre ps k : Nat) ∧ wr = w) (fun _ i _ => N - (intOf i).toNat)
  case atStart => exact ⟨0, Nat.zero_le _, rfl, by simp [pre_zero], rfl⟩
  case round =>
    obtain ⟨k, hk, rfl, rfl, rfl⟩ := hrel
    have hplk := HPL.out k
    by_cases hlt : k < N
    · rcases hz with hz | ⟨b, off, rfl, hbn, hc⟩
      · omega
      obtain ⟨u, hu, hb⟩ := hc k hlt
      obtain ⟨a2, c2, rfl, _⟩ := hb.val
      have hsn := HPS.out k hlt
      have hpl2 := HPL.out (k + 1)
      generalize (ps[k]?.getD []).length = m at *
      have hb2 : pre ps k + m ≤ 1000000000000000000 := by omega
      have HSN : Hid (pre ps (k + 1) = pre ps k + m) := hsn
      clear hsn hc hb hpl2
      generalize pre ps k = P0 at *
      go_wp2
      exact ⟨⟨k + 1, by omega, by simp, by have := HSN.out; simp; omega, trivial⟩, by simp [intOf]; omega⟩
    · obtain rfl : k = N := by omega
      have e1 := HPA.out
      rw [e1]
      clear hplk e1
      go_wp2_with fail
      refine Calls.mono (HY.out _ (Below.refl _ _) f.length (by omega)) ?_
      rintro _ w1 ⟨rfl, hb1⟩
      go_wp2
      go_ret2
      exact ⟨rfl, hb1⟩

end Go.Proofs.Ytljmamogefgiaaa
