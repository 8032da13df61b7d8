/-
  The document's Parse4, of texts of any length.
  The document's Text4.
  The statement AddrFours for every argument.
-/
import Derived.Test.YtlpbffcijhgelaaDoorRa1
import Derived.Test.YtlpbffcijhgelaaDoorFold03
import Derived.Test.YtlpbffcijhgelaaDoorFold06
import Derived.Test.YtlpbffcijhgelaaDoorAgg
import Derived.Test.YtlpbffcijhgelaaDoorAddrEq
import Derived.OpenShut
import Derived.ShutString
import Derived.ChangeArms
import Derived.ChangeSame
import Derived.ProofKit
namespace Go.Proofs.YtlpbffcijhgelaaDoor
set_option linter.unusedVariables false
set_option linter.unusedSimpArgs false
open Go Go.RowKit

set_option maxHeartbeats 4000000 in
set_option maxRecDepth 100000 in
theorem Parse4_wide (s : ByteArray) (w : World) (hs : s.size ≤ 140737488355328) :
    Calls Tryd.prog 14 #[.string s] w fun e w' => Par4Post s w e w' := by
  have hl := txt_length s
  generalize hQ : (fun e w' => Par4Post s w e w') = Q
  have HQ : Hid _ := hQ
  clear hQ
  go_enter Tryd.func14, Tryd.ntmps14
  go_wp2_with fail
  have hb0 := blk_new w (.cells zero4L.toArray 23)
  have hB0 := (Below.refl w.heap.size w).alloc (Nat.le_refl _) (.cells zero4L.toArray 23)
  have hz0 : (w.alloc (.cells zero4L.toArray 23)).heap.size = w.heap.size + 1 := by simp
  generalize hW : w.alloc (.cells zero4L.toArray 23) = W0 at *
  clear hW
  go_loopw [5] (fun i wr => ∃ k : Nat, k ≤ s.size ∧ i = .int .i64 k ∧ Below W0.heap.size W0 wr ∧ begN (txt s) s.size 0 = begN (txt s) (s.size - k) k ∧ begB ((txt s).take k) = true) (fun i _ => s.size - (intOf i).toNat)
  case atStart => exact ⟨0, Nat.zero_le _, rfl, Below.refl _ _, rfl, rfl⟩
  case round =>
    obtain ⟨k, hk, rfl, hB, hN, hbk⟩ := hrel
    have hk15 : k ≤ 15 := by have := beg_len hbk; rw [List.length_take, hl] at this; omega
    clear hbk
    have HN : Hid _ := hN
    clear hN
    by_cases hlt : k < s.size
    · have hbg := begins_ref (s.extract 0 (k + 1)) wr (by rw [ByteArray.size_extract]; omega)
      rw [txt_extract, List.drop_zero, Nat.sub_zero] at hbg
      have hstep : begN (txt s) (s.size - k) k = if begB ((txt s).take (k + 1)) then begN (txt s) (s.size - (k + 1)) (k + 1) else k := by
        have e : s.size - k = (s.size - (k + 1)) + 1 := by omega
        rw [e, begN]
      cases hbb : begB ((txt s).take (k + 1)) with
      | true =>
        rw [hbb] at hbg
        have HS : Hid _ := hstep.trans (by rw [hbb, if_pos rfl] : _ = begN (txt s) (s.size - (k + 1)) (k + 1))
        have HBG : Hid _ := hbg
        have HBB : Hid (begB ((txt s).take (k + 1)) = true) := hbb
        clear hbg hstep hbb
        go_wp2_with fail
        refine Calls.mono HBG.out ?_
        rintro e w2 ⟨rfl, hB2⟩
        go_wp2
        exact ⟨⟨k + 1, by omega, by simp, hB.trans (hB2.mono hB.size), HN.out.trans HS.out, HBB.out⟩, by simp [intOf]; omega⟩
      | false =>
        rw [hbb] at hbg
        have hne : rparse4 (txt s) = ([0, 0, 0, 0], (k : Int), 20) := by
          have e : begN (txt s) (txt s).length 0 = k := by
            rw [hl, HN.out, hstep, hbb]
            rfl
          unfold rparse4
          rw [e]
          exact if_pos (.inl (by omega))
        have HNE : Hid _ := hne
        have HBG : Hid _ := hbg
        clear hbg hstep hbb hne
        go_wp2_with fail
        refine Calls.mono HBG.out ?_
        rintro e w2 ⟨rfl, hB2⟩
        have hbx := (hB2.block _ (Nat.lt_of_lt_of_le (by omega) hB.size)).trans ((hB.block w.heap.size (by omega)).trans hb0)
        have hBx : Below w.heap.size w w2 := (hB0.trans (hB.mono (by omega))).trans (hB2.mono (Nat.le_trans hB0.size hB.size))
        obtain ⟨wE, hst, bE, hon⟩ := box_store Tryd.sizeOf23 hbx rfl zero4L rfl (by simp [Value.oneCell'])
        have HST : Hid _ := hst
        have BE : Hid _ := bE
        have HBE : Hid (Below w.heap.size w wE) := hBx.trans (hon.below (Nat.le_refl _))
        clear hst bE hon hbx hBx
        go_wp2_with ((with_reducible show wpList _ _ _ _ _ _); refine arm_store rfl (.tmp 2) (.tmp 31) 23 rfl rfl rfl HST.out ?_)
        refine bodyPost_ret (res3c Tryd.results14 rfl (agg_loadVar Tryd.isAgg23 Tryd.sizeOf23 rfl (CellsAt.of_blk BE.out))) rfl ?_
        rw [← HQ.out]
        refine ⟨?_, HBE.out⟩
        rw [HNE.out]
        rfl
    · obtain rfl : k = s.size := by omega
      have hN2 : begN (txt s) (txt s).length 0 = s.size := by
        rw [hl, HN.out, Nat.sub_self]
        rfl
      have hwh := whole_ref s wr (by omega)
      cases hwb : whoB (txt s) with
      | false =>
        rw [hwb] at hwh
        have hne : rparse4 (txt s) = ([0, 0, 0, 0], (s.size : Int), 20) := by
          unfold rparse4
          rw [hN2]
          exact if_pos (.inr hwb)
        have HNE : Hid _ := hne
        have HWH : Hid _ := hwh
        clear hwh hwb hne HN hN2
        go_wp2_with fail
        refine Calls.mono HWH.out ?_
        rintro e w2 ⟨rfl, hB2⟩
        have hbx := (hB2.block _ (Nat.lt_of_lt_of_le (by omega) hB.size)).trans ((hB.block w.heap.size (by omega)).trans hb0)
        have hBx : Below w.heap.size w w2 := (hB0.trans (hB.mono (by omega))).trans (hB2.mono (Nat.le_trans hB0.size hB.size))
        obtain ⟨wE, hst, bE, hon⟩ := box_store Tryd.sizeOf23 hbx rfl zero4L rfl (by simp [Value.oneCell'])
        have HST : Hid _ := hst
        have BE : Hid _ := bE
        have HBE : Hid (Below w.heap.size w wE) := hBx.trans (hon.below (Nat.le_refl _))
        clear hst bE hon hbx hBx
        go_wp2_with ((with_reducible show wpList _ _ _ _ _ _); refine arm_store rfl (.tmp 2) (.tmp 31) 23 rfl rfl rfl HST.out ?_)
        refine bodyPost_ret (res3c Tryd.results14 rfl (agg_loadVar Tryd.isAgg23 Tryd.sizeOf23 rfl (CellsAt.of_blk BE.out))) rfl ?_
        rw [← HQ.out]
        refine ⟨?_, HBE.out⟩
        rw [HNE.out]
        rfl
      | true =>
        rw [hwb] at hwh
        have hne : rparse4 (txt s) = ((splitA 46 [] (txt s)).map (numF 0), 0, 0) := by
          unfold rparse4
          rw [hN2]
          exact if_neg (by simp [hwb, hl])
        have HNE : Hid _ := hne
        have HWH : Hid _ := hwh
        have hpp := whoB_parts hwb
        have HPP : Hid _ := hpp
        clear hwh hwb hne HN hN2 hpp
        go_wp2_with fail
        refine Calls.mono HWH.out ?_
        rintro e w2 ⟨rfl, hB2⟩
        have hbx := (hB2.block _ (Nat.lt_of_lt_of_le (by omega) hB.size)).trans ((hB.block w.heap.size (by omega)).trans hb0)
        have hBx : Below w.heap.size w w2 := (hB0.trans (hB.mono (by omega))).trans (hB2.mono (Nat.le_trans hB0.size hB.size))
        have hlt2 : w.heap.size < w2.heap.size := Nat.lt_of_lt_of_le (by omega) (Nat.le_trans hB.size hB2.size)
        go_wp2_with fail
        refine (split_ref s 46 w2 (by decide) (by omega)).mono ?_
        rintro e w3 ⟨v, bs, rfl, hown, hbs, hB3⟩
        obtain ⟨a, cap, rfl, hlen, hz⟩ := own_form hown
        have h4 : bs.length = 4 := by
          have := congrArg List.length hbs
          rw [List.length_map, HPP.out.1] at this
          exact this
        have hbx := (hB3.block _ hlt2).trans hbx
        have hBx := hBx.trans (hB3.mono hBx.size)
        have HBS : Hid _ := hbs
        clear hown hbs
        rcases hz with hz | ⟨g, rfl, hgb, hg, hc⟩
        · omega
        obtain ⟨w4, hst, b4, hB4⟩ := box_new Tryd.sizeOf23 w3 zero4L rfl zero4L rfl (by simp [Value.oneCell'])
        have HST : Hid _ := hst
        clear hst
        go_wp2_with ((with_reducible show wpList _ _ _ _ _ _); refine arm_store rfl (.tmp 7) (.tmp 35) 23 rfl rfl rfl HST.out ?_)
        have hps : (bs.map txt).length = 4 := by rw [List.length_map]; exact h4
        have hne : w.heap.size ≠ w3.heap.size := by have := hB3.size; omega
        have hlt3 : w.heap.size < w3.heap.size := by have := hB3.size; omega
        go_loopw [8] (fun i wr => ∃ k : Nat, k ≤ 4 ∧ i = .int .i64 k ∧ wr.heap[w3.heap.size]? = some (.cells (b8 (numK (bs.map txt) k)).toArray 23) ∧ Only w3.heap.size w4 wr) (fun i _ => 4 - (intOf i).toNat)
        case atStart => exact ⟨0, Nat.zero_le _, rfl, b4, Only.refl _ _⟩
        case round =>
          clear hB
          obtain ⟨k, hk, rfl, hbk, hon⟩ := hrel
          by_cases hlt4 : k < 4
          · have hb : bs[k]? = some bs[k] := by simp [h4, hlt4]
            have hcel := ((hon.below (Nat.le_refl _)).cell (p := ⟨g, k, none⟩) hg).trans ((hB4.cell (p := ⟨g, k, none⟩) hg).trans (hc k (.string bs[k]) (by rw [strsV, List.getElem?_map, hb]; rfl)))
            have hpk : (bs.map txt)[k]? = some (txt bs[k]) := by rw [List.getElem?_map, hb]; rfl
            have hgood := octB_good (HPP.out.2 (txt bs[k]) (by rw [← HBS.out]; exact List.mem_of_getElem? hpk)) (by decide)
            have HNX : Hid _ := numK_next (bs.map txt) k (txt bs[k]) hps hpk
            have hlen4 := numK_length (bs.map txt) k hps hk
            clear hb hpk
            generalize bs[k] = b at *
            have hnum := number_ref b wr hgood.1 (by have := hgood.2.1; rw [txt_length] at this; omega)
            have hr := hgood.2.2
            have HNU : Hid _ := hnum
            clear hgood hnum
            generalize numF 0 (txt b) = n at *
            have hfz := blk_open hbk k
            have hcl : wr.cell? ⟨w3.heap.size, k, none⟩ = some ((b8 (numK (bs.map txt) k))[k]'(by rw [b8_length]; omega)) := blk_cell hbk (List.getElem?_eq_getElem _)
            have hset := blk_set hbk k (.int .u8 n)
            rw [b8_set, HNX.out] at hset
            have hon' := hon.set k (.int .u8 n)
            generalize (b8 (numK (bs.map txt) k))[k]'(by rw [b8_length]; omega) = old at *
            have HSE : Hid _ := hset
            have HON : Hid _ := hon'
            clear hset hon' hon hbk
            have hwr : IntKind.u8.wrap n = n := by unfold IntKind.wrap; simp [IntKind.signed, IntKind.bits]; omega
            go_wp2_with fail
            refine Calls.mono HNU.out ?_
            rintro e w5 ⟨rfl, rfl⟩
            go_wp2
            exact ⟨⟨k + 1, by omega, by simp, HSE.out, HON.out⟩, by simp [intOf]; omega⟩
          · obtain rfl : k = 4 := by omega
            rw [numK_all _ hps, HBS.out] at hbk
            have hl4 := HPP.out.1
            have hbR := ((hon.below (B := w3.heap.size) (Nat.le_refl _)).block _ hlt3).trans ((hB4.block _ hlt3).trans hbx)
            have hBR : Below w.heap.size w wr := (hBx.trans (hB4.mono hBx.size)).trans (hon.below (by omega))
            have hL := agg_load (t := 23) Tryd.isAgg23 Tryd.sizeOf23 (vs := b8 ((splitA 46 [] (txt s)).map (numF 0))) (by rw [b8_length, List.length_map]; exact hl4) (CellsAt.of_blk hbk)
            obtain ⟨wE, hst, bE, honE⟩ := box_store Tryd.sizeOf23 hbR rfl (b8 ((splitA 46 [] (txt s)).map (numF 0))) (by rw [b8_length, List.length_map]; exact hl4) (b8_one _)
            have hlv := agg_loadVar (t := 23) Tryd.isAgg23 Tryd.sizeOf23 (vs := b8 ((splitA 46 [] (txt s)).map (numF 0))) (by rw [b8_length, List.length_map]; exact hl4) (CellsAt.of_blk bE)
            have HBE : Hid (Below w.heap.size w wE) := hBR.trans (honE.below (Nat.le_refl _))
            have HL : Hid _ := hL
            have HSQ : Hid _ := hst
            have HLV : Hid _ := hlv
            clear hL hst hlv bE honE hbR hBR hbk hon
            go_wp2_with first
              | ((with_reducible show wpList _ _ _ _ _ _); refine arm_load rfl (.tmp 7) 23 rfl rfl HL.out ?_)
              | ((with_reducible show wpList _ _ _ _ _ _); refine arm_store rfl (.tmp 2) (.tmp 48) 23 rfl rfl rfl HSQ.out ?_)
            refine bodyPost_ret (res3c Tryd.results14 rfl HLV.out) rfl ?_
            rw [← HQ.out]
            refine ⟨?_, HBE.out⟩
            rw [HNE.out]
            rfl

end Go.Proofs.YtlpbffcijhgelaaDoor

namespace Go.Proofs.YtlpbffcijhgelaaDoor
open Go Go.RowKit
set_option linter.unusedVariables false
set_option linter.unusedSimpArgs false

/-- The text of the first k bytes. -/
def tx4 (l : List Int) : Nat → List UInt8
  | 0 => []
  | k + 1 => (if k = 0 then tx4 l k else tx4 l k ++ [46]) ++ Lib.itoa (l[k]?.getD 0)
theorem tx4_all (a0 a1 a2 a3 : Int) : tx4 [a0, a1, a2, a3] 4 = text4 [a0, a1, a2, a3] := by
  simp [tx4, text4, Lib.join_cons, Lib.joinTail]
theorem tx4_len {l : List Int} (h : ∀ k, k < 4 → Byte (l[k]?.getD 0)) : ∀ k, k ≤ 4 → (tx4 l k).length ≤ 1001 * k
  | 0, _ => by simp [tx4]
  | k + 1, hk => by
    have ih := tx4_len h k (by omega)
    have hi := itoa_len (h k (by omega))
    rw [tx4]
    split <;> simp <;> omega
theorem str_app (a b : List UInt8) : (⟨a.toArray⟩ : ByteArray) ++ (⟨b.toArray⟩ : ByteArray) = ⟨(a ++ b).toArray⟩ := by
  apply ByteArray.ext
  simp [ByteArray.data_append]

set_option maxHeartbeats 2000000 in
set_option maxRecDepth 100000 in
theorem RText4_calls (a0 a1 a2 a3 : Int) (h0 : Byte a0) (h1 : Byte a1) (h2 : Byte a2) (h3 : Byte a3) (w : World) (ht : Tabs w) :
    Calls Tryd.prog 16 #[addrV [a0, a1, a2, a3]] w fun e w' => e = .returned (strV (text4 [a0, a1, a2, a3])) ∧ Below w.heap.size w w' := by
  show Calls Tryd.prog _ #[.agg #[.int .u8 a0, .int .u8 a1, .int .u8 a2, .int .u8 a3]] w _
  rw [← tx4_all]
  have HT : Hid _ := ht
  clear ht
  have b0 : 0 ≤ a0 ∧ a0 < 256 := h0
  have b1 : 0 ≤ a1 ∧ a1 < 256 := h1
  have b2 : 0 ≤ a2 ∧ a2 < 256 := h2
  have b3 : 0 ≤ a3 ∧ a3 < 256 := h3
  have hB1 : Below w.heap.size w (w.alloc (.cells #[.int .u8 a0, .int .u8 a1, .int .u8 a2, .int .u8 a3] 23)) := (Below.refl _ w).alloc (Nat.le_refl _) _
  have hk := heap_alloc_new w (.cells #[.int .u8 a0, .int .u8 a1, .int .u8 a2, .int .u8 a3] 23)
  have hz : w.heap.size < (w.alloc (.cells #[.int .u8 a0, .int .u8 a1, .int .u8 a2, .int .u8 a3] 23)).heap.size := by simp
  go_enter Tryd.func16, Tryd.ntmps16
  go_wp2_with fail
  generalize w.alloc (.cells #[.int .u8 a0, .int .u8 a1, .int .u8 a2, .int .u8 a3] 23) = w1 at *
  go_loopw [3, 4] (fun v3 v4 wr => ∃ (k : Nat), v4 = .int .i64 k ∧ k ≤ 4 ∧ v3 = strV (tx4 [a0, a1, a2, a3] k) ∧ Below w1.heap.size w1 wr) (fun _ v4 _ => 4 - (intOf v4).toNat)
  case atStart => exact ⟨0, rfl, by decide, rfl, Below.refl _ _⟩
  case round =>
    obtain ⟨k, rfl, hkk, rfl, hb⟩ := hrel
    have hbk := (hb.block _ hz).trans hk
    have c0 : wr.cell? ⟨w.heap.size, 0, none⟩ = some (.int .u8 a0) := by simp [World.cell?, hbk]
    have c1 : wr.cell? ⟨w.heap.size, 1, none⟩ = some (.int .u8 a1) := by simp [World.cell?, hbk]
    have c2 : wr.cell? ⟨w.heap.size, 2, none⟩ = some (.int .u8 a2) := by simp [World.cell?, hbk]
    have c3 : wr.cell? ⟨w.heap.size, 3, none⟩ = some (.int .u8 a3) := by simp [World.cell?, hbk]
    have hT := HT.out wr (hB1.trans (hb.mono hB1.size))
    have hlen := tx4_len (l := [a0, a1, a2, a3]) (fun k hk => by
      match k, hk with
      | 0, _ => exact h0
      | 1, _ => exact h1
      | 2, _ => exact h2
      | 3, _ => exact h3) k hkk
    have hcase : k = 0 ∨ k = 1 ∨ k = 2 ∨ k = 3 ∨ k = 4 := by omega
    rcases hcase with rfl | rfl | rfl | rfl | rfl
    · have hC := itoa_calls a0 h0 wr hT
      have HC : Hid (Calls Tryd.prog 54 #[.int .i64 a0] wr fun e w' => e = .returned (.string ⟨(Lib.itoa a0).toArray⟩) ∧ Below wr.heap.size wr w') := hC
      have HX : Hid (tx4 [a0, a1, a2, a3] 1 = tx4 [a0, a1, a2, a3] 0 ++ Lib.itoa a0) := rfl
      have hY := itoa_len h0
      clear hC hT
      generalize tx4 [a0, a1, a2, a3] 0 = X at *
      generalize Lib.itoa a0 = Y at *
      go_wp2_with fail
      refine Calls.mono HC.out ?_
      rintro e W1 ⟨rfl, hb1⟩
      go_wp2
      refine ⟨⟨1, rfl, by decide, ?_, hb.trans (hb1.mono hb.size)⟩, by simp [intOf]⟩
      rw [HX.out]
      exact congrArg Value.string (str_app X Y)
    · have hC := itoa_calls a1 h1 wr hT
      have HC : Hid (Calls Tryd.prog 54 #[.int .i64 a1] wr fun e w' => e = .returned (.string ⟨(Lib.itoa a1).toArray⟩) ∧ Below wr.heap.size wr w') := hC
      have HX : Hid (tx4 [a0, a1, a2, a3] 2 = (tx4 [a0, a1, a2, a3] 1 ++ [46]) ++ Lib.itoa a1) := rfl
      have hY := itoa_len h1
      clear hC hT
      generalize tx4 [a0, a1, a2, a3] 1 = X at *
      generalize Lib.itoa a1 = Y at *
      go_wp2_with fail
      refine Calls.mono HC.out ?_
      rintro e W1 ⟨rfl, hb1⟩
      go_wp2
      refine ⟨⟨2, rfl, by decide, ?_, hb.trans (hb1.mono hb.size)⟩, by simp [intOf]⟩
      rw [HX.out]
      exact congrArg Value.string ((congrArg (· ++ (⟨Y.toArray⟩ : ByteArray)) (str_app X [46])).trans (str_app (X ++ [46]) Y))
    · have hC := itoa_calls a2 h2 wr hT
      have HC : Hid (Calls Tryd.prog 54 #[.int .i64 a2] wr fun e w' => e = .returned (.string ⟨(Lib.itoa a2).toArray⟩) ∧ Below wr.heap.size wr w') := hC
      have HX : Hid (tx4 [a0, a1, a2, a3] 3 = (tx4 [a0, a1, a2, a3] 2 ++ [46]) ++ Lib.itoa a2) := rfl
      have hY := itoa_len h2
      clear hC hT
      generalize tx4 [a0, a1, a2, a3] 2 = X at *
      generalize Lib.itoa a2 = Y at *
      go_wp2_with fail
      refine Calls.mono HC.out ?_
      rintro e W1 ⟨rfl, hb1⟩
      go_wp2
      refine ⟨⟨3, rfl, by decide, ?_, hb.trans (hb1.mono hb.size)⟩, by simp [intOf]⟩
      rw [HX.out]
      exact congrArg Value.string ((congrArg (· ++ (⟨Y.toArray⟩ : ByteArray)) (str_app X [46])).trans (str_app (X ++ [46]) Y))
    · have hC := itoa_calls a3 h3 wr hT
      have HC : Hid (Calls Tryd.prog 54 #[.int .i64 a3] wr fun e w' => e = .returned (.string ⟨(Lib.itoa a3).toArray⟩) ∧ Below wr.heap.size wr w') := hC
      have HX : Hid (tx4 [a0, a1, a2, a3] 4 = (tx4 [a0, a1, a2, a3] 3 ++ [46]) ++ Lib.itoa a3) := rfl
      have hY := itoa_len h3
      clear hC hT
      generalize tx4 [a0, a1, a2, a3] 3 = X at *
      generalize Lib.itoa a3 = Y at *
      go_wp2_with fail
      refine Calls.mono HC.out ?_
      rintro e W1 ⟨rfl, hb1⟩
      go_wp2
      refine ⟨⟨4, rfl, by decide, ?_, hb.trans (hb1.mono hb.size)⟩, by simp [intOf]⟩
      rw [HX.out]
      exact congrArg Value.string ((congrArg (· ++ (⟨Y.toArray⟩ : ByteArray)) (str_app X [46])).trans (str_app (X ++ [46]) Y))
    · go_wp2
      go_ret
      exact ⟨rfl, hB1.trans (hb.mono hB1.size)⟩

end Go.Proofs.YtlpbffcijhgelaaDoor

namespace Go.Proofs.YtlpbffcijhgelaaDoor
open Go Go.RowKit Go.ChangeShapes Go.WideShapes Go.ChangeAt
set_option linter.unusedVariables false
set_option linter.unusedSimpArgs false

theorem dot_read_ok : ∀ (l : List UInt8) (pos : Nat) (d d' : Dot), d.Ok → dotReader.read l pos d = .good d' → d'.Ok
  | [], pos, d, d', hd, h => by
    unfold Reader.read at h
    split at h
    · cases h; exact hd
    · cases h
  | c :: l, pos, d, d', hd, h => by
    unfold Reader.read at h
    have e : dotReader.take d ((c.toNat : Nat) : Int) = d.take ((c.toNat : Nat) : Int) := rfl
    rw [e] at h
    cases ht : d.take ((c.toNat : Nat) : Int) with
    | none => rw [ht] at h; cases h
    | some d2 =>
      rw [ht] at h
      exact dot_read_ok l (pos + 1) d2 d' (Dot.take_ok ht hd) h
theorem parse4_four (l : List UInt8) : ∃ x0 x1 x2 x3 : Int, (parse4 l).1 = [x0, x1, x2, x3] ∧ FitB [x0, x1, x2, x3] := by
  unfold parse4
  cases hr : dotReader.read l 0 Dot.new with
  | bad n => exact ⟨_, _, _, _, rfl, fun z hz => by simp at hz; omega⟩
  | good d =>
    have hd := dot_read_ok l 0 Dot.new d Dot.ok_new hr
    have b0 : 0 ≤ d.e0 ∧ d.e0 < 256 := hd.e0
    have b1 : 0 ≤ d.e1 ∧ d.e1 < 256 := hd.e1
    have b2 : 0 ≤ d.e2 ∧ d.e2 < 256 := hd.e2
    have b3 : 0 ≤ d.num.value ∧ d.num.value ≤ 255 := hd.num
    refine ⟨_, _, _, _, rfl, fun z hz => ?_⟩
    simp at hz
    rcases hz with rfl | rfl | rfl | rfl <;> omega
theorem parse4_all (s : ByteArray) (hs : s.size ≤ 140737488355328) : ∃ (x0 x1 x2 x3 n e : Int), FitB [x0, x1, x2, x3] ∧
    (∀ W, Calls Tryd.prog 13 #[.string s] W fun e' w' => e' = .returned (.tuple #[.agg #[.int .u8 x0, .int .u8 x1, .int .u8 x2, .int .u8 x3], .int .i64 n, .int .i64 e]) ∧ Below W.heap.size W w') ∧
    (∀ W, Calls Tryd.prog 14 #[.string s] W fun e' w' => e' = .returned (.tuple #[.agg #[.int .u8 x0, .int .u8 x1, .int .u8 x2, .int .u8 x3], .int .i64 n, .int .i64 e]) ∧ Below W.heap.size W w') := by
  obtain ⟨x0, x1, x2, x3, hx, hfx⟩ := parse4_four s.data.toList
  refine ⟨x0, x1, x2, x3, ((parse4 s.data.toList).2.1 : Int), (parse4 s.data.toList).2.2, hfx, fun W => ?_, fun W => ?_⟩
  · have h := parse4_calls s hs W
    rw [hx] at h
    exact h
  · have h := Parse4_wide s W hs
    unfold Par4Post at h
    have e : rparse4 (txt s) = ((parse4 s.data.toList).1, ((parse4 s.data.toList).2.1 : Int), (parse4 s.data.toList).2.2) := parse_both s.data.toList
    rw [e, hx] at h
    exact h

set_option maxHeartbeats 4000000 in
set_option maxRecDepth 100000 in
theorem addrFours_walk (s : ByteArray) (hs : s.size ≤ 140737488355328) (a0 a1 a2 a3 : Int) (h0 : Byte a0) (h1 : Byte a1) (h2 : Byte a2) (h3 : Byte a3) (w : World) (tb : Tabs w ∧ Tz w) :
    Calls Tryd.prog 3 #[.string s, .agg #[.int .u8 a0, .int .u8 a1, .int .u8 a2, .int .u8 a3]] w fun e w' => e = .returned (.bool true) ∧ Below w.heap.size w w' := by
  obtain ⟨x0, x1, x2, x3, n, er, hfx, g1, g2⟩ := parse4_all s hs
  have eqx9999 : ∀ W, (Op.equalIn 9999 23 (.agg #[.int .u8 x0, .int .u8 x1, .int .u8 x2, .int .u8 x3]) (.agg #[.int .u8 x0, .int .u8 x1, .int .u8 x2, .int .u8 x3])).run Tryd.prog W = .ok true W := fun W => by
    have := eq_arr4 9997 [x0, x1, x2, x3] [x0, x1, x2, x3] hfx hfx rfl rfl W
    rwa [decide_eq_true rfl] at this
  have eqx10000 : ∀ W, (Op.equalIn 10000 23 (.agg #[.int .u8 x0, .int .u8 x1, .int .u8 x2, .int .u8 x3]) (.agg #[.int .u8 x0, .int .u8 x1, .int .u8 x2, .int .u8 x3])).run Tryd.prog W = .ok true W := fun W => by
    have := eq_arr4 9998 [x0, x1, x2, x3] [x0, x1, x2, x3] hfx hfx rfl rfl W
    rwa [decide_eq_true rfl] at this
  have H1 : Hid _ := g1
  have H2 : Hid _ := g2
  have HT1 : Hid (∀ W, Below w.heap.size w W → Calls Tryd.prog 15 #[.agg #[.int .u8 a0, .int .u8 a1, .int .u8 a2, .int .u8 a3]] W fun e w' => e = .returned (strV (text4 [a0, a1, a2, a3])) ∧ Below W.heap.size W w') := fun W hW => text4_calls a0 a1 a2 a3 h0 h1 h2 h3 W (Tabs.on tb.1 hW)
  have HT2 : Hid (∀ W, Below w.heap.size w W → Calls Tryd.prog 16 #[.agg #[.int .u8 a0, .int .u8 a1, .int .u8 a2, .int .u8 a3]] W fun e w' => e = .returned (strV (text4 [a0, a1, a2, a3])) ∧ Below W.heap.size W w') := fun W hW => RText4_calls a0 a1 a2 a3 h0 h1 h2 h3 W (Tabs.on tb.1 hW)
  have HAW : Hid (∀ W, Below w.heap.size w W → Calls Tryd.prog 17 #[] W fun e w' => e = .returned (.bool true) ∧ Below W.heap.size W w') := fun W hW => Awake.on tb W hW
  have hB := (Below.refl w.heap.size w).alloc (Nat.le_refl _) (.cells #[.int .u8 a0, .int .u8 a1, .int .u8 a2, .int .u8 a3] 23)
  have hk := blk_new w (.cells #[.int .u8 a0, .int .u8 a1, .int .u8 a2, .int .u8 a3] 23)
  clear g1 g2 tb
  generalize text4 [a0, a1, a2, a3] = T at *
  go_enter Tryd.func3, Tryd.ntmps3
  go_wp2_with fail
  refine (H1.out _).mono ?_
  rintro e w2 ⟨rfl, hB2⟩
  have hk2 := blk_on hk hB2
  have hBw2 := hB.trans (hB2.mono hB.size)
  have hb5 := blk_new w2 (.cells #[.int .u8 x0, .int .u8 x1, .int .u8 x2, .int .u8 x3] 23)
  have hk3 := blk_alloc hk2 (.cells #[.int .u8 x0, .int .u8 x1, .int .u8 x2, .int .u8 x3] 23)
  have hBw3 := hBw2.alloc hBw2.size (.cells #[.int .u8 x0, .int .u8 x1, .int .u8 x2, .int .u8 x3] 23)
  clear hk hk2 hB2 hB H1
  go_wp2_with fail
  refine (H2.out _).mono ?_
  rintro e w4 ⟨rfl, hB4⟩
  have hk4 := blk_alloc (blk_on hk3 hB4) (.cells #[.int .u8 x0, .int .u8 x1, .int .u8 x2, .int .u8 x3] 23)
  have hb54 := blk_alloc (blk_on hb5 hB4) (.cells #[.int .u8 x0, .int .u8 x1, .int .u8 x2, .int .u8 x3] 23)
  have hb8 := blk_new w4 (.cells #[.int .u8 x0, .int .u8 x1, .int .u8 x2, .int .u8 x3] 23)
  have hBw4 := hBw3.trans (hB4.mono hBw3.size)
  have hBw5 := hBw4.alloc hBw4.size (.cells #[.int .u8 x0, .int .u8 x1, .int .u8 x2, .int .u8 x3] 23)
  obtain ⟨p0, p1, p2, p3⟩ := Hi.cell4 hk4
  obtain ⟨q0, q1, q2, q3⟩ := Hi.cell4 hb54
  obtain ⟨r0, r1, r2, r3⟩ := Hi.cell4 hb8
  have HBW : Hid _ := hBw5
  have e1 : (n == n) = true := beq_self_eq_true n
  have e2 : (er == er) = true := beq_self_eq_true er
  clear hk3 hb5 hB4 hk4 hb54 hb8 hBw2 hBw3 hBw4 hBw5 H2
  go_wp2_with fail
  refine wp_region_hi (by kernel_rfl) (by kernel_rfl) ?_
  repeat (go_big_quiet_step (first | (go_at_call 15; exact Hi.calls (HT1.out _ (HBW.out.trans ((Hi.below _).mono HBW.out.size)))) | (go_at_call 16; exact Hi.calls (HT2.out _ (HBW.out.trans ((Hi.below _).mono HBW.out.size)))) | (go_at_call 17; exact Hi.calls (HAW.out _ (HBW.out.trans ((Hi.below _).mono HBW.out.size))))))
  refine wpQuiet_nil ?_
  intro _ hw
  obtain ⟨y, rfl⟩ := hw
  go_wp2
  go_ret
  exact ⟨rfl, HBW.out.trans (y.below.mono HBW.out.size)⟩

theorem cells_arrR {H : Type} {enc : TypeId × Value → H} {w : World} {base : Nat} {spare : Nat → Bool} {held : Bool} {fuel : Nat} {t : TypeId} {cs : List Value} {x : DataW H × List MemPlace} {n : Nat}
    (ht : Tryd.prog.underlying t = some (.array n 5)) (ct : Tryd.prog.cellsOf t = n) (ce : Tryd.prog.cellsOf 5 = 1) (h : DataW.trod enc Tryd.prog w base spare held fuel t cs = some x) :
    ∃ zs : List Int, zs.length = n ∧ cs = zs.map (fun z => Value.int .u8 z) ∧ ∀ z ∈ zs, 0 ≤ z ∧ z < 256 := by
  obtain ⟨xs, m, _, _, hl, hx, hi⟩ := DataW.trod_array ht h
  rw [ct] at hl
  have each : ∀ i, i < n → ∃ z : Int, cs[i]? = some (.int .u8 z) ∧ 0 ≤ z ∧ z < 256 := by
    intro i hin
    have h1 := hi i hin
    rw [ce, Nat.mul_one, List.getElem?_eq_getElem (by omega)] at h1
    obtain ⟨z, e, _, wf⟩ := DataW.trod_int Tryd.underlying5 h1
    have hb := bounds_u8 wf
    refine ⟨z, ?_, by omega, by omega⟩
    have e2 := congrArg (fun l : List Value => l[0]?) e
    simpa [List.getElem?_take, List.getElem?_drop] using e2
  refine ⟨cs.map intOf, by simpa using hl, ?_, ?_⟩
  · refine List.ext_getElem? fun i => ?_
    by_cases c : i < n
    · obtain ⟨z, hz, _⟩ := each i c
      simp [hz, intOf]
    · rw [List.getElem?_eq_none (by omega), List.getElem?_eq_none (by simp; omega)]
  · intro z hz
    obtain ⟨v, hv, rfl⟩ := List.mem_map.1 hz
    obtain ⟨i, hi', e⟩ := List.getElem_of_mem hv
    obtain ⟨z, hz2, hb⟩ := each i (by omega)
    rw [List.getElem?_eq_getElem hi', e] at hz2
    cases hz2
    exact hb
theorem agg_ofR {v : Value} {l : List Value} (h : v.cells.toList = l) (hl : 2 ≤ l.length) : v = .agg l.toArray := by
  cases v
  case agg cs => simp only [Value.cells] at h; rw [← h]
  all_goals (simp [Value.cells] at h; subst h; simp at hl)
set_option maxRecDepth 100000 in
theorem open_four {H : Type} {enc : TypeId × Value → H} {W : World} {v : Value} {d : DataW H} {p : List MemPlace} (h : DataW.Trod enc Tryd.prog W 0 (fun _ => true) true 23 v d p) :
    ∃ a0 a1 a2 a3, v = .agg #[.int .u8 a0, .int .u8 a1, .int .u8 a2, .int .u8 a3] ∧ Byte a0 ∧ Byte a1 ∧ Byte a2 ∧ Byte a3 := by
  obtain ⟨fuel, hf⟩ := h
  obtain ⟨zs, hl, hcs, hfit⟩ := cells_arrR Tryd.underlying23 (by kernel_rfl) (by kernel_rfl) hf
  have hv := agg_ofR hcs (by simp; omega)
  match zs, hl with
  | [x0, x1, x2, x3], _ => exact ⟨x0, x1, x2, x3, hv, hfit _ (by simp), hfit _ (by simp), hfit _ (by simp), hfit _ (by simp)⟩
set_option maxRecDepth 100000 in
theorem open_text {H : Type} {enc : TypeId × Value → H} {W : World} {base : Nat} {v : Value} {d : DataW H} {p : List MemPlace} (o : Value.okWide Tryd.prog W .any base 9 v) (h : DataW.Trod enc Tryd.prog W 0 (fun _ => true) true 9 v d p) (z : ∀ k ∈ d.weights Tryd.prog 9, k ≤ reachBytes) :
    ∃ s : ByteArray, v = .string s ∧ s.size ≤ 140737488351232 := by
  obtain ⟨s, rfl, rfl, _, _⟩ := Go.ChangeMaps.open_string Tryd.underlying9 o h
  refine ⟨s, rfl, ?_⟩
  have h1 := z s.data.toList.length (by simp [DataW.weights])
  have h2 : reachBytes = 140737488351232 := rfl
  rw [h2] at h1
  exact h1

set_option maxRecDepth 100000 in
theorem addrFours_open {H : Type} {enc : TypeId × Value → H} {W : World} {base : Nat} (tb : Tabs W ∧ Tz W) (v0 v1 : Value) {d0 d1 : DataW H} {p0 p1 : List MemPlace}
    (o0 : Value.okWide Tryd.prog W .any base 9 v0) (h0 : DataW.Trod enc Tryd.prog W 0 (fun _ => true) true 9 v0 d0 p0) (z0 : ∀ k ∈ d0.weights Tryd.prog 9, k ≤ reachBytes)
    (o1 : Value.okWide Tryd.prog W .any base 23 v1) (h1 : DataW.Trod enc Tryd.prog W 0 (fun _ => true) true 23 v1 d1 p1) (z1 : ∀ k ∈ d1.weights Tryd.prog 23, k ≤ reachBytes) :
    Calls Tryd.prog 3 #[v0, v1] W fun e w' => e = .returned (.bool true) ∧ Below W.heap.size W w' := by
  obtain ⟨s, rfl, hs⟩ := open_text o0 h0 z0
  obtain ⟨a0, a1, a2, a3, rfl, f0, f1, f2, f3⟩ := open_four h1
  exact addrFours_walk s (by omega) a0 a1 a2 a3 f0 f1 f2 f3 W tb

end Go.Proofs.YtlpbffcijhgelaaDoor
