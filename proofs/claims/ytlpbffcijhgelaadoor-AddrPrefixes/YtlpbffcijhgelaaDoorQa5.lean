/-
  The document's Parse4.
-/
import Derived.Test.YtlpbffcijhgelaaDoorQa4
namespace Go.Proofs.YtlpbffcijhgelaaDoor
set_option linter.unusedVariables false
set_option linter.unusedSimpArgs false
open Go Go.RowKit

abbrev zero4L : List Value := [.int .u8 0, .int .u8 0, .int .u8 0, .int .u8 0]

/-- An address that a parser answers, the place of its fault, and its error. -/
def Par4 (r : List Int × Int × Int) : Value := .tuple #[.agg (b8 r.1).toArray, .int .i64 r.2.1, .int .i64 r.2.2]

def Par4Post (s : ByteArray) (w : World) (e : Ending) (w' : World) : Prop := e = .returned (Par4 (rparse4 (txt s))) ∧ Below w.heap.size w w'

/-- What four parts have become of, the first k of them. -/
def numK (ps : List (List Int)) (k : Nat) : List Int := (ps.map (numF 0)).take k ++ List.replicate (4 - k) 0

theorem numK_next (ps : List (List Int)) (k : Nat) (p : List Int) (h4 : ps.length = 4) (h : ps[k]? = some p) : (numK ps k).set k (numF 0 p) = numK ps (k + 1) := by
  obtain ⟨hk, rfl⟩ := List.getElem?_eq_some_iff.1 h
  match ps, h4, k, hk with
  | [a, b, c, d], _, 0, _ => rfl
  | [a, b, c, d], _, 1, _ => rfl
  | [a, b, c, d], _, 2, _ => rfl
  | [a, b, c, d], _, 3, _ => rfl
theorem numK_length (ps : List (List Int)) (k : Nat) (h4 : ps.length = 4) (hk : k ≤ 4) : (numK ps k).length = 4 := by
  simp [numK, h4]
  omega
theorem numK_all (ps : List (List Int)) (h4 : ps.length = 4) : numK ps 4 = ps.map (numF 0) := by
  match ps, h4 with
  | [a, b, c, d], _ => rfl

set_option maxHeartbeats 4000000 in
set_option maxRecDepth 100000 in
theorem Parse4_ref (s : ByteArray) (w : World) (hs : s.size ≤ 99999) :
    Calls Tryd.prog 14 #[.string s] w fun e w' => Par4Post s w e w' := by
  have hl := txt_length s
  generalize hQ : (fun e w' => Par4Post s w e w') = Q
  have HQ : Hid _ := hQ
  clear hQ
  go_enter Tryd.func14, Tryd.ntmps14
  go_wp2_with fail
  have hb0 := blk_new w (.cells zero4L.toArray 23)
  have hB0 := (Below.refl w.heap.size w).alloc (Nat.le_refl _) (.cells zero4L.toArray 23)
  have hz0 : (w.alloc (.cells zero4L.toArray 23)).heap.size = w.heap.size + 1 := by simp
  generalize hW : w.alloc (.cells zero4L.toArray 23) = W0 at *
  clear hW
  go_loopw [5] (fun i wr => ∃ k : Nat, k ≤ s.size ∧ i = .int .i64 k ∧ Below W0.heap.size W0 wr ∧ begN (txt s) s.size 0 = begN (txt s) (s.size - k) k) (fun i _ => s.size - (intOf i).toNat)
  case atStart => exact ⟨0, Nat.zero_le _, rfl, Below.refl _ _, rfl⟩
  case round =>
    obtain ⟨k, hk, rfl, hB, hN⟩ := hrel
    have HN : Hid _ := hN
    clear hN
    by_cases hlt : k < s.size
    · have hbg := begins_ref (s.extract 0 (k + 1)) wr (by rw [ByteArray.size_extract]; omega)
      rw [txt_extract, List.drop_zero, Nat.sub_zero] at hbg
      have hstep : begN (txt s) (s.size - k) k = if begB ((txt s).take (k + 1)) then begN (txt s) (s.size - (k + 1)) (k + 1) else k := by
        have e : s.size - k = (s.size - (k + 1)) + 1 := by omega
        rw [e, begN]
      cases hbb : begB ((txt s).take (k + 1)) with
      | true =>
        rw [hbb] at hbg
        have HS : Hid _ := hstep.trans (by rw [hbb, if_pos rfl] : _ = begN (txt s) (s.size - (k + 1)) (k + 1))
        have HBG : Hid _ := hbg
        clear hbg hstep hbb
        go_wp2_with fail
        refine Calls.mono HBG.out ?_
        rintro e w2 ⟨rfl, hB2⟩
        go_wp2
        exact ⟨⟨k + 1, by omega, by simp, hB.trans (hB2.mono hB.size), HN.out.trans HS.out⟩, by simp [intOf]; omega⟩
      | false =>
        rw [hbb] at hbg
        have hne : rparse4 (txt s) = ([0, 0, 0, 0], (k : Int), 20) := by
          have e : begN (txt s) (txt s).length 0 = k := by
            rw [hl, HN.out, hstep, hbb]
            rfl
          unfold rparse4
          rw [e]
          exact if_pos (.inl (by omega))
        have HNE : Hid _ := hne
        have HBG : Hid _ := hbg
        clear hbg hstep hbb hne
        go_wp2_with fail
        refine Calls.mono HBG.out ?_
        rintro e w2 ⟨rfl, hB2⟩
        have hbx := (hB2.block _ (Nat.lt_of_lt_of_le (by omega) hB.size)).trans ((hB.block w.heap.size (by omega)).trans hb0)
        have hBx : Below w.heap.size w w2 := (hB0.trans (hB.mono (by omega))).trans (hB2.mono (Nat.le_trans hB0.size hB.size))
        obtain ⟨wE, hst, bE, hon⟩ := box_store Tryd.sizeOf23 hbx rfl zero4L rfl (by simp [Value.oneCell'])
        have HST : Hid _ := hst
        have BE : Hid _ := bE
        have HBE : Hid (Below w.heap.size w wE) := hBx.trans (hon.below (Nat.le_refl _))
        clear hst bE hon hbx hBx
        go_wp2_with ((with_reducible show wpList _ _ _ _ _ _); refine arm_store rfl (.tmp 2) (.tmp 31) 23 rfl rfl rfl HST.out ?_)
        refine bodyPost_ret (res3c Tryd.results14 rfl (agg_loadVar Tryd.isAgg23 Tryd.sizeOf23 rfl (CellsAt.of_blk BE.out))) rfl ?_
        rw [← HQ.out]
        refine ⟨?_, HBE.out⟩
        rw [HNE.out]
        rfl
    · obtain rfl : k = s.size := by omega
      have hN2 : begN (txt s) (txt s).length 0 = s.size := by
        rw [hl, HN.out, Nat.sub_self]
        rfl
      have hwh := whole_ref s wr (by omega)
      cases hwb : whoB (txt s) with
      | false =>
        rw [hwb] at hwh
        have hne : rparse4 (txt s) = ([0, 0, 0, 0], (s.size : Int), 20) := by
          unfold rparse4
          rw [hN2]
          exact if_pos (.inr hwb)
        have HNE : Hid _ := hne
        have HWH : Hid _ := hwh
        clear hwh hwb hne HN hN2
        go_wp2_with fail
        refine Calls.mono HWH.out ?_
        rintro e w2 ⟨rfl, hB2⟩
        have hbx := (hB2.block _ (Nat.lt_of_lt_of_le (by omega) hB.size)).trans ((hB.block w.heap.size (by omega)).trans hb0)
        have hBx : Below w.heap.size w w2 := (hB0.trans (hB.mono (by omega))).trans (hB2.mono (Nat.le_trans hB0.size hB.size))
        obtain ⟨wE, hst, bE, hon⟩ := box_store Tryd.sizeOf23 hbx rfl zero4L rfl (by simp [Value.oneCell'])
        have HST : Hid _ := hst
        have BE : Hid _ := bE
        have HBE : Hid (Below w.heap.size w wE) := hBx.trans (hon.below (Nat.le_refl _))
        clear hst bE hon hbx hBx
        go_wp2_with ((with_reducible show wpList _ _ _ _ _ _); refine arm_store rfl (.tmp 2) (.tmp 31) 23 rfl rfl rfl HST.out ?_)
        refine bodyPost_ret (res3c Tryd.results14 rfl (agg_loadVar Tryd.isAgg23 Tryd.sizeOf23 rfl (CellsAt.of_blk BE.out))) rfl ?_
        rw [← HQ.out]
        refine ⟨?_, HBE.out⟩
        rw [HNE.out]
        rfl
      | true =>
        rw [hwb] at hwh
        have hne : rparse4 (txt s) = ((splitA 46 [] (txt s)).map (numF 0), 0, 0) := by
          unfold rparse4
          rw [hN2]
          exact if_neg (by simp [hwb, hl])
        have HNE : Hid _ := hne
        have HWH : Hid _ := hwh
        have hpp := whoB_parts hwb
        have HPP : Hid _ := hpp
        clear hwh hwb hne HN hN2 hpp
        go_wp2_with fail
        refine Calls.mono HWH.out ?_
        rintro e w2 ⟨rfl, hB2⟩
        have hbx := (hB2.block _ (Nat.lt_of_lt_of_le (by omega) hB.size)).trans ((hB.block w.heap.size (by omega)).trans hb0)
        have hBx : Below w.heap.size w w2 := (hB0.trans (hB.mono (by omega))).trans (hB2.mono (Nat.le_trans hB0.size hB.size))
        have hlt2 : w.heap.size < w2.heap.size := Nat.lt_of_lt_of_le (by omega) (Nat.le_trans hB.size hB2.size)
        go_wp2_with fail
        refine (split_ref s 46 w2 (by decide) (by omega)).mono ?_
        rintro e w3 ⟨v, bs, rfl, hown, hbs, hB3⟩
        obtain ⟨a, cap, rfl, hlen, hz⟩ := own_form hown
        have h4 : bs.length = 4 := by
          have := congrArg List.length hbs
          rw [List.length_map, HPP.out.1] at this
          exact this
        have hbx := (hB3.block _ hlt2).trans hbx
        have hBx := hBx.trans (hB3.mono hBx.size)
        have HBS : Hid _ := hbs
        clear hown hbs
        rcases hz with hz | ⟨g, rfl, hgb, hg, hc⟩
        · omega
        obtain ⟨w4, hst, b4, hB4⟩ := box_new Tryd.sizeOf23 w3 zero4L rfl zero4L rfl (by simp [Value.oneCell'])
        have HST : Hid _ := hst
        clear hst
        go_wp2_with ((with_reducible show wpList _ _ _ _ _ _); refine arm_store rfl (.tmp 7) (.tmp 35) 23 rfl rfl rfl HST.out ?_)
        have hps : (bs.map txt).length = 4 := by rw [List.length_map]; exact h4
        have hne : w.heap.size ≠ w3.heap.size := by have := hB3.size; omega
        have hlt3 : w.heap.size < w3.heap.size := by have := hB3.size; omega
        go_loopw [8] (fun i wr => ∃ k : Nat, k ≤ 4 ∧ i = .int .i64 k ∧ wr.heap[w3.heap.size]? = some (.cells (b8 (numK (bs.map txt) k)).toArray 23) ∧ Only w3.heap.size w4 wr) (fun i _ => 4 - (intOf i).toNat)
        case atStart => exact ⟨0, Nat.zero_le _, rfl, b4, Only.refl _ _⟩
        case round =>
          clear hB
          obtain ⟨k, hk, rfl, hbk, hon⟩ := hrel
          by_cases hlt4 : k < 4
          · have hb : bs[k]? = some bs[k] := by simp [h4, hlt4]
            have hcel := ((hon.below (Nat.le_refl _)).cell (p := ⟨g, k, none⟩) hg).trans ((hB4.cell (p := ⟨g, k, none⟩) hg).trans (hc k (.string bs[k]) (by rw [strsV, List.getElem?_map, hb]; rfl)))
            have hpk : (bs.map txt)[k]? = some (txt bs[k]) := by rw [List.getElem?_map, hb]; rfl
            have hgood := octB_good (HPP.out.2 (txt bs[k]) (by rw [← HBS.out]; exact List.mem_of_getElem? hpk)) (by decide)
            have HNX : Hid _ := numK_next (bs.map txt) k (txt bs[k]) hps hpk
            have hlen4 := numK_length (bs.map txt) k hps hk
            clear hb hpk
            generalize bs[k] = b at *
            have hnum := number_ref b wr hgood.1 (by have := hgood.2.1; rw [txt_length] at this; omega)
            have hr := hgood.2.2
            have HNU : Hid _ := hnum
            clear hgood hnum
            generalize numF 0 (txt b) = n at *
            have hfz := blk_open hbk k
            have hcl : wr.cell? ⟨w3.heap.size, k, none⟩ = some ((b8 (numK (bs.map txt) k))[k]'(by rw [b8_length]; omega)) := blk_cell hbk (List.getElem?_eq_getElem _)
            have hset := blk_set hbk k (.int .u8 n)
            rw [b8_set, HNX.out] at hset
            have hon' := hon.set k (.int .u8 n)
            generalize (b8 (numK (bs.map txt) k))[k]'(by rw [b8_length]; omega) = old at *
            have HSE : Hid _ := hset
            have HON : Hid _ := hon'
            clear hset hon' hon hbk
            have hwr : IntKind.u8.wrap n = n := by unfold IntKind.wrap; simp [IntKind.signed, IntKind.bits]; omega
            go_wp2_with fail
            refine Calls.mono HNU.out ?_
            rintro e w5 ⟨rfl, rfl⟩
            go_wp2
            exact ⟨⟨k + 1, by omega, by simp, HSE.out, HON.out⟩, by simp [intOf]; omega⟩
          · obtain rfl : k = 4 := by omega
            rw [numK_all _ hps, HBS.out] at hbk
            have hl4 := HPP.out.1
            have hbR := ((hon.below (B := w3.heap.size) (Nat.le_refl _)).block _ hlt3).trans ((hB4.block _ hlt3).trans hbx)
            have hBR : Below w.heap.size w wr := (hBx.trans (hB4.mono hBx.size)).trans (hon.below (by omega))
            have hL := agg_load (t := 23) Tryd.isAgg23 Tryd.sizeOf23 (vs := b8 ((splitA 46 [] (txt s)).map (numF 0))) (by rw [b8_length, List.length_map]; exact hl4) (CellsAt.of_blk hbk)
            obtain ⟨wE, hst, bE, honE⟩ := box_store Tryd.sizeOf23 hbR rfl (b8 ((splitA 46 [] (txt s)).map (numF 0))) (by rw [b8_length, List.length_map]; exact hl4) (b8_one _)
            have hlv := agg_loadVar (t := 23) Tryd.isAgg23 Tryd.sizeOf23 (vs := b8 ((splitA 46 [] (txt s)).map (numF 0))) (by rw [b8_length, List.length_map]; exact hl4) (CellsAt.of_blk bE)
            have HBE : Hid (Below w.heap.size w wE) := hBR.trans (honE.below (Nat.le_refl _))
            have HL : Hid _ := hL
            have HSQ : Hid _ := hst
            have HLV : Hid _ := hlv
            clear hL hst hlv bE honE hbR hBR hbk hon
            go_wp2_with first
              | ((with_reducible show wpList _ _ _ _ _ _); refine arm_load rfl (.tmp 7) 23 rfl rfl HL.out ?_)
              | ((with_reducible show wpList _ _ _ _ _ _); refine arm_store rfl (.tmp 2) (.tmp 48) 23 rfl rfl rfl HSQ.out ?_)
            refine bodyPost_ret (res3c Tryd.results14 rfl HLV.out) rfl ?_
            rw [← HQ.out]
            refine ⟨?_, HBE.out⟩
            rw [HNE.out]
            rfl

end Go.Proofs.YtlpbffcijhgelaaDoor
