/-
  The iterator and its loop.
-/
import Derived.Test.YtcllcinekohklaaXc3
namespace Go.Proofs.Ytcllcinekohklaa
open Go Go.RowKit Go.Shelf
set_option linter.unusedVariables false
set_option linter.unusedSimpArgs false
attribute [local go_sem] Oper.semAt_some

section
variable {f : F6} {g : G6} {vh vb : Value} {hs : Opts} {body : List Int} {mtu id : Int} {pv pm pi : Nat} {R : Nat → Prop} {w : World} (h : ItW f g vh vb hs body mtu id pv pm pi R w)
include h

set_option maxRecDepth 100000 in
set_option maxHeartbeats 8000000 in
theorem gives_loop (he : fitE f hs g body.length mtu = 0) (hf : fitB hs g body.length mtu = false) (hm : ¬ (g.more = true ∧ body.length % 8 ≠ 0)) (sp nn : Nat) (hsp : mtu = (ahead6 hs true : Int) + sp) (hs8 : 8 ≤ sp) (hnn : nn = sp / 8 * 8) (gh : G6) (hgh : hdG g id = gh) (en : Option Int) (L : List FG) (hL : L = (frs sp nn gh body.length gh.off body).1 ∧ en = (frs sp nn gh body.length gh.off body).2) :
    GivesP Try.prog 44 #[.pointer (some ⟨pv, 0, none⟩), .pointer (some ⟨pm, 0, none⟩), .pointer (some ⟨pi, 0, none⟩)] L.length (FragX f vh hs L) R w en := by
  intro l J W O hWw hWR hO hJ hY h0 n
  refine callsIn_wide.2 ((callsIn_wide (n := 9)).1 ?_)
  have hW := h.on hWw hWR
  have HL : Hid _ := vb_load hW.v
  have km := blk_cell hW.m (j := 0) rfl
  have hC := fits_yes g mtu hW.dd he
  rw [hf] at hC
  have HC : Hid _ := hC
  have hof0 : 0 ≤ gh.off ∧ gh.off ≤ 8191 := by
    have h1 := (ck_zero (fitE_zero he).1).1.2.2
    rw [← hgh]
    unfold hdG
    unfold endB at h1
    cases hgf : g.fr
    · rw [hgf] at h1
      simp at h1
      simp [h1]
    · rw [hgf] at h1
      simpa using h1
  have hbl : body.length ≤ 70000 := by have := (ck_zero (fitE_zero he).1).2; omega
  have h0c := (fitE_zero he).1
  have HCK : Hid (ckE f hs g body.length = 0) := h0c
  have hmt := (fitE_zero he).2
  obtain ⟨_, _, ba, bc, hvb, _⟩ := hW.dd.bd.row
  have H39 : Hid (∀ B, Below W.heap.size W B → B.cell? ⟨pv, 39, none⟩ = some (.bool g.more)) := fun B hB => vb39 (blk_on hW.v hB)
  have H41 : Hid (∀ B, Below W.heap.size W B → B.cell? ⟨pv, 41, none⟩ = some (.slice ba body.length bc)) := fun B hB => by rw [vb41 (blk_on hW.v hB), hvb]
  have HW : Hid _ := hW
  have hA8 := ahead6_le true (ck_zero h0c).1.2.1
  obtain ⟨A, hAe⟩ : ∃ A, A = ahead6 hs true := ⟨_, rfl⟩
  have HAE : Hid (ahead6 hs true = A) := hAe.symm
  rw [← hAe] at hA8 hsp
  have HNB : Hid _ := hvb
  have HLL : Hid (L = (frs sp nn gh body.length gh.off body).1 ∧ en = (frs sp nn gh body.length gh.off body).2) := hL
  have HOO : Hid _ := hO
  have HJ : Hid _ := hJ
  have HY : Hid _ := hY
  have HWR : Hid _ := hWR
  have HRL : Hid _ := h.rl
  clear hW h hO hJ hY hWR he hC hf hAe hvb hL
  have q8 : g.more = false ∨ ((body.length : Int) % 8 == 0) = true := by
    by_cases c : g.more = true
    · exact .inr (by by_cases d : body.length % 8 = 0; · simp; omega
                     · exact absurd ⟨c, d⟩ hm)
    · exact .inl (by simpa using c)
  have HBL : Hid (body.length ≤ 70000) := hbl
  clear hm HNB
  obtain ⟨bn, hbn0⟩ : ∃ bn, bn = body.length := ⟨_, rfl⟩
  rw [← hbn0] at q8 hbl H41
  clear hbn0
  have q7 : decide ((8 : Int) ≤ mtu - A) = true := by simp; omega
  have v7 : IntKind.i64.wrap (mtu - A) = mtu - A := wrapi64 _ (by omega)
  have HSPE : Hid (mtu - (A : Int) = (sp : Int)) := by show _ = _; omega
  have hspm : sp ≤ 65535 := by omega
  have HNN : Hid (nn = sp / 8 * 8) := hnn
  have HGH : Hid (hdG g id = gh) := hgh
  clear hsp hnn hgh
  refine callsIn_of_wp Try.func44 rfl trivial ?_ rfl
  simp only [Try.ntmps44, List.size_toArray, List.length_cons, List.length_nil, Nat.reduceAdd, Nat.reduceSub, Array.replicate_succ, Array.replicate_zero, List.push_toArray, List.append_toArray, List.nil_append, List.cons_append]
  gi_wp2_with ((with_reducible show wpListIn _ _ _ _ _ _ _ _); refine armLI (.tmp 1) 28 rfl rfl rfl HL.out ?_)
  refine ⟨trivial, (callsIn_wide.2 HC.out).mono ?_⟩
  rintro e w2 ⟨rfl, hb2⟩
  have k39 := H39.out _ hb2
  have k41 := H41.out _ hb2
  have HW2 : Hid _ := HW.out.up hb2
  have HBW : Hid (Below W.heap.size W w2) := hb2
  have HLA : Hid (∀ x : Hi w2, (Instr.loadAt 28 (.pointer (some ⟨pv, 0, none⟩))).run Try.prog x.W = .ok (VV f g vh vb) x.W) := fun x => vb_load (blk_on HW2.out.v x.below)
  have hKM : ∀ x : Hi w2, x.W.cell? ⟨pm, 0, none⟩ = some (.int .i64 mtu) := fun x => blk_cell (blk_on HW2.out.m x.below) (j := 0) rfl
  have HHD : Hid (∀ x : Hi w2, Calls Try.prog 45 #[VV f g vh vb] x.W fun e w' => e = .returned (.int .i64 (A : Int)) ∧ Below x.W.heap.size x.W w') := fun x => by
    have := heads_calls g (HW2.out.dd.on x.below) HCK.out
    rw [HAE.out] at this
    exact this
  clear hb2 HC HL H39 H41 km HW HAE h0c HCK
  have hmid : Hid (g.more = false ∨ (g.more = true ∧ ((bn : Int) % 8 == 0) = true)) := by
    rcases q8 with q | q
    · exact .inl q
    · cases hgm : g.more
      · exact .inl rfl
      · exact .inr ⟨rfl, q⟩
  clear q8
  rcases hmid with q8 | ⟨q6, q8⟩
  · rw [q8] at k39
    gi_wp2_with fail
    refine ⟨trivial, (callsIn_wide.2 (must_good _ _)).mono ?_⟩
    rintro e w3 ⟨rfl, hw⟩
    obtain rfl := hw.symm
    clear hw
    gi_wp2_with fail
    refine wpIn_wide.2 ?_
    refine wp_region_hi (by kernel_rfl) (by kernel_rfl) ?_
    repeat (first
      | go_big_quiet_skip
      | (go_big_quiet_want; refine hi_load (.tmp 1) 28 rfl rfl HLA.out ?_; simp only [Act.put, List.setIfInBounds_toArray, List.set_cons_zero, List.set_cons_succ]; go_big_quiet_on)
      | (go_big_quiet_want; go_big_quiet_op; first | go_big_quiet_on | go_big_quiet_call (first | (go_at_call 45; with_reducible exact Hi.calls (HHD.out _)))))
    refine wpQuiet_nil ?_
    intro _ hw
    obtain ⟨y, rfl⟩ := hw
    have HWY : Hid _ := HW2.out.up y.below
    have HBY : Hid (Below W.heap.size W y.W) := HBW.out.trans (y.below.mono HBW.out.size)
    clear HLA hKM HHD HW2 HBW k39 k41
    generalize hyW : y.W = w4 at *
    clear hyW
    have hbl := HBL.out
    rw [HSPE.out]
    clear q7 v7
    have q7 : decide ((8 : Int) ≤ (sp : Int)) = true := by simp; omega
    gi_wp2_with fail
    refine ⟨trivial, (callsIn_wide.2 (must_good _ _)).mono ?_⟩
    rintro e w5 ⟨rfl, hw⟩
    obtain rfl := hw.symm
    clear hw
    have HLY : Hid _ := vb_load HWY.out.v
    have kid := blk_cell HWY.out.i (j := 0) rfl
    have hHE := headed_calls (vh := vh) (vb := vb) f g HWY.out.dd.hd.one HWY.out.dd.bd.one id w4
    rw [HGH.out] at hHE
    have HHE : Hid _ := hHE
    clear hHE
    gi_wp2_with ((with_reducible show wpListIn _ _ _ _ _ _ _ _); refine armLI (.tmp 1) 28 rfl rfl rfl HLY.out ?_)
    refine ⟨trivial, (callsIn_wide.2 HHE.out).mono ?_⟩
    rintro e w6 ⟨rfl, hb6⟩
    have hW6 := HWY.out.up hb6
    obtain ⟨w1, hst, hbx, hB1', hs1⟩ := vb_new w6 f gh (vh := vh) (vb := vb) hW6.dd.hd.one hW6.dd.bd.one
    unfold zeroV at hst
    have HST : Hid _ := hst
    have hB1 : Below W.heap.size W w1 := (HBY.out.trans (Below.mono hb6 HBY.out.size)).trans (Below.mono hB1' (Nat.le_trans HBY.out.size hb6.size))
    have hW1 := hW6.up hB1'
    obtain ⟨lb, hlbe⟩ : ∃ lb, lb = w6.heap.size := ⟨_, rfl⟩
    have hlb : W.heap.size ≤ lb := by have := HBY.out.size; have := hb6.size; omega
    have hIt : ItM f vh hs R w W lb O gh body vb w1 := by
      refine ⟨fun c hc => ⟨(HOO.out c hc).1, Nat.lt_of_lt_of_le (HOO.out c hc).2 hB1.size⟩, fun c hc => (hB1.block c (Nat.lt_of_lt_of_le (HRL.out c hc) hWw)).trans (HWR.out c hc), hB1.size, hlb, fun ho => by have := (HOO.out lb ho).2; omega, by rw [hlbe]; exact hbx, hW1.dd⟩
    have hJ1 : J 0 O w1 := HJ.out 0 O W w1 h0 (Sep.of_below hB1)
    have HIT : Hid (ItM f vh hs R w W lb O gh body vb w1) := hIt
    have HJ1 : Hid (J 0 O w1) := hJ1
    have HLE : Hid (lb = w6.heap.size) := hlbe
    clear hIt hJ1 hbx hB1 hB1' hs1 hW1 hW6 hb6 hst HLY kid HHE HWY HBY hlbe
    gi_wp2_with ((with_reducible show wpListIn _ _ _ _ _ _ _ _); refine armSI (.tmp 7) (.tmp 38) 28 rfl rfl rfl rfl HST.out ?_)
    simp only [Act.put]
    rw [← HLE.out]
    rw [show ((sp : Int) / 8 * 8) = (nn : Int) by have := HNN.out; omega]
    clear HST HLE
    gi_loopw [] (fun wr => ∃ (k : Nat) (O : Nat → Prop) (n : Nat) (of : Int) (b : List Int) (sb' : Value), Hid (L.drop k = (frs sp nn gh n of b).1 ∧ en = (frs sp nn gh n of b).2) ∧ b.length ≤ n ∧ 0 ≤ of ∧ of ≤ 8191 ∧ b.length ≤ 70000 ∧ Hid (J k O wr) ∧ Hid (ItM f vh hs R w W lb O { gh with off := of } b sb' wr)) (fun wr => bodyLen wr lb)
    case atStart => exact ⟨0, O, body.length, gh.off, body, vb, by show _ ∧ _; rw [List.drop_zero]; exact HLL.out, Nat.le_refl _, hof0.1, hof0.2, hbl, HJ1, HIT⟩
    case round =>
      obtain ⟨k, O, n, of, b, sb', hdr, hbn, hof, hofm, hbm, hj, hit⟩ := hrel
      have hbb := hit.out.dd.bd
      obtain ⟨a1, c1, hsb'⟩ : ∃ a c, sb' = .slice a b.length c := by obtain ⟨_, _, a, cap, e, _⟩ := hbb.row; exact ⟨_, _, e⟩
      subst hsb'
      have k41 := vb41 hit.out.box
      have HITB : Hid _ := bodyLen_of hit.out.box
      clear hbb
      generalize hbl' : b.length = nb at *
      have HNB : Hid (b.length = nb) := hbl'
      clear hbl'
      by_cases hfit : sp < nb
      · have q : decide ((sp : Int) < (nb : Int)) = true := by simp; omega
        have HFIT : Hid (¬ b.length ≤ sp) := by show ¬ _; rw [HNB.out]; omega
        obtain ⟨w3, hst, hbx, hB3, hs3⟩ := vb_new wr f { gh with off := of } (vh := vh) (vb := .slice a1 nb c1) hit.out.dd.hd.one rfl
        unfold zeroV at hst
        have HST : Hid _ := hst
        have HLD : Hid _ := vb_load hit.out.box
        have hit3 : Hid (ItM f vh hs R w W lb O { gh with off := of } b (.slice a1 nb c1) w3) := hit.out.on hWw HRL.out hB3
        have hj3 : Hid (J k O w3) := HJ.out k O _ _ hj.out (Sep.of_below hB3)
        have HBX : Hid _ := hbx
        have HB3 : Hid _ := hB3
        obtain ⟨w2, hw2⟩ : ∃ w2, w2 = wr := ⟨_, rfl⟩
        have hn8 : 8 ≤ nn := by have := HNN.out; omega
        have hnb : nn < nb := by have := HNN.out; omega
        have hnm : nn ≤ 100000 := by have := HNN.out; omega
        have hpos : 0 < b.length := by rw [HNB.out]; omega
        obtain ⟨u1, hu1, hbu1⟩ := cut_front hit3.out.dd.bd hpos nn (by rw [HNB.out]; omega)
        have hlbw : lb < wr.heap.size := (Array.getElem?_eq_some_iff.1 hit.out.box).1
        have hu1s := hbu1.slc
        have HU1 : Hid _ := hu1
        have HBU1 : Hid (BS R w3 u1 (b.take nn)) := hbu1
        have HIT3 : Hid _ := hit3.out.box
        clear hst hbx hB3 hs3 hu1 hbu1
        gi_wp2_with first
          | ((with_reducible show wpListIn _ _ _ _ _ _ _ _); refine armLI (.tmp 7) 28 rfl rfl rfl HLD.out ?_)
          | ((with_reducible show wpListIn _ _ _ _ _ _ _ _); refine armSI (.tmp 8) (.tmp 44) 28 rfl rfl rfl rfl HST.out ?_)
        try simp only [Act.put]
        clear HLD HST
        obtain rfl := hw2
        refine wpIn_wide.2 ?_
        refine region_mid (fun a0 a' w' => a' = ((((((a0.put (some 45) (.pointer (some ⟨lb, 41, none⟩))).put (some 46) ((.slice a1 nb c1))).put (some 47) (.int .i64 (nn : Nat))).put (some 48) (u1)).put (some 49) (.pointer (some ⟨w2.heap.size, 39, none⟩))).put (some 50) (.pointer (some ⟨w2.heap.size, 41, none⟩))) ∧ w'.heap[w2.heap.size]? = some (BV f { gh with off := of, more := true } vh u1) ∧ Below w2.heap.size w2 w') ?_ ?_
        · skip
          refine wp_region_held (S := fun X => X.heap[lb]? = some (BV f { gh with off := of } vh (.slice a1 nb c1))) (by kernel_rfl) ?_
          show wpAnyH _ _ _ _ _ 8 (Array.replicate 8 false) _ _
          have hs0 : w3.drew.heap[lb]? = some (BV f { gh with off := of } vh (.slice a1 nb c1)) := HIT3.out
          refine take_one (i := 0) (d := some 45) (v := .pointer (some ⟨lb, 41, none⟩)) rfl rfl rfl (by kernel_rfl) (by kernel_rfl) (by kernel_rfl) (fun _ _ _ _ _ h => h.elim) (fun W hS => by kernel_rfl) hs0 ?_
          simp only [Act.put, List.setIfInBounds_toArray, List.set_cons_zero, List.set_cons_succ]
          refine take_one (i := 1) (d := some 46) (v := (.slice a1 nb c1)) rfl rfl rfl (by kernel_rfl) (by kernel_rfl) (by kernel_rfl) (fun _ _ _ _ _ h => h.elim) (fun W hS => ex_load 45 rfl rfl (vb41 hS) ⟨_, _, _, rfl⟩) hs0 ?_
          simp only [Act.put, List.setIfInBounds_toArray, List.set_cons_zero, List.set_cons_succ]
          refine take_one (i := 2) (d := some 47) (v := .int .i64 (nn : Nat)) rfl rfl rfl (by kernel_rfl) (by kernel_rfl) (by kernel_rfl) (fun _ _ _ _ _ h => h.elim) (fun W hS => by kernel_rfl) hs0 ?_
          simp only [Act.put, List.setIfInBounds_toArray, List.set_cons_zero, List.set_cons_succ]
          refine take_one (i := 3) (d := some 48) (v := u1) rfl rfl rfl (by kernel_rfl) (by kernel_rfl) (by kernel_rfl) (fun _ _ _ _ _ h => h.elim) (fun W hS => ex_slice 26 (.tmp 46) none (some (.tmp 47)) rfl rfl rfl rfl (HU1.out W)) hs0 ?_
          simp only [Act.put, List.setIfInBounds_toArray, List.set_cons_zero, List.set_cons_succ]
          refine take_one (i := 4) (d := some 49) (v := .pointer (some ⟨w2.heap.size, 39, none⟩)) rfl rfl rfl (by kernel_rfl) (by kernel_rfl) (by kernel_rfl) (fun _ _ _ _ _ h => h.elim) (fun W hS => by kernel_rfl) hs0 ?_
          simp only [Act.put, List.setIfInBounds_toArray, List.set_cons_zero, List.set_cons_succ]
          have hf0 : w3.drew.heap[w2.heap.size]? = some (BV f { gh with off := of } vh (.slice a1 nb c1)) := HBX.out
          have hf1 := vs39 hf0 true
          have hl1 := blk_set_other hs0 (show lb ≠ w2.heap.size by omega) 39 (.bool true)
          refine all_one (i := 5) (by kernel_rfl) rfl rfl ?_
          refine wp_storeA (.tmp 49) (.const (.bool true)) 4 rfl rfl rfl rfl (st_bool hf0 (show 39 < _ by rw [vC_len]; omega) true) ⟨hl1, ?_⟩
          refine take_one (i := 6) (d := some 50) (v := .pointer (some ⟨w2.heap.size, 41, none⟩)) rfl rfl rfl (by kernel_rfl) (by kernel_rfl) (by kernel_rfl) (fun _ _ _ _ _ h => h.elim) (fun W hS => by kernel_rfl) hl1 ?_
          simp only [Act.put, List.setIfInBounds_toArray, List.set_cons_zero, List.set_cons_succ]
          have hf2 := vs41 hf1 u1
          have hl2 := blk_set_other hl1 (show lb ≠ w2.heap.size by omega) 41 u1
          refine all_one (i := 7) (by kernel_rfl) rfl rfl ?_
          refine wp_storeA (.tmp 50) (.tmp 48) 26 rfl rfl rfl rfl (st_row hf1 (show 41 < _ by rw [vC_len]; omega) hu1s) ⟨hl2, ?_⟩
          refine wpAnyH_done (by kernel_rfl) ?_ _
          exact ⟨rfl, hf2, ((HB3.out.drew).setCell (p := ⟨w2.heap.size, 39, none⟩) (Nat.le_refl _) _).setCell (p := ⟨w2.heap.size, 41, none⟩) (Nat.le_refl _) _⟩
        · rintro a' w4 ⟨rfl, hf4, hB4⟩
          simp only [Act.put, List.setIfInBounds_toArray, List.set_cons_zero, List.set_cons_succ]
          have hit4 : ItM f vh hs R w W lb O { gh with off := of } b (.slice a1 nb c1) w4 := hit.out.on hWw HRL.out hB4
          have hj4 : J k O w4 := HJ.out k O _ _ hj.out (Sep.of_below hB4)
          have hbu4 : BS R w4 u1 (b.take nn) := by
            obtain ⟨u1', hu1', hb1'⟩ := cut_front hit4.dd.bd hpos nn (by rw [HNB.out]; omega)
            have e : u1 = u1' := by
              have h1 := HU1.out w4
              rw [hu1' w4] at h1
              injection h1 with h1 _
              exact h1.symm
            rw [e]
            exact hb1'
          obtain ⟨hLk, hkL⟩ : L[k]? = some ⟨{ gh with off := of, more := true }, b.take nn⟩ ∧ k < L.length := by
            by_cases ho : of + (nn / 8 : Nat) ≤ 8191
            · obtain ⟨n', hn', hfr, _⟩ := frs_step (g := gh) HFIT.out hn8 (n := n) (by rw [HNB.out]; exact hbn) ho
              have hdr0 := hdr.out.1
              rw [hfr] at hdr0
              exact ⟨(drop_at hdr0).1, (drop_at hdr0).2.2⟩
            · have hdr0 := hdr.out.1
              rw [frs_far HFIT.out (by rw [HNB.out]; exact hbn) ho] at hdr0
              exact ⟨(drop_at hdr0).1, (drop_at hdr0).2.2⟩
          have hX : FragX f vh hs L k (VV f { gh with off := of, more := true } vh u1) O w4 := ⟨_, _, hLk, rfl, hit4.frag hbu4⟩
          have hyk := HY.out k _ w4 O hkL hit4.size hit4.own hX hj4 (9 - 1)
          obtain ⟨fn, tmps, assign, bodyc, hy, hR⟩ := hyk
          have HLD4 : Hid _ := vb_load hf4
          have HRR : Hid _ := hR
          have HIT4 : Hid (ItM f vh hs R w W lb O { gh with off := of } b (.slice a1 nb c1) w4) := hit4
          clear hf4 hB4 hLk hit4 hj4 hX hR HB3 HBX HIT3 hit3 hj3 hbu4 HBU1 k41 hit hj
          gi_wp2_with ((with_reducible show wpListIn _ _ _ _ _ _ _ _); refine armLI (.tmp 8) 28 rfl rfl rfl HLD4.out ?_)
          refine RoundIn.mono HRR.out ?_
          rintro e W3 ⟨O', hsep, hO', rfl, hj5⟩
          have hit5 := HIT4.out.round hWw HRL.out hsep hO'
          have HIT5 : Hid (ItM f vh hs R w W lb O' { gh with off := of } b (.slice a1 nb c1) W3) := hit5
          clear hy HRR HLD4 hit5 hsep hO' HIT4
          obtain ⟨u2, hu2, hbu2⟩ := cut_rest HIT5.out.dd.bd hpos nn (by rw [HNB.out]; omega)
          have hu2s := hbu2.slc
          have HU2 : Hid _ := hu2
          have HBU2 : Hid (BS R W3 u2 (b.drop nn)) := hbu2
          have HJ5 : Hid (J (k + 1) O' W3) := hj5
          have hofn : -9223372036854775808 ≤ of + ((nn / 8 : Nat) : Int) ∧ of + ((nn / 8 : Nat) : Int) ≤ 9223372036854775807 := by omega
          clear hu2 hbu2 hj5
          gi_wp2_with fail
          refine wpIn_wide.2 ?_
          refine region_mid (fun a0 a' w' => a' = (((((((((((a0.put (some 55) (.pointer (some ⟨lb, 38, none⟩))).put (some 56) (.int .i64 of)).put (some 57) (.int .i64 (nn : Nat))).put (some 58) (.int .i64 (nn / 8 : Nat))).put (some 59) (.int .i64 (of + (nn / 8 : Nat)))).put (some 60) (.pointer (some ⟨lb, 41, none⟩))).put (some 61) ((.slice a1 nb c1))).put (some 62) (.int .i64 (nn : Nat))).put (some 63) (u2)).put (some 64) (.pointer (some ⟨lb, 38, none⟩))).put (some 65) (.pointer (some ⟨lb, 41, none⟩))) ∧ w'.heap[lb]? = some (BV f { gh with off := of + (nn / 8 : Nat) } vh u2) ∧ Only lb W3 w') ?_ ?_
          · skip
            refine wp_region_held (S := fun _ => True) (by kernel_rfl) ?_
            show wpAnyH _ _ _ _ _ 13 (Array.replicate 13 false) _ _
            have hb0 : W3.drew.heap[lb]? = some (BV f { gh with off := of } vh (.slice a1 nb c1)) := HIT5.out.box
            refine take_one (i := 0) (d := some 55) (v := .pointer (some ⟨lb, 38, none⟩)) rfl rfl rfl (by kernel_rfl) (by kernel_rfl) (by kernel_rfl) (fun _ _ _ _ _ h => h.elim) (fun W hS => by kernel_rfl) trivial ?_
            simp only [Act.put, List.setIfInBounds_toArray, List.set_cons_zero, List.set_cons_succ]
            refine take_one (i := 2) (d := some 57) (v := .int .i64 (nn : Nat)) rfl rfl rfl (by kernel_rfl) (by kernel_rfl) (by kernel_rfl) (fun _ _ _ _ _ h => h.elim) (fun W hS => by kernel_rfl) trivial ?_
            simp only [Act.put, List.setIfInBounds_toArray, List.set_cons_zero, List.set_cons_succ]
            refine take_one (i := 3) (d := some 58) (v := .int .i64 (nn / 8 : Nat)) rfl rfl rfl (by kernel_rfl) (by kernel_rfl) (by kernel_rfl) (fun _ _ _ _ _ h => h.elim) (fun W hS => ex_div8 (.tmp 57) rfl rfl hnm) trivial ?_
            simp only [Act.put, List.setIfInBounds_toArray, List.set_cons_zero, List.set_cons_succ]
            refine take_one (i := 5) (d := some 60) (v := .pointer (some ⟨lb, 41, none⟩)) rfl rfl rfl (by kernel_rfl) (by kernel_rfl) (by kernel_rfl) (fun _ _ _ _ _ h => h.elim) (fun W hS => by kernel_rfl) trivial ?_
            simp only [Act.put, List.setIfInBounds_toArray, List.set_cons_zero, List.set_cons_succ]
            refine take_one (i := 7) (d := some 62) (v := .int .i64 (nn : Nat)) rfl rfl rfl (by kernel_rfl) (by kernel_rfl) (by kernel_rfl) (fun _ _ _ _ _ h => h.elim) (fun W hS => by kernel_rfl) trivial ?_
            simp only [Act.put, List.setIfInBounds_toArray, List.set_cons_zero, List.set_cons_succ]
            refine all_two (i1 := 1) (i2 := 6) (by kernel_rfl) rfl rfl rfl rfl ?_ ?_
            · refine wp_loadA (d := some 56) (.tmp 55) 3 rfl rfl rfl (ld_int (vb38 hb0)) ⟨trivial, ?_⟩
              simp only [Act.put, List.setIfInBounds_toArray, List.set_cons_zero, List.set_cons_succ]
              refine take_one (i := 4) (d := some 59) (v := .int .i64 (of + (nn / 8 : Nat))) rfl rfl rfl (by kernel_rfl) (by kernel_rfl) (by kernel_rfl) (fun _ _ _ _ _ h => h.elim) (fun W hS => ex_addI (.tmp 56) (.tmp 58) rfl rfl rfl hofn) trivial ?_
              simp only [Act.put, List.setIfInBounds_toArray, List.set_cons_zero, List.set_cons_succ]
              refine all_one (i := 6) (by kernel_rfl) rfl rfl ?_
              refine wp_loadA (d := some 61) (.tmp 60) 26 rfl rfl rfl (ld_row (vb41 hb0) ⟨_, _, _, rfl⟩) ⟨trivial, ?_⟩
              simp only [Act.put, List.setIfInBounds_toArray, List.set_cons_zero, List.set_cons_succ]
              refine take_one (i := 8) (d := some 63) (v := u2) rfl rfl rfl (by kernel_rfl) (by kernel_rfl) (by kernel_rfl) (fun _ _ _ _ _ h => h.elim) (fun W hS => ex_slice 26 (.tmp 61) (some (.tmp 62)) none rfl rfl rfl rfl (HU2.out W)) trivial ?_
              simp only [Act.put, List.setIfInBounds_toArray, List.set_cons_zero, List.set_cons_succ]
              refine take_one (i := 9) (d := some 64) (v := .pointer (some ⟨lb, 38, none⟩)) rfl rfl rfl (by kernel_rfl) (by kernel_rfl) (by kernel_rfl) (fun _ _ _ _ _ h => h.elim) (fun W hS => by kernel_rfl) trivial ?_
              simp only [Act.put, List.setIfInBounds_toArray, List.set_cons_zero, List.set_cons_succ]
              have hb1 := vs38 hb0 (of + (nn / 8 : Nat))
              refine all_one (i := 10) (by kernel_rfl) rfl rfl ?_
              refine wp_storeA (.tmp 64) (.tmp 59) 3 rfl rfl rfl rfl (st_int hb0 (show 38 < _ by rw [vC_len]; omega) _) ⟨trivial, ?_⟩
              refine take_one (i := 11) (d := some 65) (v := .pointer (some ⟨lb, 41, none⟩)) rfl rfl rfl (by kernel_rfl) (by kernel_rfl) (by kernel_rfl) (fun _ _ _ _ _ h => h.elim) (fun W hS => by kernel_rfl) trivial ?_
              simp only [Act.put, List.setIfInBounds_toArray, List.set_cons_zero, List.set_cons_succ]
              have hb3 := vs41 hb1 u2
              refine all_one (i := 12) (by kernel_rfl) rfl rfl ?_
              refine wp_storeA (.tmp 65) (.tmp 63) 26 rfl rfl rfl rfl (st_row hb1 (show 41 < _ by rw [vC_len]; omega) hu2s) ⟨trivial, ?_⟩
              refine wpAnyH_done (by kernel_rfl) ?_ _
              exact ⟨rfl, hb3, (((Only.refl lb W3).drew).set 38 _).set 41 _⟩
            · refine wp_loadA (d := some 61) (.tmp 60) 26 rfl rfl rfl (ld_row (vb41 hb0) ⟨_, _, _, rfl⟩) ⟨trivial, ?_⟩
              simp only [Act.put, List.setIfInBounds_toArray, List.set_cons_zero, List.set_cons_succ]
              refine take_one (i := 8) (d := some 63) (v := u2) rfl rfl rfl (by kernel_rfl) (by kernel_rfl) (by kernel_rfl) (fun _ _ _ _ _ h => h.elim) (fun W hS => ex_slice 26 (.tmp 61) (some (.tmp 62)) none rfl rfl rfl rfl (HU2.out W)) trivial ?_
              simp only [Act.put, List.setIfInBounds_toArray, List.set_cons_zero, List.set_cons_succ]
              refine all_one (i := 1) (by kernel_rfl) rfl rfl ?_
              refine wp_loadA (d := some 56) (.tmp 55) 3 rfl rfl rfl (ld_int (vb38 hb0)) ⟨trivial, ?_⟩
              simp only [Act.put, List.setIfInBounds_toArray, List.set_cons_zero, List.set_cons_succ]
              refine take_one (i := 4) (d := some 59) (v := .int .i64 (of + (nn / 8 : Nat))) rfl rfl rfl (by kernel_rfl) (by kernel_rfl) (by kernel_rfl) (fun _ _ _ _ _ h => h.elim) (fun W hS => ex_addI (.tmp 56) (.tmp 58) rfl rfl rfl hofn) trivial ?_
              simp only [Act.put, List.setIfInBounds_toArray, List.set_cons_zero, List.set_cons_succ]
              refine take_one (i := 9) (d := some 64) (v := .pointer (some ⟨lb, 38, none⟩)) rfl rfl rfl (by kernel_rfl) (by kernel_rfl) (by kernel_rfl) (fun _ _ _ _ _ h => h.elim) (fun W hS => by kernel_rfl) trivial ?_
              simp only [Act.put, List.setIfInBounds_toArray, List.set_cons_zero, List.set_cons_succ]
              have hb1 := vs38 hb0 (of + (nn / 8 : Nat))
              refine all_one (i := 10) (by kernel_rfl) rfl rfl ?_
              refine wp_storeA (.tmp 64) (.tmp 59) 3 rfl rfl rfl rfl (st_int hb0 (show 38 < _ by rw [vC_len]; omega) _) ⟨trivial, ?_⟩
              refine take_one (i := 11) (d := some 65) (v := .pointer (some ⟨lb, 41, none⟩)) rfl rfl rfl (by kernel_rfl) (by kernel_rfl) (by kernel_rfl) (fun _ _ _ _ _ h => h.elim) (fun W hS => by kernel_rfl) trivial ?_
              simp only [Act.put, List.setIfInBounds_toArray, List.set_cons_zero, List.set_cons_succ]
              have hb3 := vs41 hb1 u2
              refine all_one (i := 12) (by kernel_rfl) rfl rfl ?_
              refine wp_storeA (.tmp 65) (.tmp 63) 26 rfl rfl rfl rfl (st_row hb1 (show 41 < _ by rw [vC_len]; omega) hu2s) ⟨trivial, ?_⟩
              refine wpAnyH_done (by kernel_rfl) ?_ _
              exact ⟨rfl, hb3, (((Only.refl lb W3).drew).set 38 _).set 41 _⟩
          · rintro a' w6 ⟨rfl, hb6, hon6⟩
            simp only [Act.put, List.setIfInBounds_toArray, List.set_cons_zero, List.set_cons_succ]
            have hit6 : ItM f vh hs R w W lb O' { gh with off := of + (nn / 8 : Nat) } (b.drop nn) u2 w6 := HIT5.out.put hWw HRL.out hon6 hb6 HBU2.out
            have hj6 : J (k + 1) O' w6 := HJ.out _ _ _ _ HJ5.out (Sep.of_only hon6 ⟨HIT5.out.lo, HIT5.out.nl⟩)
            have HIT6 : Hid (ItM f vh hs R w W lb O' { gh with off := of + (nn / 8 : Nat) } (b.drop nn) u2 w6) := hit6
            have HJ6 : Hid (J (k + 1) O' w6) := hj6
            have k38 := vb38 hb6
            simp only at k38
            have HBL6 : Hid (bodyLen w6 lb = nb - nn) := by show bodyLen w6 lb = nb - nn; rw [bodyLen_of hb6, HBU2.out.row.lenV, List.length_drop, HNB.out]
            have HDL : Hid ((b.drop nn).length = nb - nn) := by show (b.drop nn).length = nb - nn; rw [List.length_drop, HNB.out]
            clear hit6 hj6 hb6 hon6 HIT5 HJ5 HU2 HBU2
            by_cases ho : of + (nn / 8 : Nat) ≤ 8191
            · have HOK : Hid (of + (nn / 8 : Nat) ≤ 8191) := ho
              have q9 : decide (of + ((nn / 8 : Nat) : Int) ≤ 8191) = true := by simpa using ho
              obtain ⟨n', hn', hfr, hfr2⟩ := frs_step (g := gh) HFIT.out hn8 (n := n) (by rw [HNB.out]; exact hbn) ho
              have hdr0 := hdr.out.1
              rw [hfr] at hdr0
              have HLD : Hid (L.drop (k + 1) = (frs sp nn gh n' (of + (nn / 8 : Nat)) (b.drop nn)).1 ∧ en = (frs sp nn gh n' (of + (nn / 8 : Nat)) (b.drop nn)).2) := ⟨(drop_at hdr0).2.1, hdr.out.2.trans hfr2⟩
              have HN' : Hid ((b.drop nn).length ≤ n') := hn'
              have HOP : Hid (0 ≤ of + ((nn / 8 : Nat) : Int)) := by show _ ≤ _; omega
              clear hdr0 hfr hfr2 hn' ho hdr
              generalize hoo : of + ((nn / 8 : Nat) : Int) = of2 at *
              clear hoo
              gi_wp2_with fail
              refine ⟨trivial, (callsIn_wide.2 (must_good _ _)).mono ?_⟩
              rintro e w7 ⟨rfl, hw⟩
              obtain rfl := hw.symm
              clear hw
              gi_wp2_with fail
              refine ⟨⟨k + 1, O', n', of2, b.drop nn, u2, HLD, HN'.out, HOP.out, HOK.out, by rw [HDL.out]; omega, HJ6, HIT6⟩, ?_⟩
              have h1 := HBL6.out
              have h2 := HITB.out
              simp only [lenV] at h2
              omega
            · have q9 : decide (of + ((nn / 8 : Nat) : Int) ≤ 8191) = false := by simpa using ho
              have hf := frs_far (g := gh) HFIT.out (n := n) (by rw [HNB.out]; exact hbn) ho
              have hen := hdr.out.2
              have hdr0 := hdr.out.1
              rw [hf] at hen hdr0
              have hLe : L.length = k + 1 := by
                have := congrArg List.length hdr0
                simp at this
                omega
              have HEN : Hid (en = some 5) := hen
              have HJE : Hid (J L.length O' w6) := by show J L.length O' w6; rw [hLe]; exact HJ6.out
              clear hf hen hdr0 hLe ho hdr
              generalize hoo : of + ((nn / 8 : Nat) : Int) = of2 at *
              clear hoo
              gi_wp2_with fail
              refine ⟨trivial, (callsIn_wide.2 (must_bad _ _)).mono ?_⟩
              rintro e w7 ⟨rfl, hw⟩
              obtain rfl := hw.symm
              refine ⟨rfl, ?_, O', HJE.out⟩
              rw [HEN.out]
              rfl
      · have q : decide ((sp : Int) < (nb : Int)) = false := by simp; omega
        have hf := frs_fits (nn := nn) (g := gh) (n := n) (off := of) (b := b) (sp := sp) (by rw [HNB.out]; omega)
        have hen := hdr.out.2
        have hdr0 := hdr.out.1
        rw [hf] at hen hdr0
        obtain ⟨hLk, hLd, hkL⟩ := drop_at hdr0
        have hLe : L.length = k + 1 := by
          have := congrArg List.length hdr0
          simp at this
          omega
        have hX : FragX f vh hs L k (VV f { gh with off := of } vh (.slice a1 nb c1)) O wr := ⟨_, _, hLk, rfl, hit.out.frag hit.out.dd.bd⟩
        have hyk := HY.out k _ wr O hkL hit.out.size hit.out.own hX hj.out (9 - 1)
        obtain ⟨fn, tmps, assign, bodyc, hy, hR⟩ := hyk
        have HLD4 : Hid _ := vb_load hit.out.box
        have HRR : Hid _ := hR
        have HLE : Hid _ := hLe
        have HEN : Hid (en = none) := hen
        clear hdr0 hLk hLd hX hR hLe hkL hf hen
        gi_wp2_with ((with_reducible show wpListIn _ _ _ _ _ _ _ _); refine armLI (.tmp 7) 28 rfl rfl rfl HLD4.out ?_)
        refine RoundIn.mono HRR.out ?_
        rintro e W3 ⟨O', hsep, hO', rfl, hj5⟩
        clear hy HRR HLD4 hsep hO'
        have HJ5 : Hid (J L.length O' W3) := by show J L.length O' W3; rw [HLE.out]; exact hj5
        clear hj5
        gi_wp2_with fail
        go_end0
        refine ⟨?_, O', HJ5.out⟩
        rw [HEN.out]
        exact ⟨_, rfl⟩
  · rw [q6] at k39
    gi_wp2_with fail
    refine ⟨trivial, (callsIn_wide.2 (must_good _ _)).mono ?_⟩
    rintro e w3 ⟨rfl, hw⟩
    obtain rfl := hw.symm
    clear hw
    gi_wp2_with fail
    refine wpIn_wide.2 ?_
    refine wp_region_hi (by kernel_rfl) (by kernel_rfl) ?_
    repeat (first
      | go_big_quiet_skip
      | (go_big_quiet_want; refine hi_load (.tmp 1) 28 rfl rfl HLA.out ?_; simp only [Act.put, List.setIfInBounds_toArray, List.set_cons_zero, List.set_cons_succ]; go_big_quiet_on)
      | (go_big_quiet_want; go_big_quiet_op; first | go_big_quiet_on | go_big_quiet_call (first | (go_at_call 45; with_reducible exact Hi.calls (HHD.out _)))))
    refine wpQuiet_nil ?_
    intro _ hw
    obtain ⟨y, rfl⟩ := hw
    have HWY : Hid _ := HW2.out.up y.below
    have HBY : Hid (Below W.heap.size W y.W) := HBW.out.trans (y.below.mono HBW.out.size)
    clear HLA hKM HHD HW2 HBW k39 k41
    generalize hyW : y.W = w4 at *
    clear hyW
    have hbl := HBL.out
    rw [HSPE.out]
    clear q7 v7
    have q7 : decide ((8 : Int) ≤ (sp : Int)) = true := by simp; omega
    gi_wp2_with fail
    refine ⟨trivial, (callsIn_wide.2 (must_good _ _)).mono ?_⟩
    rintro e w5 ⟨rfl, hw⟩
    obtain rfl := hw.symm
    clear hw
    have HLY : Hid _ := vb_load HWY.out.v
    have kid := blk_cell HWY.out.i (j := 0) rfl
    have hHE := headed_calls (vh := vh) (vb := vb) f g HWY.out.dd.hd.one HWY.out.dd.bd.one id w4
    rw [HGH.out] at hHE
    have HHE : Hid _ := hHE
    clear hHE
    gi_wp2_with ((with_reducible show wpListIn _ _ _ _ _ _ _ _); refine armLI (.tmp 1) 28 rfl rfl rfl HLY.out ?_)
    refine ⟨trivial, (callsIn_wide.2 HHE.out).mono ?_⟩
    rintro e w6 ⟨rfl, hb6⟩
    have hW6 := HWY.out.up hb6
    obtain ⟨w1, hst, hbx, hB1', hs1⟩ := vb_new w6 f gh (vh := vh) (vb := vb) hW6.dd.hd.one hW6.dd.bd.one
    unfold zeroV at hst
    have HST : Hid _ := hst
    have hB1 : Below W.heap.size W w1 := (HBY.out.trans (Below.mono hb6 HBY.out.size)).trans (Below.mono hB1' (Nat.le_trans HBY.out.size hb6.size))
    have hW1 := hW6.up hB1'
    obtain ⟨lb, hlbe⟩ : ∃ lb, lb = w6.heap.size := ⟨_, rfl⟩
    have hlb : W.heap.size ≤ lb := by have := HBY.out.size; have := hb6.size; omega
    have hIt : ItM f vh hs R w W lb O gh body vb w1 := by
      refine ⟨fun c hc => ⟨(HOO.out c hc).1, Nat.lt_of_lt_of_le (HOO.out c hc).2 hB1.size⟩, fun c hc => (hB1.block c (Nat.lt_of_lt_of_le (HRL.out c hc) hWw)).trans (HWR.out c hc), hB1.size, hlb, fun ho => by have := (HOO.out lb ho).2; omega, by rw [hlbe]; exact hbx, hW1.dd⟩
    have hJ1 : J 0 O w1 := HJ.out 0 O W w1 h0 (Sep.of_below hB1)
    have HIT : Hid (ItM f vh hs R w W lb O gh body vb w1) := hIt
    have HJ1 : Hid (J 0 O w1) := hJ1
    have HLE : Hid (lb = w6.heap.size) := hlbe
    clear hIt hJ1 hbx hB1 hB1' hs1 hW1 hW6 hb6 hst HLY kid HHE HWY HBY hlbe
    gi_wp2_with ((with_reducible show wpListIn _ _ _ _ _ _ _ _); refine armSI (.tmp 7) (.tmp 38) 28 rfl rfl rfl rfl HST.out ?_)
    simp only [Act.put]
    rw [← HLE.out]
    rw [show ((sp : Int) / 8 * 8) = (nn : Int) by have := HNN.out; omega]
    clear HST HLE
    gi_loopw [] (fun wr => ∃ (k : Nat) (O : Nat → Prop) (n : Nat) (of : Int) (b : List Int) (sb' : Value), Hid (L.drop k = (frs sp nn gh n of b).1 ∧ en = (frs sp nn gh n of b).2) ∧ b.length ≤ n ∧ 0 ≤ of ∧ of ≤ 8191 ∧ b.length ≤ 70000 ∧ Hid (J k O wr) ∧ Hid (ItM f vh hs R w W lb O { gh with off := of } b sb' wr)) (fun wr => bodyLen wr lb)
    case atStart => exact ⟨0, O, body.length, gh.off, body, vb, by show _ ∧ _; rw [List.drop_zero]; exact HLL.out, Nat.le_refl _, hof0.1, hof0.2, hbl, HJ1, HIT⟩
    case round =>
      obtain ⟨k, O, n, of, b, sb', hdr, hbn, hof, hofm, hbm, hj, hit⟩ := hrel
      have hbb := hit.out.dd.bd
      obtain ⟨a1, c1, hsb'⟩ : ∃ a c, sb' = .slice a b.length c := by obtain ⟨_, _, a, cap, e, _⟩ := hbb.row; exact ⟨_, _, e⟩
      subst hsb'
      have k41 := vb41 hit.out.box
      have HITB : Hid _ := bodyLen_of hit.out.box
      clear hbb
      generalize hbl' : b.length = nb at *
      have HNB : Hid (b.length = nb) := hbl'
      clear hbl'
      by_cases hfit : sp < nb
      · have q : decide ((sp : Int) < (nb : Int)) = true := by simp; omega
        have HFIT : Hid (¬ b.length ≤ sp) := by show ¬ _; rw [HNB.out]; omega
        obtain ⟨w3, hst, hbx, hB3, hs3⟩ := vb_new wr f { gh with off := of } (vh := vh) (vb := .slice a1 nb c1) hit.out.dd.hd.one rfl
        unfold zeroV at hst
        have HST : Hid _ := hst
        have HLD : Hid _ := vb_load hit.out.box
        have hit3 : Hid (ItM f vh hs R w W lb O { gh with off := of } b (.slice a1 nb c1) w3) := hit.out.on hWw HRL.out hB3
        have hj3 : Hid (J k O w3) := HJ.out k O _ _ hj.out (Sep.of_below hB3)
        have HBX : Hid _ := hbx
        have HB3 : Hid _ := hB3
        obtain ⟨w2, hw2⟩ : ∃ w2, w2 = wr := ⟨_, rfl⟩
        have hn8 : 8 ≤ nn := by have := HNN.out; omega
        have hnb : nn < nb := by have := HNN.out; omega
        have hnm : nn ≤ 100000 := by have := HNN.out; omega
        have hpos : 0 < b.length := by rw [HNB.out]; omega
        obtain ⟨u1, hu1, hbu1⟩ := cut_front hit3.out.dd.bd hpos nn (by rw [HNB.out]; omega)
        have hlbw : lb < wr.heap.size := (Array.getElem?_eq_some_iff.1 hit.out.box).1
        have hu1s := hbu1.slc
        have HU1 : Hid _ := hu1
        have HBU1 : Hid (BS R w3 u1 (b.take nn)) := hbu1
        have HIT3 : Hid _ := hit3.out.box
        clear hst hbx hB3 hs3 hu1 hbu1
        gi_wp2_with first
          | ((with_reducible show wpListIn _ _ _ _ _ _ _ _); refine armLI (.tmp 7) 28 rfl rfl rfl HLD.out ?_)
          | ((with_reducible show wpListIn _ _ _ _ _ _ _ _); refine armSI (.tmp 8) (.tmp 44) 28 rfl rfl rfl rfl HST.out ?_)
        try simp only [Act.put]
        clear HLD HST
        obtain rfl := hw2
        refine wpIn_wide.2 ?_
        refine region_mid (fun a0 a' w' => a' = ((((((a0.put (some 45) (.pointer (some ⟨lb, 41, none⟩))).put (some 46) ((.slice a1 nb c1))).put (some 47) (.int .i64 (nn : Nat))).put (some 48) (u1)).put (some 49) (.pointer (some ⟨w2.heap.size, 39, none⟩))).put (some 50) (.pointer (some ⟨w2.heap.size, 41, none⟩))) ∧ w'.heap[w2.heap.size]? = some (BV f { gh with off := of, more := true } vh u1) ∧ Below w2.heap.size w2 w') ?_ ?_
        · skip
          refine wp_region_held (S := fun X => X.heap[lb]? = some (BV f { gh with off := of } vh (.slice a1 nb c1))) (by kernel_rfl) ?_
          show wpAnyH _ _ _ _ _ 8 (Array.replicate 8 false) _ _
          have hs0 : w3.drew.heap[lb]? = some (BV f { gh with off := of } vh (.slice a1 nb c1)) := HIT3.out
          refine take_one (i := 0) (d := some 45) (v := .pointer (some ⟨lb, 41, none⟩)) rfl rfl rfl (by kernel_rfl) (by kernel_rfl) (by kernel_rfl) (fun _ _ _ _ _ h => h.elim) (fun W hS => by kernel_rfl) hs0 ?_
          simp only [Act.put, List.setIfInBounds_toArray, List.set_cons_zero, List.set_cons_succ]
          refine take_one (i := 1) (d := some 46) (v := (.slice a1 nb c1)) rfl rfl rfl (by kernel_rfl) (by kernel_rfl) (by kernel_rfl) (fun _ _ _ _ _ h => h.elim) (fun W hS => ex_load 45 rfl rfl (vb41 hS) ⟨_, _, _, rfl⟩) hs0 ?_
          simp only [Act.put, List.setIfInBounds_toArray, List.set_cons_zero, List.set_cons_succ]
          refine take_one (i := 2) (d := some 47) (v := .int .i64 (nn : Nat)) rfl rfl rfl (by kernel_rfl) (by kernel_rfl) (by kernel_rfl) (fun _ _ _ _ _ h => h.elim) (fun W hS => by kernel_rfl) hs0 ?_
          simp only [Act.put, List.setIfInBounds_toArray, List.set_cons_zero, List.set_cons_succ]
          refine take_one (i := 3) (d := some 48) (v := u1) rfl rfl rfl (by kernel_rfl) (by kernel_rfl) (by kernel_rfl) (fun _ _ _ _ _ h => h.elim) (fun W hS => ex_slice 26 (.tmp 46) none (some (.tmp 47)) rfl rfl rfl rfl (HU1.out W)) hs0 ?_
          simp only [Act.put, List.setIfInBounds_toArray, List.set_cons_zero, List.set_cons_succ]
          refine take_one (i := 4) (d := some 49) (v := .pointer (some ⟨w2.heap.size, 39, none⟩)) rfl rfl rfl (by kernel_rfl) (by kernel_rfl) (by kernel_rfl) (fun _ _ _ _ _ h => h.elim) (fun W hS => by kernel_rfl) hs0 ?_
          simp only [Act.put, List.setIfInBounds_toArray, List.set_cons_zero, List.set_cons_succ]
          have hf0 : w3.drew.heap[w2.heap.size]? = some (BV f { gh with off := of } vh (.slice a1 nb c1)) := HBX.out
          have hf1 := vs39 hf0 true
          have hl1 := blk_set_other hs0 (show lb ≠ w2.heap.size by omega) 39 (.bool true)
          refine all_one (i := 5) (by kernel_rfl) rfl rfl ?_
          refine wp_storeA (.tmp 49) (.const (.bool true)) 4 rfl rfl rfl rfl (st_bool hf0 (show 39 < _ by rw [vC_len]; omega) true) ⟨hl1, ?_⟩
          refine take_one (i := 6) (d := some 50) (v := .pointer (some ⟨w2.heap.size, 41, none⟩)) rfl rfl rfl (by kernel_rfl) (by kernel_rfl) (by kernel_rfl) (fun _ _ _ _ _ h => h.elim) (fun W hS => by kernel_rfl) hl1 ?_
          simp only [Act.put, List.setIfInBounds_toArray, List.set_cons_zero, List.set_cons_succ]
          have hf2 := vs41 hf1 u1
          have hl2 := blk_set_other hl1 (show lb ≠ w2.heap.size by omega) 41 u1
          refine all_one (i := 7) (by kernel_rfl) rfl rfl ?_
          refine wp_storeA (.tmp 50) (.tmp 48) 26 rfl rfl rfl rfl (st_row hf1 (show 41 < _ by rw [vC_len]; omega) hu1s) ⟨hl2, ?_⟩
          refine wpAnyH_done (by kernel_rfl) ?_ _
          exact ⟨rfl, hf2, ((HB3.out.drew).setCell (p := ⟨w2.heap.size, 39, none⟩) (Nat.le_refl _) _).setCell (p := ⟨w2.heap.size, 41, none⟩) (Nat.le_refl _) _⟩
        · rintro a' w4 ⟨rfl, hf4, hB4⟩
          simp only [Act.put, List.setIfInBounds_toArray, List.set_cons_zero, List.set_cons_succ]
          have hit4 : ItM f vh hs R w W lb O { gh with off := of } b (.slice a1 nb c1) w4 := hit.out.on hWw HRL.out hB4
          have hj4 : J k O w4 := HJ.out k O _ _ hj.out (Sep.of_below hB4)
          have hbu4 : BS R w4 u1 (b.take nn) := by
            obtain ⟨u1', hu1', hb1'⟩ := cut_front hit4.dd.bd hpos nn (by rw [HNB.out]; omega)
            have e : u1 = u1' := by
              have h1 := HU1.out w4
              rw [hu1' w4] at h1
              injection h1 with h1 _
              exact h1.symm
            rw [e]
            exact hb1'
          obtain ⟨hLk, hkL⟩ : L[k]? = some ⟨{ gh with off := of, more := true }, b.take nn⟩ ∧ k < L.length := by
            by_cases ho : of + (nn / 8 : Nat) ≤ 8191
            · obtain ⟨n', hn', hfr, _⟩ := frs_step (g := gh) HFIT.out hn8 (n := n) (by rw [HNB.out]; exact hbn) ho
              have hdr0 := hdr.out.1
              rw [hfr] at hdr0
              exact ⟨(drop_at hdr0).1, (drop_at hdr0).2.2⟩
            · have hdr0 := hdr.out.1
              rw [frs_far HFIT.out (by rw [HNB.out]; exact hbn) ho] at hdr0
              exact ⟨(drop_at hdr0).1, (drop_at hdr0).2.2⟩
          have hX : FragX f vh hs L k (VV f { gh with off := of, more := true } vh u1) O w4 := ⟨_, _, hLk, rfl, hit4.frag hbu4⟩
          have hyk := HY.out k _ w4 O hkL hit4.size hit4.own hX hj4 (9 - 1)
          obtain ⟨fn, tmps, assign, bodyc, hy, hR⟩ := hyk
          have HLD4 : Hid _ := vb_load hf4
          have HRR : Hid _ := hR
          have HIT4 : Hid (ItM f vh hs R w W lb O { gh with off := of } b (.slice a1 nb c1) w4) := hit4
          clear hf4 hB4 hLk hit4 hj4 hX hR HB3 HBX HIT3 hit3 hj3 hbu4 HBU1 k41 hit hj
          gi_wp2_with ((with_reducible show wpListIn _ _ _ _ _ _ _ _); refine armLI (.tmp 8) 28 rfl rfl rfl HLD4.out ?_)
          refine RoundIn.mono HRR.out ?_
          rintro e W3 ⟨O', hsep, hO', rfl, hj5⟩
          have hit5 := HIT4.out.round hWw HRL.out hsep hO'
          have HIT5 : Hid (ItM f vh hs R w W lb O' { gh with off := of } b (.slice a1 nb c1) W3) := hit5
          clear hy HRR HLD4 hit5 hsep hO' HIT4
          obtain ⟨u2, hu2, hbu2⟩ := cut_rest HIT5.out.dd.bd hpos nn (by rw [HNB.out]; omega)
          have hu2s := hbu2.slc
          have HU2 : Hid _ := hu2
          have HBU2 : Hid (BS R W3 u2 (b.drop nn)) := hbu2
          have HJ5 : Hid (J (k + 1) O' W3) := hj5
          have hofn : -9223372036854775808 ≤ of + ((nn / 8 : Nat) : Int) ∧ of + ((nn / 8 : Nat) : Int) ≤ 9223372036854775807 := by omega
          clear hu2 hbu2 hj5
          gi_wp2_with fail
          refine wpIn_wide.2 ?_
          refine region_mid (fun a0 a' w' => a' = (((((((((((a0.put (some 55) (.pointer (some ⟨lb, 38, none⟩))).put (some 56) (.int .i64 of)).put (some 57) (.int .i64 (nn : Nat))).put (some 58) (.int .i64 (nn / 8 : Nat))).put (some 59) (.int .i64 (of + (nn / 8 : Nat)))).put (some 60) (.pointer (some ⟨lb, 41, none⟩))).put (some 61) ((.slice a1 nb c1))).put (some 62) (.int .i64 (nn : Nat))).put (some 63) (u2)).put (some 64) (.pointer (some ⟨lb, 38, none⟩))).put (some 65) (.pointer (some ⟨lb, 41, none⟩))) ∧ w'.heap[lb]? = some (BV f { gh with off := of + (nn / 8 : Nat) } vh u2) ∧ Only lb W3 w') ?_ ?_
          · skip
            refine wp_region_held (S := fun _ => True) (by kernel_rfl) ?_
            show wpAnyH _ _ _ _ _ 13 (Array.replicate 13 false) _ _
            have hb0 : W3.drew.heap[lb]? = some (BV f { gh with off := of } vh (.slice a1 nb c1)) := HIT5.out.box
            refine take_one (i := 0) (d := some 55) (v := .pointer (some ⟨lb, 38, none⟩)) rfl rfl rfl (by kernel_rfl) (by kernel_rfl) (by kernel_rfl) (fun _ _ _ _ _ h => h.elim) (fun W hS => by kernel_rfl) trivial ?_
            simp only [Act.put, List.setIfInBounds_toArray, List.set_cons_zero, List.set_cons_succ]
            refine take_one (i := 2) (d := some 57) (v := .int .i64 (nn : Nat)) rfl rfl rfl (by kernel_rfl) (by kernel_rfl) (by kernel_rfl) (fun _ _ _ _ _ h => h.elim) (fun W hS => by kernel_rfl) trivial ?_
            simp only [Act.put, List.setIfInBounds_toArray, List.set_cons_zero, List.set_cons_succ]
            refine take_one (i := 3) (d := some 58) (v := .int .i64 (nn / 8 : Nat)) rfl rfl rfl (by kernel_rfl) (by kernel_rfl) (by kernel_rfl) (fun _ _ _ _ _ h => h.elim) (fun W hS => ex_div8 (.tmp 57) rfl rfl hnm) trivial ?_
            simp only [Act.put, List.setIfInBounds_toArray, List.set_cons_zero, List.set_cons_succ]
            refine take_one (i := 5) (d := some 60) (v := .pointer (some ⟨lb, 41, none⟩)) rfl rfl rfl (by kernel_rfl) (by kernel_rfl) (by kernel_rfl) (fun _ _ _ _ _ h => h.elim) (fun W hS => by kernel_rfl) trivial ?_
            simp only [Act.put, List.setIfInBounds_toArray, List.set_cons_zero, List.set_cons_succ]
            refine take_one (i := 7) (d := some 62) (v := .int .i64 (nn : Nat)) rfl rfl rfl (by kernel_rfl) (by kernel_rfl) (by kernel_rfl) (fun _ _ _ _ _ h => h.elim) (fun W hS => by kernel_rfl) trivial ?_
            simp only [Act.put, List.setIfInBounds_toArray, List.set_cons_zero, List.set_cons_succ]
            refine all_two (i1 := 1) (i2 := 6) (by kernel_rfl) rfl rfl rfl rfl ?_ ?_
            · refine wp_loadA (d := some 56) (.tmp 55) 3 rfl rfl rfl (ld_int (vb38 hb0)) ⟨trivial, ?_⟩
              simp only [Act.put, List.setIfInBounds_toArray, List.set_cons_zero, List.set_cons_succ]
              refine take_one (i := 4) (d := some 59) (v := .int .i64 (of + (nn / 8 : Nat))) rfl rfl rfl (by kernel_rfl) (by kernel_rfl) (by kernel_rfl) (fun _ _ _ _ _ h => h.elim) (fun W hS => ex_addI (.tmp 56) (.tmp 58) rfl rfl rfl hofn) trivial ?_
              simp only [Act.put, List.setIfInBounds_toArray, List.set_cons_zero, List.set_cons_succ]
              refine all_one (i := 6) (by kernel_rfl) rfl rfl ?_
              refine wp_loadA (d := some 61) (.tmp 60) 26 rfl rfl rfl (ld_row (vb41 hb0) ⟨_, _, _, rfl⟩) ⟨trivial, ?_⟩
              simp only [Act.put, List.setIfInBounds_toArray, List.set_cons_zero, List.set_cons_succ]
              refine take_one (i := 8) (d := some 63) (v := u2) rfl rfl rfl (by kernel_rfl) (by kernel_rfl) (by kernel_rfl) (fun _ _ _ _ _ h => h.elim) (fun W hS => ex_slice 26 (.tmp 61) (some (.tmp 62)) none rfl rfl rfl rfl (HU2.out W)) trivial ?_
              simp only [Act.put, List.setIfInBounds_toArray, List.set_cons_zero, List.set_cons_succ]
              refine take_one (i := 9) (d := some 64) (v := .pointer (some ⟨lb, 38, none⟩)) rfl rfl rfl (by kernel_rfl) (by kernel_rfl) (by kernel_rfl) (fun _ _ _ _ _ h => h.elim) (fun W hS => by kernel_rfl) trivial ?_
              simp only [Act.put, List.setIfInBounds_toArray, List.set_cons_zero, List.set_cons_succ]
              have hb1 := vs38 hb0 (of + (nn / 8 : Nat))
              refine all_one (i := 10) (by kernel_rfl) rfl rfl ?_
              refine wp_storeA (.tmp 64) (.tmp 59) 3 rfl rfl rfl rfl (st_int hb0 (show 38 < _ by rw [vC_len]; omega) _) ⟨trivial, ?_⟩
              refine take_one (i := 11) (d := some 65) (v := .pointer (some ⟨lb, 41, none⟩)) rfl rfl rfl (by kernel_rfl) (by kernel_rfl) (by kernel_rfl) (fun _ _ _ _ _ h => h.elim) (fun W hS => by kernel_rfl) trivial ?_
              simp only [Act.put, List.setIfInBounds_toArray, List.set_cons_zero, List.set_cons_succ]
              have hb3 := vs41 hb1 u2
              refine all_one (i := 12) (by kernel_rfl) rfl rfl ?_
              refine wp_storeA (.tmp 65) (.tmp 63) 26 rfl rfl rfl rfl (st_row hb1 (show 41 < _ by rw [vC_len]; omega) hu2s) ⟨trivial, ?_⟩
              refine wpAnyH_done (by kernel_rfl) ?_ _
              exact ⟨rfl, hb3, (((Only.refl lb W3).drew).set 38 _).set 41 _⟩
            · refine wp_loadA (d := some 61) (.tmp 60) 26 rfl rfl rfl (ld_row (vb41 hb0) ⟨_, _, _, rfl⟩) ⟨trivial, ?_⟩
              simp only [Act.put, List.setIfInBounds_toArray, List.set_cons_zero, List.set_cons_succ]
              refine take_one (i := 8) (d := some 63) (v := u2) rfl rfl rfl (by kernel_rfl) (by kernel_rfl) (by kernel_rfl) (fun _ _ _ _ _ h => h.elim) (fun W hS => ex_slice 26 (.tmp 61) (some (.tmp 62)) none rfl rfl rfl rfl (HU2.out W)) trivial ?_
              simp only [Act.put, List.setIfInBounds_toArray, List.set_cons_zero, List.set_cons_succ]
              refine all_one (i := 1) (by kernel_rfl) rfl rfl ?_
              refine wp_loadA (d := some 56) (.tmp 55) 3 rfl rfl rfl (ld_int (vb38 hb0)) ⟨trivial, ?_⟩
              simp only [Act.put, List.setIfInBounds_toArray, List.set_cons_zero, List.set_cons_succ]
              refine take_one (i := 4) (d := some 59) (v := .int .i64 (of + (nn / 8 : Nat))) rfl rfl rfl (by kernel_rfl) (by kernel_rfl) (by kernel_rfl) (fun _ _ _ _ _ h => h.elim) (fun W hS => ex_addI (.tmp 56) (.tmp 58) rfl rfl rfl hofn) trivial ?_
              simp only [Act.put, List.setIfInBounds_toArray, List.set_cons_zero, List.set_cons_succ]
              refine take_one (i := 9) (d := some 64) (v := .pointer (some ⟨lb, 38, none⟩)) rfl rfl rfl (by kernel_rfl) (by kernel_rfl) (by kernel_rfl) (fun _ _ _ _ _ h => h.elim) (fun W hS => by kernel_rfl) trivial ?_
              simp only [Act.put, List.setIfInBounds_toArray, List.set_cons_zero, List.set_cons_succ]
              have hb1 := vs38 hb0 (of + (nn / 8 : Nat))
              refine all_one (i := 10) (by kernel_rfl) rfl rfl ?_
              refine wp_storeA (.tmp 64) (.tmp 59) 3 rfl rfl rfl rfl (st_int hb0 (show 38 < _ by rw [vC_len]; omega) _) ⟨trivial, ?_⟩
              refine take_one (i := 11) (d := some 65) (v := .pointer (some ⟨lb, 41, none⟩)) rfl rfl rfl (by kernel_rfl) (by kernel_rfl) (by kernel_rfl) (fun _ _ _ _ _ h => h.elim) (fun W hS => by kernel_rfl) trivial ?_
              simp only [Act.put, List.setIfInBounds_toArray, List.set_cons_zero, List.set_cons_succ]
              have hb3 := vs41 hb1 u2
              refine all_one (i := 12) (by kernel_rfl) rfl rfl ?_
              refine wp_storeA (.tmp 65) (.tmp 63) 26 rfl rfl rfl rfl (st_row hb1 (show 41 < _ by rw [vC_len]; omega) hu2s) ⟨trivial, ?_⟩
              refine wpAnyH_done (by kernel_rfl) ?_ _
              exact ⟨rfl, hb3, (((Only.refl lb W3).drew).set 38 _).set 41 _⟩
          · rintro a' w6 ⟨rfl, hb6, hon6⟩
            simp only [Act.put, List.setIfInBounds_toArray, List.set_cons_zero, List.set_cons_succ]
            have hit6 : ItM f vh hs R w W lb O' { gh with off := of + (nn / 8 : Nat) } (b.drop nn) u2 w6 := HIT5.out.put hWw HRL.out hon6 hb6 HBU2.out
            have hj6 : J (k + 1) O' w6 := HJ.out _ _ _ _ HJ5.out (Sep.of_only hon6 ⟨HIT5.out.lo, HIT5.out.nl⟩)
            have HIT6 : Hid (ItM f vh hs R w W lb O' { gh with off := of + (nn / 8 : Nat) } (b.drop nn) u2 w6) := hit6
            have HJ6 : Hid (J (k + 1) O' w6) := hj6
            have k38 := vb38 hb6
            simp only at k38
            have HBL6 : Hid (bodyLen w6 lb = nb - nn) := by show bodyLen w6 lb = nb - nn; rw [bodyLen_of hb6, HBU2.out.row.lenV, List.length_drop, HNB.out]
            have HDL : Hid ((b.drop nn).length = nb - nn) := by show (b.drop nn).length = nb - nn; rw [List.length_drop, HNB.out]
            clear hit6 hj6 hb6 hon6 HIT5 HJ5 HU2 HBU2
            by_cases ho : of + (nn / 8 : Nat) ≤ 8191
            · have HOK : Hid (of + (nn / 8 : Nat) ≤ 8191) := ho
              have q9 : decide (of + ((nn / 8 : Nat) : Int) ≤ 8191) = true := by simpa using ho
              obtain ⟨n', hn', hfr, hfr2⟩ := frs_step (g := gh) HFIT.out hn8 (n := n) (by rw [HNB.out]; exact hbn) ho
              have hdr0 := hdr.out.1
              rw [hfr] at hdr0
              have HLD : Hid (L.drop (k + 1) = (frs sp nn gh n' (of + (nn / 8 : Nat)) (b.drop nn)).1 ∧ en = (frs sp nn gh n' (of + (nn / 8 : Nat)) (b.drop nn)).2) := ⟨(drop_at hdr0).2.1, hdr.out.2.trans hfr2⟩
              have HN' : Hid ((b.drop nn).length ≤ n') := hn'
              have HOP : Hid (0 ≤ of + ((nn / 8 : Nat) : Int)) := by show _ ≤ _; omega
              clear hdr0 hfr hfr2 hn' ho hdr
              generalize hoo : of + ((nn / 8 : Nat) : Int) = of2 at *
              clear hoo
              gi_wp2_with fail
              refine ⟨trivial, (callsIn_wide.2 (must_good _ _)).mono ?_⟩
              rintro e w7 ⟨rfl, hw⟩
              obtain rfl := hw.symm
              clear hw
              gi_wp2_with fail
              refine ⟨⟨k + 1, O', n', of2, b.drop nn, u2, HLD, HN'.out, HOP.out, HOK.out, by rw [HDL.out]; omega, HJ6, HIT6⟩, ?_⟩
              have h1 := HBL6.out
              have h2 := HITB.out
              simp only [lenV] at h2
              omega
            · have q9 : decide (of + ((nn / 8 : Nat) : Int) ≤ 8191) = false := by simpa using ho
              have hf := frs_far (g := gh) HFIT.out (n := n) (by rw [HNB.out]; exact hbn) ho
              have hen := hdr.out.2
              have hdr0 := hdr.out.1
              rw [hf] at hen hdr0
              have hLe : L.length = k + 1 := by
                have := congrArg List.length hdr0
                simp at this
                omega
              have HEN : Hid (en = some 5) := hen
              have HJE : Hid (J L.length O' w6) := by show J L.length O' w6; rw [hLe]; exact HJ6.out
              clear hf hen hdr0 hLe ho hdr
              generalize hoo : of + ((nn / 8 : Nat) : Int) = of2 at *
              clear hoo
              gi_wp2_with fail
              refine ⟨trivial, (callsIn_wide.2 (must_bad _ _)).mono ?_⟩
              rintro e w7 ⟨rfl, hw⟩
              obtain rfl := hw.symm
              refine ⟨rfl, ?_, O', HJE.out⟩
              rw [HEN.out]
              rfl
      · have q : decide ((sp : Int) < (nb : Int)) = false := by simp; omega
        have hf := frs_fits (nn := nn) (g := gh) (n := n) (off := of) (b := b) (sp := sp) (by rw [HNB.out]; omega)
        have hen := hdr.out.2
        have hdr0 := hdr.out.1
        rw [hf] at hen hdr0
        obtain ⟨hLk, hLd, hkL⟩ := drop_at hdr0
        have hLe : L.length = k + 1 := by
          have := congrArg List.length hdr0
          simp at this
          omega
        have hX : FragX f vh hs L k (VV f { gh with off := of } vh (.slice a1 nb c1)) O wr := ⟨_, _, hLk, rfl, hit.out.frag hit.out.dd.bd⟩
        have hyk := HY.out k _ wr O hkL hit.out.size hit.out.own hX hj.out (9 - 1)
        obtain ⟨fn, tmps, assign, bodyc, hy, hR⟩ := hyk
        have HLD4 : Hid _ := vb_load hit.out.box
        have HRR : Hid _ := hR
        have HLE : Hid _ := hLe
        have HEN : Hid (en = none) := hen
        clear hdr0 hLk hLd hX hR hLe hkL hf hen
        gi_wp2_with ((with_reducible show wpListIn _ _ _ _ _ _ _ _); refine armLI (.tmp 7) 28 rfl rfl rfl HLD4.out ?_)
        refine RoundIn.mono HRR.out ?_
        rintro e W3 ⟨O', hsep, hO', rfl, hj5⟩
        clear hy HRR HLD4 hsep hO'
        have HJ5 : Hid (J L.length O' W3) := by show J L.length O' W3; rw [HLE.out]; exact hj5
        clear hj5
        gi_wp2_with fail
        go_end0
        refine ⟨?_, O', HJ5.out⟩
        rw [HEN.out]
        exact ⟨_, rfl⟩
end

end Go.Proofs.Ytcllcinekohklaa
