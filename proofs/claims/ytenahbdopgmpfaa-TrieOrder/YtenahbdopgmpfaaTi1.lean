/-
  TrieGone.
-/
import Derived.Test.YtenahbdopgmpfaaTh8
import Derived.Test.YtenahbdopgmpfaaFold39
namespace Go.Proofs.Ytenahbdopgmpfaa
open Go Go.RowKit Go.Shelf
open Go.ChangeShapes Go.WideShapes Go.ChangeAt
set_option linter.unusedVariables false
set_option linter.unusedSimpArgs false

theorem look_ins {k : Bs} {v : Int} : ∀ {l : List Ent}, lookN k (ins k v l) = (v, true)
  | [] => by simp [ins, lookN]
  | x :: l => by
    rw [ins]
    split
    · rename_i c
      rw [lookN, if_neg (ltB_ne c)]
      exact look_ins
    · split <;> simp [lookN]
theorem ins_back {k : Bs} {v : Int} : ∀ {l : List Ent}, Srt l → (lookN k l).2 = true → ins k (lookN k l).1 (ins k v l) = l
  | [], _, h => by simp [lookN] at h
  | x :: l, hs, h => by
    obtain ⟨h1, h2⟩ := srt_tail hs
    by_cases c : ltB x.1 k = true
    · have e : lookN k (x :: l) = lookN k l := by rw [lookN, if_neg (ltB_ne c)]
      rw [e] at h ⊢
      rw [ins, if_pos c, ins, if_pos c, ins_back h1 h]
    · by_cases d : x.1 = k
      · have e : lookN k (x :: l) = (x.2, true) := by rw [lookN, if_pos d]
        rw [e]
        have e1 : ins k v (x :: l) = (k, v) :: l := by rw [ins, if_neg c, if_pos d]
        rw [e1, ins, if_neg (by simp [ltB_irr]), if_pos rfl, ← d]
      · have : ltB k x.1 = true := ltB_tri (by simpa using c) d
        have e : lookN k (x :: l) = (0, false) := by
          rw [lookN, if_neg d]
          exact look_less fun e he => ltB_trans this (h2 e he)
        rw [e] at h
        cases h
theorem outs_ins {k : Bs} {v : Int} : ∀ {l : List Ent}, Srt l → (lookN k l).2 = false → outs k (ins k v l) = l
  | [], _, _ => by simp [ins, outs]
  | x :: l, hs, h => by
    obtain ⟨h1, h2⟩ := srt_tail hs
    by_cases c : ltB x.1 k = true
    · have e : lookN k (x :: l) = lookN k l := by rw [lookN, if_neg (ltB_ne c)]
      rw [e] at h
      have := outs_ins (v := v) h1 h
      unfold outs at this ⊢
      rw [ins, if_pos c, List.filter_cons, if_pos (by simpa using ltB_ne c), this]
    · have d : x.1 ≠ k := fun d => by rw [lookN, if_pos d] at h; cases h
      have hh := outs_look h
      rw [ins, if_neg c, if_neg d]
      unfold outs at hh ⊢
      rw [List.filter_cons, if_neg (by simp), hh]
theorem putR_cases (l : List Ent) (ok : Bool) (k : Bs) (lim cnt v : Int) : putR l ok k lim cnt v = (false, 22, l) ∨ putR l ok k lim cnt v = (false, 3, l) ∨ (ok = true ∧ (lookN k l).2 = true ∧ putR l ok k lim cnt v = (true, 0, ins k v l)) ∨ (ok = true ∧ (lookN k l).2 = false ∧ putR l ok k lim cnt v = (false, 0, ins k v l)) := by
  cases ok with
  | false => exact .inl rfl
  | true =>
    show docP l k lim cnt v = _ ∨ docP l k lim cnt v = _ ∨ (_ ∧ _ ∧ docP l k lim cnt v = _) ∨ (_ ∧ _ ∧ docP l k lim cnt v = _)
    cases h : (lookN k l).2 with
    | true => exact .inr (.inr (.inl ⟨rfl, rfl, docP_was h⟩))
    | false =>
      by_cases hq : lim ≤ cnt
      · exact .inr (.inl (docP_full h hq))
      · exact .inr (.inr (.inr ⟨rfl, rfl, docP_new h hq⟩))
theorem getR_was {l : List Ent} {k : Bs} (h : (lookN k l).2 = true) : getR l true k = ((lookN k l).1, true, 0) := by
  unfold getR
  rw [if_neg (by simp), h]
theorem putR_back {l : List Ent} {k : Bs} {lim cnt v : Int} (hs : Srt l) (h : (lookN k l).2 = true) : putR (ins k v l) true k lim cnt (lookN k l).1 = (true, 0, l) := by
  show docP (ins k v l) k lim cnt (lookN k l).1 = _
  rw [docP_was (by rw [look_ins]), ins_back hs h]
theorem delR_back {l : List Ent} {k : Bs} {v : Int} (hs : Srt l) (h : (lookN k l).2 = false) : delR (ins k v l) true k = (0, l) := by
  show (if (lookN k (ins k v l)).2 then (0 : Int) else 120, outs k (ins k v l)) = _
  rw [look_ins, outs_ins hs h]
  rfl
theorem OpsAt.below {W W' : World} {v : Value} {os : List OpD} (h : OpsAt W v os) (hb : Below W.heap.size W W') : OpsAt W' v os := by
  obtain ⟨ad, cap, e, h1, h2, h3⟩ := h
  refine ⟨ad, cap, e, h1, h2, fun hne => ?_⟩
  obtain ⟨g, off, e1, hg, hc⟩ := h3 hne
  exact ⟨g, off, e1, Nat.lt_of_lt_of_le hg hb.size, fun j r hj k u hk => (hb.cell (p := ⟨g, _, none⟩) hg).trans (hc j r hj k u hk)⟩
set_option maxHeartbeats 16000000 in
set_option maxRecDepth 100000 in
theorem trieGone_walk {W : World} {vv : Value} {os : List OpD} (lim : Int) (hlim : -9223372036854775808 ≤ lim ∧ lim ≤ 9223372036854775807) (ho : OpsAt W vv os) (hi : ∀ o ∈ os, o.In) (l : List Int) (n : Int) (hi4 : FitB l ∧ l.length = 4 ∧ (-9223372036854775808 ≤ n ∧ n ≤ 9223372036854775807)) (lq : List Int) (m : Int) (hi6 : FitB lq ∧ lq.length = 16 ∧ (-9223372036854775808 ≤ m ∧ m ≤ 9223372036854775807)) (v : Int) :
    Calls Try.prog 6 #[.int .i64 lim, vv, .agg (cp6 l n).toArray, .agg (cp6 lq m).toArray, .int .i64 v] W fun e w' => e = .returned (.bool true) ∧ Below W.heap.size W w' := by
  generalize hQ : (fun (e : Ending) (w' : World) => e = .returned (.bool true) ∧ Below W.heap.size W w') = Q
  have HQ : Hid (∀ e w', (e = .returned (.bool true) ∧ Below W.heap.size W w') → Q e w') := fun e w' hh => by rw [← hQ]; exact hh
  clear hQ
  obtain ⟨W1, hW1⟩ : ∃ W1, W1 = (W.alloc (.cells (cp6 l n).toArray 35)).alloc (.cells (cp6 lq m).toArray 39) := ⟨_, rfl⟩
  have hs1 : W1.heap.size = W.heap.size + 1 + 1 := by rw [hW1]; simp
  have hB1 : Below W.heap.size W W1 := by rw [hW1]; exact ((Below.refl W.heap.size W).alloc (Nat.le_refl _) _).alloc (by simp) _
  have hx4 : W1.heap[W.heap.size]? = some (.cells (cp6 l n).toArray 35) := by rw [hW1]; exact blk_alloc (blk_new W _) _
  have hx6 : W1.heap[W.heap.size + 1]? = some (.cells (cp6 lq m).toArray 39) := by
    have := blk_new (W.alloc (.cells (cp6 l n).toArray 35)) (.cells (cp6 lq m).toArray 39)
    rw [show (W.alloc (.cells (cp6 l n).toArray 35)).heap.size = W.heap.size + 1 by simp] at this
    rw [hW1]; exact this
  have HM : Hid (Calls Try.prog 13 #[.int .i64 lim, vv] W1 fun e w' => MadeP lim W1 e w') := made_any lim hlim (ho.below hB1) hi
  have HX4 : Hid (W1.heap[W.heap.size]? = some (.cells (cp6 l n).toArray 35)) := hx4
  have HX6 : Hid (W1.heap[W.heap.size + 1]? = some (.cells (cp6 lq m).toArray 39)) := hx6
  have HB1 : Hid (Below W.heap.size W W1) := hB1
  have HS1 : Hid (W1.heap.size = W.heap.size + 1 + 1) := hs1
  have HI4 : Hid (FitB l ∧ l.length = 4 ∧ (-9223372036854775808 ≤ n ∧ n ≤ 9223372036854775807)) := hi4
  have HI6 : Hid (FitB lq ∧ lq.length = 16 ∧ (-9223372036854775808 ≤ m ∧ m ≤ 9223372036854775807)) := hi6
  have hW := hW1.symm
  clear hW1 hs1 hB1 hx4 hx6 ho hi hi4 hi6 hlim
  go_enter Try.func6, Try.ntmps6
  go_wp2_with fail
  clear hW
  refine Calls.mono HM.out ?_
  rintro e w1 (⟨hbad, rfl, hb1⟩ | ⟨hg, p, b, rfl, hwp, hpb, l4, l6, u4, u6, ht, hd, hc, hb1⟩)
  · have HB2 : Hid (Below W.heap.size W w1) := HB1.out.trans (hb1.mono HB1.out.size)
    clear hb1 hbad
    go_wp2_with fail
    refine Calls.mono (awake_any w1) ?_
    rintro e w2 ⟨rfl, hb2⟩
    have HFZ : Hid (Below W.heap.size W w2) := HB2.out.trans (hb2.mono HB2.out.size)
    clear hb2
    go_wp2
    try go_ret
    exact HQ.out _ _ ⟨rfl, HFZ.out⟩
  · have HT1 : Hid (TBL p lim l4 l6 w1) := ht
    have HD1 : Hid (Doc b lim l4 l6 u4 u6 w1) := hd
    have HC : Hid (LC lim l4 l6) := hc
    have HPB : Hid (p < b) := hpb
    have HWP1 : Hid (W1.heap.size ≤ p) := hwp
    have HB2a : Hid (Below W1.heap.size W1 w1) := hb1
    clear ht hd hc hpb hwp hb1 hg
    go_wp2_with fail
    refine Calls.mono (awake_any w1) ?_
    rintro e w2 ⟨rfl, hb2⟩
    have hk := HB2a.out.trans (hb2.mono HB2a.out.size)
    have HTw2 : Hid (TBL p lim l4 l6 w2) := HT1.out.on (hb2.block _ HT1.out.lt)
    have HD : Hid (Doc b lim l4 l6 u4 u6 w2) := HD1.out.on hb2
    have HWP : Hid (W.heap.size ≤ p) := by
      have := HWP1.out; have := HS1.out
      have h3 : W.heap.size ≤ p := by omega
      exact h3
    have HB2 : Hid (Below W.heap.size W w2) := HB1.out.trans (hk.mono HB1.out.size)
    have HFw2 : Hid (FrT p w2 w2) := ⟨Nat.le_refl _, fun B _ _ => Below.refl _ _, fun j _ _ => rfl⟩
    have h4 := blk_on HX4.out hk
    have h6 := blk_on HX6.out hk
    have HL4 : Hid (∀ X, FrT p w2 X → (Instr.loadAt 35 (.pointer (some ⟨W.heap.size, 0, none⟩))).run Try.prog X = .ok (.agg (cp6 l n).toArray) X) := fun X hX => agg_load (n := 5) (fun w => by kernel_rfl) (fun w => by kernel_rfl) (by simp [cp6, u8s, HI4.out.2.1]) (CellsAt.of_blk ((hX.2.2 _ (Array.getElem?_eq_some_iff.1 h4).1 (by have := HWP1.out; have := HS1.out; omega)).trans h4))
    have HL6 : Hid (∀ X, FrT p w2 X → (Instr.loadAt 39 (.pointer (some ⟨W.heap.size + 1, 0, none⟩))).run Try.prog X = .ok (.agg (cp6 lq m).toArray) X) := fun X hX => agg_load (n := 17) (fun w => by kernel_rfl) (fun w => by kernel_rfl) (by simp [cp6, u8s, HI6.out.2.1]) (CellsAt.of_blk ((hX.2.2 _ (Array.getElem?_eq_some_iff.1 h6).1 (by have := HWP1.out; have := HS1.out; omega)).trans h6))
    clear hb2 hk h4 h6 HT1 HD1 HB2a HM HX4 HX6
    rcases putR_cases l4 (ok4L l n) (keyN l n) lim ((l4.length + l6.length : Nat) : Int) v with hR | hR | ⟨hok, hlk, hR⟩ | ⟨hok, hlk, hR⟩
    · have hP := PPut4 HTw2.out HC.out l n HI4.out.1 HI4.out.2.1 HI4.out.2.2 v
      simp only [hR] at hP
      have HP : Hid _ := hP
      clear hP
      go_wp2_with first
        | ((with_reducible show wpList _ _ _ ({ dst := _, op := Op.load 35 (Operand.tmp 7), type := _, pos := _, after := _, guard := _ } :: _) _ _); refine armLv (.tmp 7) 35 rfl rfl rfl (HL4.out _ HFw2.out) ?_)
      refine Calls.mono HP.out ?_
      rintro e aw2 ⟨rfl, ht, hf⟩
      have HTaw2 : Hid (TBL p lim l4 l6 aw2) := ht
      have HFaw2 : Hid (FrT p w2 aw2) := HFw2.out.trans hf
      clear ht hf hR HP
      rcases putR_cases l6 (ok6L lq m) (keyN lq m) lim ((l4.length + l6.length : Nat) : Int) v with hR | hR | ⟨hok, hlk, hR⟩ | ⟨hok, hlk, hR⟩
      · have hP := PPut6 HTaw2.out HC.out lq m HI6.out.1 HI6.out.2.1 HI6.out.2.2 v
        simp only [hR] at hP
        have HP : Hid _ := hP
        clear hP
        go_wp2_with first
          | ((with_reducible show wpList _ _ _ ({ dst := _, op := Op.load 39 (Operand.tmp 8), type := _, pos := _, after := _, guard := _ } :: _) _ _); refine armLv (.tmp 8) 39 rfl rfl rfl (HL6.out _ HFaw2.out) ?_)
        refine Calls.mono HP.out ?_
        rintro e aaw2 ⟨rfl, ht, hf⟩
        have HTaaw2 : Hid (TBL p lim l4 l6 aaw2) := ht
        have HFaaw2 : Hid (FrT p w2 aaw2) := HFaw2.out.trans hf
        clear ht hf hR HP
        go_wp2_with fail
        refine Calls.mono (same_any HTaaw2.out (HD.out.frT HPB.out HFaaw2.out) HC.out) ?_
        rintro e wz ⟨rfl, hb⟩
        have HFZ : Hid (Below W.heap.size W wz) := (HB2.out.trans (HFaaw2.out.2.1 _ HWP.out HB2.out.size)).trans (hb.mono (Nat.le_trans HB2.out.size HFaaw2.out.1))
        clear hb
        go_wp2
        try go_ret
        exact HQ.out _ _ ⟨rfl, HFZ.out⟩
      · have hP := PPut6 HTaw2.out HC.out lq m HI6.out.1 HI6.out.2.1 HI6.out.2.2 v
        simp only [hR] at hP
        have HP : Hid _ := hP
        clear hP
        go_wp2_with first
          | ((with_reducible show wpList _ _ _ ({ dst := _, op := Op.load 39 (Operand.tmp 8), type := _, pos := _, after := _, guard := _ } :: _) _ _); refine armLv (.tmp 8) 39 rfl rfl rfl (HL6.out _ HFaw2.out) ?_)
        refine Calls.mono HP.out ?_
        rintro e aaw2 ⟨rfl, ht, hf⟩
        have HTaaw2 : Hid (TBL p lim l4 l6 aaw2) := ht
        have HFaaw2 : Hid (FrT p w2 aaw2) := HFaw2.out.trans hf
        clear ht hf hR HP
        go_wp2_with fail
        refine Calls.mono (same_any HTaaw2.out (HD.out.frT HPB.out HFaaw2.out) HC.out) ?_
        rintro e wz ⟨rfl, hb⟩
        have HFZ : Hid (Below W.heap.size W wz) := (HB2.out.trans (HFaaw2.out.2.1 _ HWP.out HB2.out.size)).trans (hb.mono (Nat.le_trans HB2.out.size HFaaw2.out.1))
        clear hb
        go_wp2
        try go_ret
        exact HQ.out _ _ ⟨rfl, HFZ.out⟩
      · have hP := PPut6 HTaw2.out HC.out lq m HI6.out.1 HI6.out.2.1 HI6.out.2.2 v
        simp only [hR] at hP
        have HP : Hid _ := hP
        clear hP
        go_wp2_with first
          | ((with_reducible show wpList _ _ _ ({ dst := _, op := Op.load 39 (Operand.tmp 8), type := _, pos := _, after := _, guard := _ } :: _) _ _); refine armLv (.tmp 8) 39 rfl rfl rfl (HL6.out _ HFaw2.out) ?_)
        refine Calls.mono HP.out ?_
        rintro e aaw2 ⟨rfl, ht, hf⟩
        have HTI : Hid (TBL p lim l4 (ins (keyN lq m) v l6) aaw2) := ht
        have HFaaw2 : Hid (FrT p w2 aaw2) := HFaw2.out.trans hf
        have hlc := putR_lc6 HC.out (ok6L lq m) (k := (keyN lq m)) (fun h => (pv6 HI6.out.1 HI6.out.2.1 h).2) v
        simp only [hR] at hlc
        have HLC : Hid (LC lim l4 (ins (keyN lq m) v l6)) := hlc
        have hG := DGet6 (HD.out.frT HPB.out HFaaw2.out) HC.out lq m HI6.out.1 HI6.out.2.1 HI6.out.2.2
        rw [hok, getR_was hlk] at hG
        have HG : Hid _ := hG
        have hQ2 := PPut6 HTI.out HLC.out lq m HI6.out.1 HI6.out.2.1 HI6.out.2.2 (lookN (keyN lq m) l6).1
        have HBK : Hid _ := putR_back (lim := lim) (cnt := ((l4.length + (ins (keyN lq m) v l6).length : Nat) : Int)) (v := v) HC.out.s6 hlk
        have HOK : Hid ((ok6L lq m) = true) := hok
        clear ht hf hlc hG hQ2 hR hlk hok HP
        go_wp2_with first
          | ((with_reducible show wpList _ _ _ ({ dst := _, op := Op.load 39 (Operand.tmp 8), type := _, pos := _, after := _, guard := _ } :: _) _ _); refine armLv (.tmp 8) 39 rfl rfl rfl (HL6.out _ HFaaw2.out) ?_)
        refine Calls.mono HG.out ?_
        rintro e baw2 ⟨rfl, hb⟩
        have HTJ : Hid (TBL p lim l4 (ins (keyN lq m) v l6) baw2) := HTI.out.on (hb.block _ HTI.out.lt)
        have HFbaw2 : Hid (FrT p w2 baw2) := HFaaw2.out.trans (FrT.of_below hb)
        have hP2 := PPut6 HTJ.out HLC.out lq m HI6.out.1 HI6.out.2.1 HI6.out.2.2 (lookN (keyN lq m) l6).1
        rw [HOK.out] at hP2
        simp only [HBK.out] at hP2
        have HP2 : Hid _ := hP2
        clear hb hP2 HG HTI HBK
        generalize (lookN (keyN lq m) l6).1 = lv at *
        go_wp2_with first
          | ((with_reducible show wpList _ _ _ ({ dst := _, op := Op.load 39 (Operand.tmp 8), type := _, pos := _, after := _, guard := _ } :: _) _ _); refine armLv (.tmp 8) 39 rfl rfl rfl (HL6.out _ HFbaw2.out) ?_)
        refine Calls.mono HP2.out ?_
        rintro e daw2 ⟨rfl, ht, hf⟩
        have HTdaw2 : Hid (TBL p lim l4 l6 daw2) := ht
        have HFdaw2 : Hid (FrT p w2 daw2) := HFbaw2.out.trans hf
        clear ht hf HP2 HTJ HLC HOK
        go_wp2_with fail
        refine Calls.mono (same_any HTdaw2.out (HD.out.frT HPB.out HFdaw2.out) HC.out) ?_
        rintro e wz ⟨rfl, hb⟩
        have HFZ : Hid (Below W.heap.size W wz) := (HB2.out.trans (HFdaw2.out.2.1 _ HWP.out HB2.out.size)).trans (hb.mono (Nat.le_trans HB2.out.size HFdaw2.out.1))
        clear hb
        go_wp2
        try go_ret
        exact HQ.out _ _ ⟨rfl, HFZ.out⟩
      · have hP := PPut6 HTaw2.out HC.out lq m HI6.out.1 HI6.out.2.1 HI6.out.2.2 v
        simp only [hR] at hP
        have HP : Hid _ := hP
        clear hP
        go_wp2_with first
          | ((with_reducible show wpList _ _ _ ({ dst := _, op := Op.load 39 (Operand.tmp 8), type := _, pos := _, after := _, guard := _ } :: _) _ _); refine armLv (.tmp 8) 39 rfl rfl rfl (HL6.out _ HFaw2.out) ?_)
        refine Calls.mono HP.out ?_
        rintro e aaw2 ⟨rfl, ht, hf⟩
        have HTI : Hid (TBL p lim l4 (ins (keyN lq m) v l6) aaw2) := ht
        have HFaaw2 : Hid (FrT p w2 aaw2) := HFaw2.out.trans hf
        have hlc := putR_lc6 HC.out (ok6L lq m) (k := (keyN lq m)) (fun h => (pv6 HI6.out.1 HI6.out.2.1 h).2) v
        simp only [hR] at hlc
        have hP2 := PDel6 HTI.out hlc lq m HI6.out.1 HI6.out.2.1 HI6.out.2.2
        rw [hok] at hP2
        simp only [delR_back HC.out.s6 hlk] at hP2
        have HP2 : Hid _ := hP2
        clear ht hf hlc hP2 hR hlk hok HP
        go_wp2_with first
          | ((with_reducible show wpList _ _ _ ({ dst := _, op := Op.load 39 (Operand.tmp 8), type := _, pos := _, after := _, guard := _ } :: _) _ _); refine armLv (.tmp 8) 39 rfl rfl rfl (HL6.out _ HFaaw2.out) ?_)
        refine Calls.mono HP2.out ?_
        rintro e daw2 ⟨rfl, ht, hf⟩
        have HTdaw2 : Hid (TBL p lim l4 l6 daw2) := ht
        have HFdaw2 : Hid (FrT p w2 daw2) := HFaaw2.out.trans hf
        clear ht hf HP2 HTI
        go_wp2_with fail
        refine Calls.mono (same_any HTdaw2.out (HD.out.frT HPB.out HFdaw2.out) HC.out) ?_
        rintro e wz ⟨rfl, hb⟩
        have HFZ : Hid (Below W.heap.size W wz) := (HB2.out.trans (HFdaw2.out.2.1 _ HWP.out HB2.out.size)).trans (hb.mono (Nat.le_trans HB2.out.size HFdaw2.out.1))
        clear hb
        go_wp2
        try go_ret
        exact HQ.out _ _ ⟨rfl, HFZ.out⟩
    · have hP := PPut4 HTw2.out HC.out l n HI4.out.1 HI4.out.2.1 HI4.out.2.2 v
      simp only [hR] at hP
      have HP : Hid _ := hP
      clear hP
      go_wp2_with first
        | ((with_reducible show wpList _ _ _ ({ dst := _, op := Op.load 35 (Operand.tmp 7), type := _, pos := _, after := _, guard := _ } :: _) _ _); refine armLv (.tmp 7) 35 rfl rfl rfl (HL4.out _ HFw2.out) ?_)
      refine Calls.mono HP.out ?_
      rintro e aw2 ⟨rfl, ht, hf⟩
      have HTaw2 : Hid (TBL p lim l4 l6 aw2) := ht
      have HFaw2 : Hid (FrT p w2 aw2) := HFw2.out.trans hf
      clear ht hf hR HP
      rcases putR_cases l6 (ok6L lq m) (keyN lq m) lim ((l4.length + l6.length : Nat) : Int) v with hR | hR | ⟨hok, hlk, hR⟩ | ⟨hok, hlk, hR⟩
      · have hP := PPut6 HTaw2.out HC.out lq m HI6.out.1 HI6.out.2.1 HI6.out.2.2 v
        simp only [hR] at hP
        have HP : Hid _ := hP
        clear hP
        go_wp2_with first
          | ((with_reducible show wpList _ _ _ ({ dst := _, op := Op.load 39 (Operand.tmp 8), type := _, pos := _, after := _, guard := _ } :: _) _ _); refine armLv (.tmp 8) 39 rfl rfl rfl (HL6.out _ HFaw2.out) ?_)
        refine Calls.mono HP.out ?_
        rintro e aaw2 ⟨rfl, ht, hf⟩
        have HTaaw2 : Hid (TBL p lim l4 l6 aaw2) := ht
        have HFaaw2 : Hid (FrT p w2 aaw2) := HFaw2.out.trans hf
        clear ht hf hR HP
        go_wp2_with fail
        refine Calls.mono (same_any HTaaw2.out (HD.out.frT HPB.out HFaaw2.out) HC.out) ?_
        rintro e wz ⟨rfl, hb⟩
        have HFZ : Hid (Below W.heap.size W wz) := (HB2.out.trans (HFaaw2.out.2.1 _ HWP.out HB2.out.size)).trans (hb.mono (Nat.le_trans HB2.out.size HFaaw2.out.1))
        clear hb
        go_wp2
        try go_ret
        exact HQ.out _ _ ⟨rfl, HFZ.out⟩
      · have hP := PPut6 HTaw2.out HC.out lq m HI6.out.1 HI6.out.2.1 HI6.out.2.2 v
        simp only [hR] at hP
        have HP : Hid _ := hP
        clear hP
        go_wp2_with first
          | ((with_reducible show wpList _ _ _ ({ dst := _, op := Op.load 39 (Operand.tmp 8), type := _, pos := _, after := _, guard := _ } :: _) _ _); refine armLv (.tmp 8) 39 rfl rfl rfl (HL6.out _ HFaw2.out) ?_)
        refine Calls.mono HP.out ?_
        rintro e aaw2 ⟨rfl, ht, hf⟩
        have HTaaw2 : Hid (TBL p lim l4 l6 aaw2) := ht
        have HFaaw2 : Hid (FrT p w2 aaw2) := HFaw2.out.trans hf
        clear ht hf hR HP
        go_wp2_with fail
        refine Calls.mono (same_any HTaaw2.out (HD.out.frT HPB.out HFaaw2.out) HC.out) ?_
        rintro e wz ⟨rfl, hb⟩
        have HFZ : Hid (Below W.heap.size W wz) := (HB2.out.trans (HFaaw2.out.2.1 _ HWP.out HB2.out.size)).trans (hb.mono (Nat.le_trans HB2.out.size HFaaw2.out.1))
        clear hb
        go_wp2
        try go_ret
        exact HQ.out _ _ ⟨rfl, HFZ.out⟩
      · have hP := PPut6 HTaw2.out HC.out lq m HI6.out.1 HI6.out.2.1 HI6.out.2.2 v
        simp only [hR] at hP
        have HP : Hid _ := hP
        clear hP
        go_wp2_with first
          | ((with_reducible show wpList _ _ _ ({ dst := _, op := Op.load 39 (Operand.tmp 8), type := _, pos := _, after := _, guard := _ } :: _) _ _); refine armLv (.tmp 8) 39 rfl rfl rfl (HL6.out _ HFaw2.out) ?_)
        refine Calls.mono HP.out ?_
        rintro e aaw2 ⟨rfl, ht, hf⟩
        have HTI : Hid (TBL p lim l4 (ins (keyN lq m) v l6) aaw2) := ht
        have HFaaw2 : Hid (FrT p w2 aaw2) := HFaw2.out.trans hf
        have hlc := putR_lc6 HC.out (ok6L lq m) (k := (keyN lq m)) (fun h => (pv6 HI6.out.1 HI6.out.2.1 h).2) v
        simp only [hR] at hlc
        have HLC : Hid (LC lim l4 (ins (keyN lq m) v l6)) := hlc
        have hG := DGet6 (HD.out.frT HPB.out HFaaw2.out) HC.out lq m HI6.out.1 HI6.out.2.1 HI6.out.2.2
        rw [hok, getR_was hlk] at hG
        have HG : Hid _ := hG
        have hQ2 := PPut6 HTI.out HLC.out lq m HI6.out.1 HI6.out.2.1 HI6.out.2.2 (lookN (keyN lq m) l6).1
        have HBK : Hid _ := putR_back (lim := lim) (cnt := ((l4.length + (ins (keyN lq m) v l6).length : Nat) : Int)) (v := v) HC.out.s6 hlk
        have HOK : Hid ((ok6L lq m) = true) := hok
        clear ht hf hlc hG hQ2 hR hlk hok HP
        go_wp2_with first
          | ((with_reducible show wpList _ _ _ ({ dst := _, op := Op.load 39 (Operand.tmp 8), type := _, pos := _, after := _, guard := _ } :: _) _ _); refine armLv (.tmp 8) 39 rfl rfl rfl (HL6.out _ HFaaw2.out) ?_)
        refine Calls.mono HG.out ?_
        rintro e baw2 ⟨rfl, hb⟩
        have HTJ : Hid (TBL p lim l4 (ins (keyN lq m) v l6) baw2) := HTI.out.on (hb.block _ HTI.out.lt)
        have HFbaw2 : Hid (FrT p w2 baw2) := HFaaw2.out.trans (FrT.of_below hb)
        have hP2 := PPut6 HTJ.out HLC.out lq m HI6.out.1 HI6.out.2.1 HI6.out.2.2 (lookN (keyN lq m) l6).1
        rw [HOK.out] at hP2
        simp only [HBK.out] at hP2
        have HP2 : Hid _ := hP2
        clear hb hP2 HG HTI HBK
        generalize (lookN (keyN lq m) l6).1 = lv at *
        go_wp2_with first
          | ((with_reducible show wpList _ _ _ ({ dst := _, op := Op.load 39 (Operand.tmp 8), type := _, pos := _, after := _, guard := _ } :: _) _ _); refine armLv (.tmp 8) 39 rfl rfl rfl (HL6.out _ HFbaw2.out) ?_)
        refine Calls.mono HP2.out ?_
        rintro e daw2 ⟨rfl, ht, hf⟩
        have HTdaw2 : Hid (TBL p lim l4 l6 daw2) := ht
        have HFdaw2 : Hid (FrT p w2 daw2) := HFbaw2.out.trans hf
        clear ht hf HP2 HTJ HLC HOK
        go_wp2_with fail
        refine Calls.mono (same_any HTdaw2.out (HD.out.frT HPB.out HFdaw2.out) HC.out) ?_
        rintro e wz ⟨rfl, hb⟩
        have HFZ : Hid (Below W.heap.size W wz) := (HB2.out.trans (HFdaw2.out.2.1 _ HWP.out HB2.out.size)).trans (hb.mono (Nat.le_trans HB2.out.size HFdaw2.out.1))
        clear hb
        go_wp2
        try go_ret
        exact HQ.out _ _ ⟨rfl, HFZ.out⟩
      · have hP := PPut6 HTaw2.out HC.out lq m HI6.out.1 HI6.out.2.1 HI6.out.2.2 v
        simp only [hR] at hP
        have HP : Hid _ := hP
        clear hP
        go_wp2_with first
          | ((with_reducible show wpList _ _ _ ({ dst := _, op := Op.load 39 (Operand.tmp 8), type := _, pos := _, after := _, guard := _ } :: _) _ _); refine armLv (.tmp 8) 39 rfl rfl rfl (HL6.out _ HFaw2.out) ?_)
        refine Calls.mono HP.out ?_
        rintro e aaw2 ⟨rfl, ht, hf⟩
        have HTI : Hid (TBL p lim l4 (ins (keyN lq m) v l6) aaw2) := ht
        have HFaaw2 : Hid (FrT p w2 aaw2) := HFaw2.out.trans hf
        have hlc := putR_lc6 HC.out (ok6L lq m) (k := (keyN lq m)) (fun h => (pv6 HI6.out.1 HI6.out.2.1 h).2) v
        simp only [hR] at hlc
        have hP2 := PDel6 HTI.out hlc lq m HI6.out.1 HI6.out.2.1 HI6.out.2.2
        rw [hok] at hP2
        simp only [delR_back HC.out.s6 hlk] at hP2
        have HP2 : Hid _ := hP2
        clear ht hf hlc hP2 hR hlk hok HP
        go_wp2_with first
          | ((with_reducible show wpList _ _ _ ({ dst := _, op := Op.load 39 (Operand.tmp 8), type := _, pos := _, after := _, guard := _ } :: _) _ _); refine armLv (.tmp 8) 39 rfl rfl rfl (HL6.out _ HFaaw2.out) ?_)
        refine Calls.mono HP2.out ?_
        rintro e daw2 ⟨rfl, ht, hf⟩
        have HTdaw2 : Hid (TBL p lim l4 l6 daw2) := ht
        have HFdaw2 : Hid (FrT p w2 daw2) := HFaaw2.out.trans hf
        clear ht hf HP2 HTI
        go_wp2_with fail
        refine Calls.mono (same_any HTdaw2.out (HD.out.frT HPB.out HFdaw2.out) HC.out) ?_
        rintro e wz ⟨rfl, hb⟩
        have HFZ : Hid (Below W.heap.size W wz) := (HB2.out.trans (HFdaw2.out.2.1 _ HWP.out HB2.out.size)).trans (hb.mono (Nat.le_trans HB2.out.size HFdaw2.out.1))
        clear hb
        go_wp2
        try go_ret
        exact HQ.out _ _ ⟨rfl, HFZ.out⟩
    · have hP := PPut4 HTw2.out HC.out l n HI4.out.1 HI4.out.2.1 HI4.out.2.2 v
      simp only [hR] at hP
      have HP : Hid _ := hP
      clear hP
      go_wp2_with first
        | ((with_reducible show wpList _ _ _ ({ dst := _, op := Op.load 35 (Operand.tmp 7), type := _, pos := _, after := _, guard := _ } :: _) _ _); refine armLv (.tmp 7) 35 rfl rfl rfl (HL4.out _ HFw2.out) ?_)
      refine Calls.mono HP.out ?_
      rintro e aw2 ⟨rfl, ht, hf⟩
      have HTI : Hid (TBL p lim (ins (keyN l n) v l4) l6 aw2) := ht
      have HFaw2 : Hid (FrT p w2 aw2) := HFw2.out.trans hf
      have hlc := putR_lc4 HC.out (ok4L l n) (k := (keyN l n)) (fun h => (pv4 HI4.out.1 HI4.out.2.1 h).2) v
      simp only [hR] at hlc
      have HLC : Hid (LC lim (ins (keyN l n) v l4) l6) := hlc
      have hG := DGet4 (HD.out.frT HPB.out HFaw2.out) HC.out l n HI4.out.1 HI4.out.2.1 HI4.out.2.2
      rw [hok, getR_was hlk] at hG
      have HG : Hid _ := hG
      have hQ2 := PPut4 HTI.out HLC.out l n HI4.out.1 HI4.out.2.1 HI4.out.2.2 (lookN (keyN l n) l4).1
      have HBK : Hid _ := putR_back (lim := lim) (cnt := (((ins (keyN l n) v l4).length + l6.length : Nat) : Int)) (v := v) HC.out.s4 hlk
      have HOK : Hid ((ok4L l n) = true) := hok
      clear ht hf hlc hG hQ2 hR hlk hok HP
      go_wp2_with first
        | ((with_reducible show wpList _ _ _ ({ dst := _, op := Op.load 35 (Operand.tmp 7), type := _, pos := _, after := _, guard := _ } :: _) _ _); refine armLv (.tmp 7) 35 rfl rfl rfl (HL4.out _ HFaw2.out) ?_)
      refine Calls.mono HG.out ?_
      rintro e bw2 ⟨rfl, hb⟩
      have HTJ : Hid (TBL p lim (ins (keyN l n) v l4) l6 bw2) := HTI.out.on (hb.block _ HTI.out.lt)
      have HFbw2 : Hid (FrT p w2 bw2) := HFaw2.out.trans (FrT.of_below hb)
      have hP2 := PPut4 HTJ.out HLC.out l n HI4.out.1 HI4.out.2.1 HI4.out.2.2 (lookN (keyN l n) l4).1
      rw [HOK.out] at hP2
      simp only [HBK.out] at hP2
      have HP2 : Hid _ := hP2
      clear hb hP2 HG HTI HBK
      generalize (lookN (keyN l n) l4).1 = lv at *
      go_wp2_with first
        | ((with_reducible show wpList _ _ _ ({ dst := _, op := Op.load 35 (Operand.tmp 7), type := _, pos := _, after := _, guard := _ } :: _) _ _); refine armLv (.tmp 7) 35 rfl rfl rfl (HL4.out _ HFbw2.out) ?_)
      refine Calls.mono HP2.out ?_
      rintro e dw2 ⟨rfl, ht, hf⟩
      have HTdw2 : Hid (TBL p lim l4 l6 dw2) := ht
      have HFdw2 : Hid (FrT p w2 dw2) := HFbw2.out.trans hf
      clear ht hf HP2 HTJ HLC HOK
      rcases putR_cases l6 (ok6L lq m) (keyN lq m) lim ((l4.length + l6.length : Nat) : Int) v with hR | hR | ⟨hok, hlk, hR⟩ | ⟨hok, hlk, hR⟩
      · have hP := PPut6 HTdw2.out HC.out lq m HI6.out.1 HI6.out.2.1 HI6.out.2.2 v
        simp only [hR] at hP
        have HP : Hid _ := hP
        clear hP
        go_wp2_with first
          | ((with_reducible show wpList _ _ _ ({ dst := _, op := Op.load 39 (Operand.tmp 8), type := _, pos := _, after := _, guard := _ } :: _) _ _); refine armLv (.tmp 8) 39 rfl rfl rfl (HL6.out _ HFdw2.out) ?_)
        refine Calls.mono HP.out ?_
        rintro e adw2 ⟨rfl, ht, hf⟩
        have HTadw2 : Hid (TBL p lim l4 l6 adw2) := ht
        have HFadw2 : Hid (FrT p w2 adw2) := HFdw2.out.trans hf
        clear ht hf hR HP
        go_wp2_with fail
        refine Calls.mono (same_any HTadw2.out (HD.out.frT HPB.out HFadw2.out) HC.out) ?_
        rintro e wz ⟨rfl, hb⟩
        have HFZ : Hid (Below W.heap.size W wz) := (HB2.out.trans (HFadw2.out.2.1 _ HWP.out HB2.out.size)).trans (hb.mono (Nat.le_trans HB2.out.size HFadw2.out.1))
        clear hb
        go_wp2
        try go_ret
        exact HQ.out _ _ ⟨rfl, HFZ.out⟩
      · have hP := PPut6 HTdw2.out HC.out lq m HI6.out.1 HI6.out.2.1 HI6.out.2.2 v
        simp only [hR] at hP
        have HP : Hid _ := hP
        clear hP
        go_wp2_with first
          | ((with_reducible show wpList _ _ _ ({ dst := _, op := Op.load 39 (Operand.tmp 8), type := _, pos := _, after := _, guard := _ } :: _) _ _); refine armLv (.tmp 8) 39 rfl rfl rfl (HL6.out _ HFdw2.out) ?_)
        refine Calls.mono HP.out ?_
        rintro e adw2 ⟨rfl, ht, hf⟩
        have HTadw2 : Hid (TBL p lim l4 l6 adw2) := ht
        have HFadw2 : Hid (FrT p w2 adw2) := HFdw2.out.trans hf
        clear ht hf hR HP
        go_wp2_with fail
        refine Calls.mono (same_any HTadw2.out (HD.out.frT HPB.out HFadw2.out) HC.out) ?_
        rintro e wz ⟨rfl, hb⟩
        have HFZ : Hid (Below W.heap.size W wz) := (HB2.out.trans (HFadw2.out.2.1 _ HWP.out HB2.out.size)).trans (hb.mono (Nat.le_trans HB2.out.size HFadw2.out.1))
        clear hb
        go_wp2
        try go_ret
        exact HQ.out _ _ ⟨rfl, HFZ.out⟩
      · have hP := PPut6 HTdw2.out HC.out lq m HI6.out.1 HI6.out.2.1 HI6.out.2.2 v
        simp only [hR] at hP
        have HP : Hid _ := hP
        clear hP
        go_wp2_with first
          | ((with_reducible show wpList _ _ _ ({ dst := _, op := Op.load 39 (Operand.tmp 8), type := _, pos := _, after := _, guard := _ } :: _) _ _); refine armLv (.tmp 8) 39 rfl rfl rfl (HL6.out _ HFdw2.out) ?_)
        refine Calls.mono HP.out ?_
        rintro e adw2 ⟨rfl, ht, hf⟩
        have HTI : Hid (TBL p lim l4 (ins (keyN lq m) v l6) adw2) := ht
        have HFadw2 : Hid (FrT p w2 adw2) := HFdw2.out.trans hf
        have hlc := putR_lc6 HC.out (ok6L lq m) (k := (keyN lq m)) (fun h => (pv6 HI6.out.1 HI6.out.2.1 h).2) v
        simp only [hR] at hlc
        have HLC : Hid (LC lim l4 (ins (keyN lq m) v l6)) := hlc
        have hG := DGet6 (HD.out.frT HPB.out HFadw2.out) HC.out lq m HI6.out.1 HI6.out.2.1 HI6.out.2.2
        rw [hok, getR_was hlk] at hG
        have HG : Hid _ := hG
        have hQ2 := PPut6 HTI.out HLC.out lq m HI6.out.1 HI6.out.2.1 HI6.out.2.2 (lookN (keyN lq m) l6).1
        have HBK : Hid _ := putR_back (lim := lim) (cnt := ((l4.length + (ins (keyN lq m) v l6).length : Nat) : Int)) (v := v) HC.out.s6 hlk
        have HOK : Hid ((ok6L lq m) = true) := hok
        clear ht hf hlc hG hQ2 hR hlk hok HP
        go_wp2_with first
          | ((with_reducible show wpList _ _ _ ({ dst := _, op := Op.load 39 (Operand.tmp 8), type := _, pos := _, after := _, guard := _ } :: _) _ _); refine armLv (.tmp 8) 39 rfl rfl rfl (HL6.out _ HFadw2.out) ?_)
        refine Calls.mono HG.out ?_
        rintro e bdw2 ⟨rfl, hb⟩
        have HTJ : Hid (TBL p lim l4 (ins (keyN lq m) v l6) bdw2) := HTI.out.on (hb.block _ HTI.out.lt)
        have HFbdw2 : Hid (FrT p w2 bdw2) := HFadw2.out.trans (FrT.of_below hb)
        have hP2 := PPut6 HTJ.out HLC.out lq m HI6.out.1 HI6.out.2.1 HI6.out.2.2 (lookN (keyN lq m) l6).1
        rw [HOK.out] at hP2
        simp only [HBK.out] at hP2
        have HP2 : Hid _ := hP2
        clear hb hP2 HG HTI HBK
        generalize (lookN (keyN lq m) l6).1 = lv at *
        go_wp2_with first
          | ((with_reducible show wpList _ _ _ ({ dst := _, op := Op.load 39 (Operand.tmp 8), type := _, pos := _, after := _, guard := _ } :: _) _ _); refine armLv (.tmp 8) 39 rfl rfl rfl (HL6.out _ HFbdw2.out) ?_)
        refine Calls.mono HP2.out ?_
        rintro e ddw2 ⟨rfl, ht, hf⟩
        have HTddw2 : Hid (TBL p lim l4 l6 ddw2) := ht
        have HFddw2 : Hid (FrT p w2 ddw2) := HFbdw2.out.trans hf
        clear ht hf HP2 HTJ HLC HOK
        go_wp2_with fail
        refine Calls.mono (same_any HTddw2.out (HD.out.frT HPB.out HFddw2.out) HC.out) ?_
        rintro e wz ⟨rfl, hb⟩
        have HFZ : Hid (Below W.heap.size W wz) := (HB2.out.trans (HFddw2.out.2.1 _ HWP.out HB2.out.size)).trans (hb.mono (Nat.le_trans HB2.out.size HFddw2.out.1))
        clear hb
        go_wp2
        try go_ret
        exact HQ.out _ _ ⟨rfl, HFZ.out⟩
      · have hP := PPut6 HTdw2.out HC.out lq m HI6.out.1 HI6.out.2.1 HI6.out.2.2 v
        simp only [hR] at hP
        have HP : Hid _ := hP
        clear hP
        go_wp2_with first
          | ((with_reducible show wpList _ _ _ ({ dst := _, op := Op.load 39 (Operand.tmp 8), type := _, pos := _, after := _, guard := _ } :: _) _ _); refine armLv (.tmp 8) 39 rfl rfl rfl (HL6.out _ HFdw2.out) ?_)
        refine Calls.mono HP.out ?_
        rintro e adw2 ⟨rfl, ht, hf⟩
        have HTI : Hid (TBL p lim l4 (ins (keyN lq m) v l6) adw2) := ht
        have HFadw2 : Hid (FrT p w2 adw2) := HFdw2.out.trans hf
        have hlc := putR_lc6 HC.out (ok6L lq m) (k := (keyN lq m)) (fun h => (pv6 HI6.out.1 HI6.out.2.1 h).2) v
        simp only [hR] at hlc
        have hP2 := PDel6 HTI.out hlc lq m HI6.out.1 HI6.out.2.1 HI6.out.2.2
        rw [hok] at hP2
        simp only [delR_back HC.out.s6 hlk] at hP2
        have HP2 : Hid _ := hP2
        clear ht hf hlc hP2 hR hlk hok HP
        go_wp2_with first
          | ((with_reducible show wpList _ _ _ ({ dst := _, op := Op.load 39 (Operand.tmp 8), type := _, pos := _, after := _, guard := _ } :: _) _ _); refine armLv (.tmp 8) 39 rfl rfl rfl (HL6.out _ HFadw2.out) ?_)
        refine Calls.mono HP2.out ?_
        rintro e ddw2 ⟨rfl, ht, hf⟩
        have HTddw2 : Hid (TBL p lim l4 l6 ddw2) := ht
        have HFddw2 : Hid (FrT p w2 ddw2) := HFadw2.out.trans hf
        clear ht hf HP2 HTI
        go_wp2_with fail
        refine Calls.mono (same_any HTddw2.out (HD.out.frT HPB.out HFddw2.out) HC.out) ?_
        rintro e wz ⟨rfl, hb⟩
        have HFZ : Hid (Below W.heap.size W wz) := (HB2.out.trans (HFddw2.out.2.1 _ HWP.out HB2.out.size)).trans (hb.mono (Nat.le_trans HB2.out.size HFddw2.out.1))
        clear hb
        go_wp2
        try go_ret
        exact HQ.out _ _ ⟨rfl, HFZ.out⟩
    · have hP := PPut4 HTw2.out HC.out l n HI4.out.1 HI4.out.2.1 HI4.out.2.2 v
      simp only [hR] at hP
      have HP : Hid _ := hP
      clear hP
      go_wp2_with first
        | ((with_reducible show wpList _ _ _ ({ dst := _, op := Op.load 35 (Operand.tmp 7), type := _, pos := _, after := _, guard := _ } :: _) _ _); refine armLv (.tmp 7) 35 rfl rfl rfl (HL4.out _ HFw2.out) ?_)
      refine Calls.mono HP.out ?_
      rintro e aw2 ⟨rfl, ht, hf⟩
      have HTI : Hid (TBL p lim (ins (keyN l n) v l4) l6 aw2) := ht
      have HFaw2 : Hid (FrT p w2 aw2) := HFw2.out.trans hf
      have hlc := putR_lc4 HC.out (ok4L l n) (k := (keyN l n)) (fun h => (pv4 HI4.out.1 HI4.out.2.1 h).2) v
      simp only [hR] at hlc
      have hP2 := PDel4 HTI.out hlc l n HI4.out.1 HI4.out.2.1 HI4.out.2.2
      rw [hok] at hP2
      simp only [delR_back HC.out.s4 hlk] at hP2
      have HP2 : Hid _ := hP2
      clear ht hf hlc hP2 hR hlk hok HP
      go_wp2_with first
        | ((with_reducible show wpList _ _ _ ({ dst := _, op := Op.load 35 (Operand.tmp 7), type := _, pos := _, after := _, guard := _ } :: _) _ _); refine armLv (.tmp 7) 35 rfl rfl rfl (HL4.out _ HFaw2.out) ?_)
      refine Calls.mono HP2.out ?_
      rintro e dw2 ⟨rfl, ht, hf⟩
      have HTdw2 : Hid (TBL p lim l4 l6 dw2) := ht
      have HFdw2 : Hid (FrT p w2 dw2) := HFaw2.out.trans hf
      clear ht hf HP2 HTI
      rcases putR_cases l6 (ok6L lq m) (keyN lq m) lim ((l4.length + l6.length : Nat) : Int) v with hR | hR | ⟨hok, hlk, hR⟩ | ⟨hok, hlk, hR⟩
      · have hP := PPut6 HTdw2.out HC.out lq m HI6.out.1 HI6.out.2.1 HI6.out.2.2 v
        simp only [hR] at hP
        have HP : Hid _ := hP
        clear hP
        go_wp2_with first
          | ((with_reducible show wpList _ _ _ ({ dst := _, op := Op.load 39 (Operand.tmp 8), type := _, pos := _, after := _, guard := _ } :: _) _ _); refine armLv (.tmp 8) 39 rfl rfl rfl (HL6.out _ HFdw2.out) ?_)
        refine Calls.mono HP.out ?_
        rintro e adw2 ⟨rfl, ht, hf⟩
        have HTadw2 : Hid (TBL p lim l4 l6 adw2) := ht
        have HFadw2 : Hid (FrT p w2 adw2) := HFdw2.out.trans hf
        clear ht hf hR HP
        go_wp2_with fail
        refine Calls.mono (same_any HTadw2.out (HD.out.frT HPB.out HFadw2.out) HC.out) ?_
        rintro e wz ⟨rfl, hb⟩
        have HFZ : Hid (Below W.heap.size W wz) := (HB2.out.trans (HFadw2.out.2.1 _ HWP.out HB2.out.size)).trans (hb.mono (Nat.le_trans HB2.out.size HFadw2.out.1))
        clear hb
        go_wp2
        try go_ret
        exact HQ.out _ _ ⟨rfl, HFZ.out⟩
      · have hP := PPut6 HTdw2.out HC.out lq m HI6.out.1 HI6.out.2.1 HI6.out.2.2 v
        simp only [hR] at hP
        have HP : Hid _ := hP
        clear hP
        go_wp2_with first
          | ((with_reducible show wpList _ _ _ ({ dst := _, op := Op.load 39 (Operand.tmp 8), type := _, pos := _, after := _, guard := _ } :: _) _ _); refine armLv (.tmp 8) 39 rfl rfl rfl (HL6.out _ HFdw2.out) ?_)
        refine Calls.mono HP.out ?_
        rintro e adw2 ⟨rfl, ht, hf⟩
        have HTadw2 : Hid (TBL p lim l4 l6 adw2) := ht
        have HFadw2 : Hid (FrT p w2 adw2) := HFdw2.out.trans hf
        clear ht hf hR HP
        go_wp2_with fail
        refine Calls.mono (same_any HTadw2.out (HD.out.frT HPB.out HFadw2.out) HC.out) ?_
        rintro e wz ⟨rfl, hb⟩
        have HFZ : Hid (Below W.heap.size W wz) := (HB2.out.trans (HFadw2.out.2.1 _ HWP.out HB2.out.size)).trans (hb.mono (Nat.le_trans HB2.out.size HFadw2.out.1))
        clear hb
        go_wp2
        try go_ret
        exact HQ.out _ _ ⟨rfl, HFZ.out⟩
      · have hP := PPut6 HTdw2.out HC.out lq m HI6.out.1 HI6.out.2.1 HI6.out.2.2 v
        simp only [hR] at hP
        have HP : Hid _ := hP
        clear hP
        go_wp2_with first
          | ((with_reducible show wpList _ _ _ ({ dst := _, op := Op.load 39 (Operand.tmp 8), type := _, pos := _, after := _, guard := _ } :: _) _ _); refine armLv (.tmp 8) 39 rfl rfl rfl (HL6.out _ HFdw2.out) ?_)
        refine Calls.mono HP.out ?_
        rintro e adw2 ⟨rfl, ht, hf⟩
        have HTI : Hid (TBL p lim l4 (ins (keyN lq m) v l6) adw2) := ht
        have HFadw2 : Hid (FrT p w2 adw2) := HFdw2.out.trans hf
        have hlc := putR_lc6 HC.out (ok6L lq m) (k := (keyN lq m)) (fun h => (pv6 HI6.out.1 HI6.out.2.1 h).2) v
        simp only [hR] at hlc
        have HLC : Hid (LC lim l4 (ins (keyN lq m) v l6)) := hlc
        have hG := DGet6 (HD.out.frT HPB.out HFadw2.out) HC.out lq m HI6.out.1 HI6.out.2.1 HI6.out.2.2
        rw [hok, getR_was hlk] at hG
        have HG : Hid _ := hG
        have hQ2 := PPut6 HTI.out HLC.out lq m HI6.out.1 HI6.out.2.1 HI6.out.2.2 (lookN (keyN lq m) l6).1
        have HBK : Hid _ := putR_back (lim := lim) (cnt := ((l4.length + (ins (keyN lq m) v l6).length : Nat) : Int)) (v := v) HC.out.s6 hlk
        have HOK : Hid ((ok6L lq m) = true) := hok
        clear ht hf hlc hG hQ2 hR hlk hok HP
        go_wp2_with first
          | ((with_reducible show wpList _ _ _ ({ dst := _, op := Op.load 39 (Operand.tmp 8), type := _, pos := _, after := _, guard := _ } :: _) _ _); refine armLv (.tmp 8) 39 rfl rfl rfl (HL6.out _ HFadw2.out) ?_)
        refine Calls.mono HG.out ?_
        rintro e bdw2 ⟨rfl, hb⟩
        have HTJ : Hid (TBL p lim l4 (ins (keyN lq m) v l6) bdw2) := HTI.out.on (hb.block _ HTI.out.lt)
        have HFbdw2 : Hid (FrT p w2 bdw2) := HFadw2.out.trans (FrT.of_below hb)
        have hP2 := PPut6 HTJ.out HLC.out lq m HI6.out.1 HI6.out.2.1 HI6.out.2.2 (lookN (keyN lq m) l6).1
        rw [HOK.out] at hP2
        simp only [HBK.out] at hP2
        have HP2 : Hid _ := hP2
        clear hb hP2 HG HTI HBK
        generalize (lookN (keyN lq m) l6).1 = lv at *
        go_wp2_with first
          | ((with_reducible show wpList _ _ _ ({ dst := _, op := Op.load 39 (Operand.tmp 8), type := _, pos := _, after := _, guard := _ } :: _) _ _); refine armLv (.tmp 8) 39 rfl rfl rfl (HL6.out _ HFbdw2.out) ?_)
        refine Calls.mono HP2.out ?_
        rintro e ddw2 ⟨rfl, ht, hf⟩
        have HTddw2 : Hid (TBL p lim l4 l6 ddw2) := ht
        have HFddw2 : Hid (FrT p w2 ddw2) := HFbdw2.out.trans hf
        clear ht hf HP2 HTJ HLC HOK
        go_wp2_with fail
        refine Calls.mono (same_any HTddw2.out (HD.out.frT HPB.out HFddw2.out) HC.out) ?_
        rintro e wz ⟨rfl, hb⟩
        have HFZ : Hid (Below W.heap.size W wz) := (HB2.out.trans (HFddw2.out.2.1 _ HWP.out HB2.out.size)).trans (hb.mono (Nat.le_trans HB2.out.size HFddw2.out.1))
        clear hb
        go_wp2
        try go_ret
        exact HQ.out _ _ ⟨rfl, HFZ.out⟩
      · have hP := PPut6 HTdw2.out HC.out lq m HI6.out.1 HI6.out.2.1 HI6.out.2.2 v
        simp only [hR] at hP
        have HP : Hid _ := hP
        clear hP
        go_wp2_with first
          | ((with_reducible show wpList _ _ _ ({ dst := _, op := Op.load 39 (Operand.tmp 8), type := _, pos := _, after := _, guard := _ } :: _) _ _); refine armLv (.tmp 8) 39 rfl rfl rfl (HL6.out _ HFdw2.out) ?_)
        refine Calls.mono HP.out ?_
        rintro e adw2 ⟨rfl, ht, hf⟩
        have HTI : Hid (TBL p lim l4 (ins (keyN lq m) v l6) adw2) := ht
        have HFadw2 : Hid (FrT p w2 adw2) := HFdw2.out.trans hf
        have hlc := putR_lc6 HC.out (ok6L lq m) (k := (keyN lq m)) (fun h => (pv6 HI6.out.1 HI6.out.2.1 h).2) v
        simp only [hR] at hlc
        have hP2 := PDel6 HTI.out hlc lq m HI6.out.1 HI6.out.2.1 HI6.out.2.2
        rw [hok] at hP2
        simp only [delR_back HC.out.s6 hlk] at hP2
        have HP2 : Hid _ := hP2
        clear ht hf hlc hP2 hR hlk hok HP
        go_wp2_with first
          | ((with_reducible show wpList _ _ _ ({ dst := _, op := Op.load 39 (Operand.tmp 8), type := _, pos := _, after := _, guard := _ } :: _) _ _); refine armLv (.tmp 8) 39 rfl rfl rfl (HL6.out _ HFadw2.out) ?_)
        refine Calls.mono HP2.out ?_
        rintro e ddw2 ⟨rfl, ht, hf⟩
        have HTddw2 : Hid (TBL p lim l4 l6 ddw2) := ht
        have HFddw2 : Hid (FrT p w2 ddw2) := HFadw2.out.trans hf
        clear ht hf HP2 HTI
        go_wp2_with fail
        refine Calls.mono (same_any HTddw2.out (HD.out.frT HPB.out HFddw2.out) HC.out) ?_
        rintro e wz ⟨rfl, hb⟩
        have HFZ : Hid (Below W.heap.size W wz) := (HB2.out.trans (HFddw2.out.2.1 _ HWP.out HB2.out.size)).trans (hb.mono (Nat.le_trans HB2.out.size HFddw2.out.1))
        clear hb
        go_wp2
        try go_ret
        exact HQ.out _ _ ⟨rfl, HFZ.out⟩
theorem open_p4T {H : Type} {enc : TypeId × Value → H} {W : World} {v : Value} {d : DataW H} {p : List MemPlace} (h : DataW.Trod enc Try.prog W 0 (fun _ => true) true 35 v d p) : ∃ l n, v = .agg (cp6 l n).toArray ∧ FitB l ∧ l.length = 4 ∧ (-9223372036854775808 ≤ n ∧ n ≤ 9223372036854775807) := by
  obtain ⟨fuel, hf⟩ := h
  obtain ⟨l, n, e, h1, h2, h3⟩ := cells_p4T hf
  exact ⟨l, n, agg_of e (by simp [cp6, u8s]; omega), h1, h2, h3⟩
theorem open_p6T {H : Type} {enc : TypeId × Value → H} {W : World} {v : Value} {d : DataW H} {p : List MemPlace} (h : DataW.Trod enc Try.prog W 0 (fun _ => true) true 39 v d p) : ∃ l n, v = .agg (cp6 l n).toArray ∧ FitB l ∧ l.length = 16 ∧ (-9223372036854775808 ≤ n ∧ n ≤ 9223372036854775807) := by
  obtain ⟨fuel, hf⟩ := h
  obtain ⟨l, n, e, h1, h2, h3⟩ := cells_p6T hf
  exact ⟨l, n, agg_of e (by simp [cp6, u8s]; omega), h1, h2, h3⟩
set_option maxRecDepth 100000 in
theorem trieGone_open {H : Type} {enc : TypeId × Value → H} {W : World} {base : Nat} (v0 v1 v2 v3 v4 : Value) {d0 d1 d2 d3 d4 : DataW H} {p0 p1 p2 p3 p4 : List MemPlace}
    (o0 : Value.okWide Try.prog W .any base 3 v0) (h0 : DataW.Trod enc Try.prog W 0 (fun _ => true) true 3 v0 d0 p0) (z0 : ∀ k ∈ d0.weights Try.prog 3, k ≤ reachBytes)
    (o1 : Value.okWide Try.prog W .any base 22 v1) (h1 : DataW.Trod enc Try.prog W 0 (fun _ => true) true 22 v1 d1 p1) (z1 : ∀ k ∈ d1.weights Try.prog 22, k ≤ reachBytes)
    (o2 : Value.okWide Try.prog W .any base 35 v2) (h2 : DataW.Trod enc Try.prog W 0 (fun _ => true) true 35 v2 d2 p2) (z2 : ∀ k ∈ d2.weights Try.prog 35, k ≤ reachBytes)
    (o3 : Value.okWide Try.prog W .any base 39 v3) (h3 : DataW.Trod enc Try.prog W 0 (fun _ => true) true 39 v3 d3 p3) (z3 : ∀ k ∈ d3.weights Try.prog 39, k ≤ reachBytes)
    (o4 : Value.okWide Try.prog W .any base 3 v4) (h4 : DataW.Trod enc Try.prog W 0 (fun _ => true) true 3 v4 d4 p4) (z4 : ∀ k ∈ d4.weights Try.prog 3, k ≤ reachBytes) :
    Calls Try.prog 6 #[v0, v1, v2, v3, v4] W fun e w' => e = .returned (.bool true) ∧ Below W.heap.size W w' := by
  obtain ⟨k, rfl, _, _, wk⟩ := open_int Try.underlying3 o0 h0
  obtain ⟨os, ho, hi⟩ := open_ops o1 h1
  obtain ⟨l, n, rfl, a1, a2, a3⟩ := open_p4T h2
  obtain ⟨lq, m, rfl, b1, b2, b3⟩ := open_p6T h3
  obtain ⟨v, rfl, _, _, wv⟩ := open_int Try.underlying3 o4 h4
  exact trieGone_walk k (bnd64T wk) ho hi l n ⟨a1, a2, a3⟩ lq m ⟨b1, b2, b3⟩ v
end Go.Proofs.Ytenahbdopgmpfaa
