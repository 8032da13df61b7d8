/-
  TrieOrder.
-/
import Derived.Test.YtenahbdopgmpfaaTi2
namespace Go.Proofs.Ytenahbdopgmpfaa
open Go Go.RowKit Go.Shelf
open Go.ChangeShapes Go.WideShapes Go.ChangeAt
set_option linter.unusedVariables false
set_option linter.unusedSimpArgs false

theorem ins_front {k : Bs} {v : Int} {l : List Ent} (h : ∀ e ∈ l, ltB k e.1 = true) : ins k v l = (k, v) :: l := by
  cases l with
  | nil => rfl
  | cons x r =>
    have hx := h x (by simp)
    rw [ins, if_neg (by rw [ltB_asym hx]; simp), if_neg (fun e => by rw [e, ltB_irr] at hx; cases hx)]
theorem srt_drop {l : List Ent} (h : Srt l) (n : Nat) : Srt (l.drop n) := List.Pairwise.sublist (List.drop_sublist _ _) h
theorem drop_front {l : List Ent} (h : Srt l) {j : Nat} {e : Ent} (he : l[j]? = some e) : ∀ x ∈ l.drop (j + 1), ltB e.1 x.1 = true := by
  obtain ⟨hlt, rfl⟩ := List.getElem?_eq_some_iff.1 he
  have := srt_drop h j
  rw [List.drop_eq_getElem_cons hlt] at this
  exact (srt_tail this).2
theorem drop_at {l : List Ent} {j : Nat} {e : Ent} (he : l[j]? = some e) : e :: l.drop (j + 1) = l.drop j := by
  obtain ⟨hlt, rfl⟩ := List.getElem?_eq_some_iff.1 he
  rw [List.drop_eq_getElem_cons hlt]
theorem ok4L_byt {k : Bs} (h : k.length ≤ 32) : ok4L (bytN 4 k) k.length = true ∧ keyN (bytN 4 k) k.length = k := by
  refine ⟨okP4_byt h, ?_⟩
  unfold keyN
  rw [Int.toNat_natCast]
  exact bitsK_bytN (by omega)
theorem ok6L_byt {k : Bs} (h : k.length ≤ 128) : ok6L (bytN 16 k) k.length = true ∧ keyN (bytN 16 k) k.length = k := by
  refine ⟨okP6_byt h, ?_⟩
  unfold keyN
  rw [Int.toNat_natCast]
  exact bitsK_bytN (by omega)
theorem putR_front {k : Bs} {v : Int} {l : List Ent} {lim cnt : Int} (h : ∀ e ∈ l, ltB k e.1 = true) (hq : cnt < lim) : putR l true k lim cnt v = (false, 0, (k, v) :: l) := by
  show docP l k lim cnt v = _
  rw [docP_new (by rw [look_less h]) (by omega), ins_front h]
theorem ex_ixT {o : Oper} {a : Act} {W : World} (p q : Operand) {t : TypeId} (s : Nat) (hop : o.op = Op.indexAddr t p q) {g len c j : Nat} (hs : ∀ w, (Instr.indexAt t (.slice (some ⟨g, 0, none⟩) len c) (.int .i64 j)).run Try.prog w = .ok (.pointer (some ⟨g, j * s, none⟩)) w) (hp : a.eval p = .slice (some ⟨g, 0, none⟩) len c) (hq : a.eval q = .int .i64 j) : (execOp a.eval o).run Try.prog W = .ok (.value (.pointer (some ⟨g, j * s, none⟩))) W := by
  generalize a.eval = ev at *
  simp [execOp, hop, hp, hq, hs, Result.andThen]
theorem ix_run4 (g len c j : Nat) (h : j < len) (w : World) : (Instr.indexAt 54 (.slice (some ⟨g, 0, none⟩) len c) (.int .i64 j)).run Try.prog w = .ok (.pointer (some ⟨g, j * 6, none⟩)) w := by
  simp [Instr.indexAt, go_sem, h]
theorem PPutF4 {q : Nat} {l4 l6 : List Ent} {W : World} (h : TBL q 65536 l4 l6 W) (hc : LC 65536 l4 l6) {e : Ent} (hk : e.1.length ≤ 32) (hlt : ∀ x ∈ l4, ltB e.1 x.1 = true) (hn : l4.length + l6.length < 65536) :
    Calls Try.prog 20 #[.pointer (some ⟨q, 0, none⟩), PK4 e.1, .int .i64 e.2] W fun r w' => r = .returned (.tuple #[.bool false, .int .i64 0]) ∧ TBL q 65536 (e :: l4) l6 w' ∧ FrT q W w' := by
  obtain ⟨h1, h2⟩ := ok4L_byt hk
  have := PPut4 h hc (bytN 4 e.1) e.1.length (bytN_fit _ _) (bytN_length _ _) (by omega) e.2
  rw [h1, h2] at this
  simp only [putR_front (lim := 65536) (cnt := ((l4.length + l6.length : Nat) : Int)) (v := e.2) hlt (by omega)] at this
  exact this
theorem ix_run6 (g len c j : Nat) (h : j < len) (w : World) : (Instr.indexAt 56 (.slice (some ⟨g, 0, none⟩) len c) (.int .i64 j)).run Try.prog w = .ok (.pointer (some ⟨g, j * 18, none⟩)) w := by
  simp [Instr.indexAt, go_sem, h]
theorem PPutF6 {q : Nat} {l4 l6 : List Ent} {W : World} (h : TBL q 65536 l4 l6 W) (hc : LC 65536 l4 l6) {e : Ent} (hk : e.1.length ≤ 128) (hlt : ∀ x ∈ l6, ltB e.1 x.1 = true) (hn : l4.length + l6.length < 65536) :
    Calls Try.prog 21 #[.pointer (some ⟨q, 0, none⟩), PK6 e.1, .int .i64 e.2] W fun r w' => r = .returned (.tuple #[.bool false, .int .i64 0]) ∧ TBL q 65536 l4 (e :: l6) w' ∧ FrT q W w' := by
  obtain ⟨h1, h2⟩ := ok6L_byt hk
  have := PPut6 h hc (bytN 16 e.1) e.1.length (bytN_fit _ _) (bytN_length _ _) (by omega) e.2
  rw [h1, h2] at this
  simp only [putR_front (lim := 65536) (cnt := ((l4.length + l6.length : Nat) : Int)) (v := e.2) hlt (by omega)] at this
  exact this
theorem ex_loadI {o : Oper} {a : Act} {W : World} (k : Operand) {p : Addr} {x : Int} (hop : o.op = Op.load 3 k) (hk : a.eval k = .pointer (some p)) (hc : W.cell? p = some (.int .i64 x)) : (execOp a.eval o).run Try.prog W = .ok (.value (.int .i64 x)) W := by
  generalize a.eval = ev at *
  simp [execOp, hop, hk, hc, go_sem, Instr.loadAt]
set_option maxHeartbeats 16000000 in
set_option maxRecDepth 100000 in
theorem trieOrder_walk {W : World} {vv : Value} {os : List OpD} (ho : OpsAt W vv os) (hi : ∀ o ∈ os, o.In) (a4 : List Int) (h4 : FitB a4 ∧ a4.length = 4) (a6 : List Int) (h6 : FitB a6 ∧ a6.length = 16) :
    Calls Try.prog 5 #[vv, .agg (u8s a4).toArray, .agg (u8s a6).toArray] W fun e w' => e = .returned (.bool true) ∧ Below W.heap.size W w' := by
  generalize hQ : (fun (e : Ending) (w' : World) => e = .returned (.bool true) ∧ Below W.heap.size W w') = Q
  have HQ : Hid (∀ e w', (e = .returned (.bool true) ∧ Below W.heap.size W w') → Q e w') := fun e w' hh => by rw [← hQ]; exact hh
  clear hQ
  obtain ⟨W1, hW1⟩ : ∃ W1, W1 = (W.alloc (.cells (u8s a4).toArray 33)).alloc (.cells (u8s a6).toArray 37) := ⟨_, rfl⟩
  have hs1 : W1.heap.size = W.heap.size + 1 + 1 := by rw [hW1]; simp
  have hB1 : Below W.heap.size W W1 := by rw [hW1]; exact ((Below.refl W.heap.size W).alloc (Nat.le_refl _) _).alloc (by simp) _
  have hx4 : W1.heap[W.heap.size]? = some (.cells (u8s a4).toArray 33) := by rw [hW1]; exact blk_alloc (blk_new W _) _
  have hx6 : W1.heap[W.heap.size + 1]? = some (.cells (u8s a6).toArray 37) := by
    have := blk_new (W.alloc (.cells (u8s a4).toArray 33)) (.cells (u8s a6).toArray 37)
    rw [show (W.alloc (.cells (u8s a4).toArray 33)).heap.size = W.heap.size + 1 by simp] at this
    rw [hW1]; exact this
  have HM : Hid (Calls Try.prog 13 #[.int .i64 65536, vv] W1 fun e w' => MadeP 65536 W1 e w') := made_any 65536 (by omega) (ho.below hB1) hi
  have HX4 : Hid (W1.heap[W.heap.size]? = some (.cells (u8s a4).toArray 33)) := hx4
  have HX6 : Hid (W1.heap[W.heap.size + 1]? = some (.cells (u8s a6).toArray 37)) := hx6
  have HB1 : Hid (Below W.heap.size W W1) := hB1
  have HS1 : Hid (W1.heap.size = W.heap.size + 1 + 1) := hs1
  have H4 : Hid (FitB a4 ∧ a4.length = 4) := h4
  have H6 : Hid (FitB a6 ∧ a6.length = 16) := h6
  have hW := hW1.symm
  clear hW1 hs1 hB1 hx4 hx6 ho hi h4 h6
  go_enter Try.func5, Try.ntmps5
  go_wp2_with fail
  clear hW
  refine Calls.mono HM.out ?_
  rintro e w1 (⟨hbad, rfl, hb1⟩ | ⟨hg, p, b, rfl, hwp, hpb, l4, l6, u4, u6, ht, hd, hc, hb1⟩)
  · exact absurd (by omega) hbad
  have HT1 : Hid (TBL p 65536 l4 l6 w1) := ht
  have HD1 : Hid (Doc b 65536 l4 l6 u4 u6 w1) := hd
  have HC : Hid (LC 65536 l4 l6) := hc
  have HB2a : Hid (Below W1.heap.size W1 w1) := hb1
  clear ht hd hc hpb hwp hb1 hg
  go_wp2_with fail
  refine Calls.mono (New_good 65536 (by omega) w1) ?_
  rintro e w2 ⟨rfl, ht2, hb2, hs2⟩
  obtain ⟨q, hq⟩ : ∃ q, q = w1.heap.size := ⟨_, rfl⟩
  rw [← hq] at ht2 hs2 hb2
  rw [← hq]
  have HT2 : Hid (TBL p 65536 l4 l6 w2) := HT1.out.on (hb2.block _ (by rw [hq]; exact HT1.out.lt))
  have HD2 : Hid (Doc b 65536 l4 l6 u4 u6 w2) := HD1.out.on (by rw [← hq]; exact hb2)
  have HO2 : Hid (TBL q 65536 [] [] w2) := TBL.new ht2
  have HK2 : Hid (Below W1.heap.size W1 w2) := HB2a.out.trans (hb2.mono (by rw [hq]; exact HB2a.out.size))
  have HQL : Hid (W1.heap.size ≤ q ∧ p < q ∧ b < q ∧ (∀ j, u4.ownBlock = some j → j < q) ∧ (∀ j, u6.ownBlock = some j → j < q)) := by
    have h5 : W1.heap.size ≤ q ∧ p < q ∧ b < q ∧ (∀ j, u4.ownBlock = some j → j < q) ∧ (∀ j, u6.ownBlock = some j → j < q) := by
      rw [hq]; exact ⟨HB2a.out.size, HT1.out.lt, HD1.out.lt, fun j hj => (own_ltT HD1.out.r4 hj).2, fun j hj => (own_ltT HD1.out.r6 hj).2⟩
    exact h5
  clear ht2 hb2 hs2 hq HT1 HD1 HB2a HM
  go_wp2_with fail
  refine Calls.mono (awake_any w2) ?_
  rintro e w3 ⟨rfl, hb3⟩
  have HT3 : Hid (TBL p 65536 l4 l6 w3) := HT2.out.on (hb3.block _ HT2.out.lt)
  have HD3 : Hid (Doc b 65536 l4 l6 u4 u6 w3) := HD2.out.on hb3
  have HO3 : Hid (TBL q 65536 [] [] w3) := HO2.out.on (hb3.block _ HO2.out.lt)
  have HK3 : Hid (Below W1.heap.size W1 w3) := HK2.out.trans (hb3.mono HK2.out.size)
  clear hb3 HT2 HD2 HO2 HK2
  have HSZ : Hid (l4.length + l6.length ≤ 65536) := by
    have h5 : l4.length + l6.length ≤ 65536 := by have := HC.out.le; omega
    exact h5
  have hln4 : l4.length ≤ 65536 := by have := HSZ.out; omega
  have hln6 : l6.length ≤ 65536 := by have := HSZ.out; omega
  obtain ⟨ad, ca, ev4⟩ := own_slcT HD3.out.r4
  obtain ⟨ae, ce, ev6⟩ := own_slcT HD3.out.r6
  subst ev4
  subst ev6
  have dD : w3.cell? ⟨b, 1, none⟩ = some (.slice ad l4.length ca) := blk_cell HD3.out.box rfl
  have w1s : IntKind.i64.wrap ((l4.length : Int) - 1) = (l4.length : Int) - 1 := wrap_i64 _ ⟨by omega, by omega⟩
  go_wp2_with fail
  clear dD w1s
  go_loopw [12] (fun i wr => ∃ (n : Nat) (x : Int), n ≤ l4.length ∧ x = n - 1 ∧ i = .int .i64 x ∧ TBL q 65536 (l4.drop n) [] wr ∧ FrT q w3 wr) (fun i _ => (intOf i + 1).toNat)
  case atStart => exact ⟨l4.length, _, Nat.le_refl _, rfl, rfl, by simp only [List.drop_length]; exact HO3.out, ⟨Nat.le_refl _, fun B _ _ => Below.refl _ _, fun j _ _ => rfl⟩⟩
  case round =>
    obtain ⟨n, x, hn, hx, rfl, hto, hfr⟩ := hrel
    have HTO : Hid (TBL q 65536 (l4.drop n) [] wr) := hto
    have HFR : Hid (FrT q w3 wr) := hfr
    have HDK : Hid (Doc b 65536 l4 l6 (.slice ad l4.length ca) (.slice ae l6.length ce) wr) := ⟨(hfr.2.2 b HD3.out.lt (by have := HQL.out.2.2.1; omega)).trans HD3.out.box, own_sameT HD3.out.r4 (fun j hj => hfr.2.2 j (own_ltT HD3.out.r4 hj).2 (by have := HQL.out.2.2.2.1 j hj; omega)), own_sameT HD3.out.r6 (fun j hj => hfr.2.2 j (own_ltT HD3.out.r6 hj).2 (by have := HQL.out.2.2.2.2 j hj; omega)), HD3.out.ne⟩
    clear hto hfr
    rcases Nat.eq_zero_or_pos n with rfl | hpos
    · obtain rfl : x = -1 := by omega
      rw [List.drop_zero] at HTO
      clear hx hn
      have HT4 : Hid (TBL p 65536 l4 l6 wr) := HT3.out.on (HFR.out.2.2 p HT3.out.lt (by have := HQL.out.2.1; omega))
      have HO4 : Hid (TBL q 65536 l4 [] wr) := HTO.out
      have HD4 : Hid (Doc b 65536 l4 l6 (.slice ad l4.length ca) (.slice ae l6.length ce) wr) := HDK.out
      have HK4 : Hid (Below W1.heap.size W1 wr) := HK3.out.trans (HFR.out.2.1 _ HQL.out.1 HK3.out.size)
      have dE : wr.cell? ⟨b, 2, none⟩ = some (.slice ae l6.length ce) := blk_cell HD4.out.box rfl
      have w1t : IntKind.i64.wrap ((l6.length : Int) - 1) = (l6.length : Int) - 1 := wrap_i64 _ ⟨by omega, by omega⟩
      obtain ⟨w4, hw4⟩ : ∃ w4, w4 = wr := ⟨_, rfl⟩
      rw [← hw4] at HT4 HO4 HD4 HK4 dE
      rw [← hw4]
      clear hw4 HTO HFR HDK HT3 HO3 HD3 HK3
      go_wp2_with fail
      clear dE w1t
      go_loopw [13] (fun i wr => ∃ (n : Nat) (x : Int), n ≤ l6.length ∧ x = n - 1 ∧ i = .int .i64 x ∧ TBL q 65536 l4 (l6.drop n) wr ∧ FrT q w4 wr) (fun i _ => (intOf i + 1).toNat)
      case atStart => exact ⟨l6.length, _, Nat.le_refl _, rfl, rfl, by simp only [List.drop_length]; exact HO4.out, ⟨Nat.le_refl _, fun B _ _ => Below.refl _ _, fun j _ _ => rfl⟩⟩
      case round =>
        obtain ⟨n, x, hn, hx, rfl, hto, hfr⟩ := hrel
        have HTO : Hid (TBL q 65536 l4 (l6.drop n) wr) := hto
        have HFR : Hid (FrT q w4 wr) := hfr
        have HDK : Hid (Doc b 65536 l4 l6 (.slice ad l4.length ca) (.slice ae l6.length ce) wr) := ⟨(hfr.2.2 b HD4.out.lt (by have := HQL.out.2.2.1; omega)).trans HD4.out.box, own_sameT HD4.out.r4 (fun j hj => hfr.2.2 j (own_ltT HD4.out.r4 hj).2 (by have := HQL.out.2.2.2.1 j hj; omega)), own_sameT HD4.out.r6 (fun j hj => hfr.2.2 j (own_ltT HD4.out.r6 hj).2 (by have := HQL.out.2.2.2.2 j hj; omega)), HD4.out.ne⟩
        clear hto hfr
        rcases Nat.eq_zero_or_pos n with rfl | hpos
        · obtain rfl : x = -1 := by omega
          rw [List.drop_zero] at HTO
          clear hx hn
          have HT5 : Hid (TBL p 65536 l4 l6 wr) := HT4.out.on (HFR.out.2.2 p HT4.out.lt (by have := HQL.out.2.1; omega))
          have HO5 : Hid (TBL q 65536 l4 l6 wr) := HTO.out
          have HD5 : Hid (Doc b 65536 l4 l6 (.slice ad l4.length ca) (.slice ae l6.length ce) wr) := HDK.out
          have HK5 : Hid (Below W1.heap.size W1 wr) := HK4.out.trans (HFR.out.2.1 _ HQL.out.1 HK4.out.size)
          have HA4 : Hid (∀ X, Below W1.heap.size W1 X → (Instr.loadAt 33 (.pointer (some ⟨W.heap.size, 0, none⟩))).run Try.prog X = .ok (.agg (u8s a4).toArray) X) := fun X hX => agg_load (n := 4) (fun w => by kernel_rfl) (fun w => by kernel_rfl) (by rw [u8s_length, H4.out.2]) (CellsAt.of_blk (blk_on HX4.out hX))
          have HA6 : Hid (∀ X, Below W1.heap.size W1 X → (Instr.loadAt 37 (.pointer (some ⟨W.heap.size + 1, 0, none⟩))).run Try.prog X = .ok (.agg (u8s a6).toArray) X) := fun X hX => agg_load (n := 16) (fun w => by kernel_rfl) (fun w => by kernel_rfl) (by rw [u8s_length, H6.out.2]) (CellsAt.of_blk (blk_on HX6.out hX))
          obtain ⟨s4, hs4⟩ : ∃ s4, bstN (fun k => pre k (bitsK a4 32)) l4 = s4 := ⟨_, rfl⟩
          obtain ⟨s6, hs6⟩ : ∃ s6, bstN (fun k => pre k (bitsK a6 128)) l6 = s6 := ⟨_, rfl⟩
          have HP4 : Hid (∀ (z : Nat) (X : World), TBL z 65536 l4 l6 X → Calls Try.prog 14 #[.pointer (some ⟨z, 0, none⟩), .agg (u8s a4).toArray] X fun e w' => e = .returned (.tuple #[.agg (bE4 s4).toArray, .bool s4.isSome]) ∧ Below X.heap.size X w') := fun z X hX => by rw [← hs4]; exact PBest4 hX a4 H4.out.2 H4.out.1
          have HP6 : Hid (∀ (z : Nat) (X : World), TBL z 65536 l4 l6 X → Calls Try.prog 15 #[.pointer (some ⟨z, 0, none⟩), .agg (u8s a6).toArray] X fun e w' => e = .returned (.tuple #[.agg (bE6 s6).toArray, .bool s6.isSome]) ∧ Below X.heap.size X w') := fun z X hX => by rw [← hs6]; exact PBest6 hX a6 H6.out.2 H6.out.1
          obtain ⟨o4, ho4⟩ : ∃ o4, s4.isSome = o4 := ⟨_, rfl⟩
          obtain ⟨o6, ho6⟩ : ∃ o6, s6.isSome = o6 := ⟨_, rfl⟩
          rw [ho4] at HP4
          rw [ho6] at HP6
          clear hs4 hs6 ho4 ho6 HTO HFR HDK HT4 HO4 HD4 HK4 HX4 HX6
          go_wp2_with first
            | ((with_reducible show wpList _ _ _ ({ dst := _, op := Op.load 33 (Operand.tmp 4), type := _, pos := _, after := _, guard := _ } :: _) _ _); refine armLv (.tmp 4) 33 rfl rfl rfl (HA4.out _ (HK5.out.trans (Below.mono (Below.refl wr.heap.size wr) HK5.out.size))) ?_)
          refine Calls.mono (HP4.out _ _ (HT5.out.on (Below.block (Below.refl wr.heap.size wr) _ HT5.out.lt))) ?_
          rintro e v1 ⟨rfl, hb⟩
          obtain ⟨y1, hst, hbx, hBy⟩ := box_new (ty := 47) (n := 6) (fun w => by kernel_rfl) v1 [.int .u8 0, .int .u8 0, .int .u8 0, .int .u8 0, .int .i64 0, .int .i64 0] rfl (bE4 s4) (bE4_len s4) (bE4_one s4)
          have hk := hb.trans (hBy.mono hb.size)
          have HST1 : Hid _ := hst
          have HBX1 : Hid _ := hbx
          have HJ1 : Hid (Below wr.heap.size wr y1) := Below.trans (Below.refl wr.heap.size wr) (hk.mono (Below.size (Below.refl wr.heap.size wr)))
          clear hb hst hbx hBy hk
          go_wp2_with first
            | ((with_reducible show wpList _ _ _ ({ dst := _, op := Op.store 47 (Operand.tmp 14) (Operand.tmp 110), type := _, pos := _, after := _, guard := _ } :: _) _ _); refine armS (.tmp 14) (.tmp 110) 47 rfl rfl rfl rfl HST1.out ?_)
            | ((with_reducible show wpList _ _ _ ({ dst := _, op := Op.load 33 (Operand.tmp 4), type := _, pos := _, after := _, guard := _ } :: _) _ _); refine armLv (.tmp 4) 33 rfl rfl rfl (HA4.out _ (HK5.out.trans (Below.mono HJ1.out HK5.out.size))) ?_)
          refine Calls.mono (HP4.out _ _ (HO5.out.on (Below.block HJ1.out _ HO5.out.lt))) ?_
          rintro e v2 ⟨rfl, hb⟩
          obtain ⟨y2, hst, hbx, hBy⟩ := box_new (ty := 47) (n := 6) (fun w => by kernel_rfl) v2 [.int .u8 0, .int .u8 0, .int .u8 0, .int .u8 0, .int .i64 0, .int .i64 0] rfl (bE4 s4) (bE4_len s4) (bE4_one s4)
          have hk := hb.trans (hBy.mono hb.size)
          have HST2 : Hid _ := hst
          have HBX2 : Hid _ := hbx
          have HJ2 : Hid (Below wr.heap.size wr y2) := Below.trans HJ1.out (hk.mono (Below.size HJ1.out))
          have HK12 : Hid (Below y1.heap.size y1 y2) := hk
          clear hb hst hbx hBy hk
          go_wp2_with first
            | ((with_reducible show wpList _ _ _ ({ dst := _, op := Op.store 47 (Operand.tmp 16) (Operand.tmp 116), type := _, pos := _, after := _, guard := _ } :: _) _ _); refine armS (.tmp 16) (.tmp 116) 47 rfl rfl rfl rfl HST2.out ?_)
            | ((with_reducible show wpList _ _ _ ({ dst := _, op := Op.load 37 (Operand.tmp 5), type := _, pos := _, after := _, guard := _ } :: _) _ _); refine armLv (.tmp 5) 37 rfl rfl rfl (HA6.out _ (HK5.out.trans (Below.mono HJ2.out HK5.out.size))) ?_)
          refine Calls.mono (HP6.out _ _ (HT5.out.on (Below.block HJ2.out _ HT5.out.lt))) ?_
          rintro e v3 ⟨rfl, hb⟩
          obtain ⟨y3, hst, hbx, hBy⟩ := box_new (ty := 51) (n := 18) (fun w => by kernel_rfl) v3 [.int .u8 0, .int .u8 0, .int .u8 0, .int .u8 0, .int .u8 0, .int .u8 0, .int .u8 0, .int .u8 0, .int .u8 0, .int .u8 0, .int .u8 0, .int .u8 0, .int .u8 0, .int .u8 0, .int .u8 0, .int .u8 0, .int .i64 0, .int .i64 0] rfl (bE6 s6) (bE6_len s6) (bE6_one s6)
          have hk := hb.trans (hBy.mono hb.size)
          have HST3 : Hid _ := hst
          have HBX3 : Hid _ := hbx
          have HJ3 : Hid (Below wr.heap.size wr y3) := Below.trans HJ2.out (hk.mono (Below.size HJ2.out))
          have HK13 : Hid (Below y1.heap.size y1 y3) := HK12.out.trans (hk.mono HK12.out.size)
          have HK23 : Hid (Below y2.heap.size y2 y3) := hk
          clear hb hst hbx hBy hk
          go_wp2_with first
            | ((with_reducible show wpList _ _ _ ({ dst := _, op := Op.store 51 (Operand.tmp 18) (Operand.tmp 122), type := _, pos := _, after := _, guard := _ } :: _) _ _); refine armS (.tmp 18) (.tmp 122) 51 rfl rfl rfl rfl HST3.out ?_)
            | ((with_reducible show wpList _ _ _ ({ dst := _, op := Op.load 37 (Operand.tmp 5), type := _, pos := _, after := _, guard := _ } :: _) _ _); refine armLv (.tmp 5) 37 rfl rfl rfl (HA6.out _ (HK5.out.trans (Below.mono HJ3.out HK5.out.size))) ?_)
          refine Calls.mono (HP6.out _ _ (HO5.out.on (Below.block HJ3.out _ HO5.out.lt))) ?_
          rintro e v4 ⟨rfl, hb⟩
          obtain ⟨y4, hst, hbx, hBy⟩ := box_new (ty := 51) (n := 18) (fun w => by kernel_rfl) v4 [.int .u8 0, .int .u8 0, .int .u8 0, .int .u8 0, .int .u8 0, .int .u8 0, .int .u8 0, .int .u8 0, .int .u8 0, .int .u8 0, .int .u8 0, .int .u8 0, .int .u8 0, .int .u8 0, .int .u8 0, .int .u8 0, .int .i64 0, .int .i64 0] rfl (bE6 s6) (bE6_len s6) (bE6_one s6)
          have hk := hb.trans (hBy.mono hb.size)
          have HST4 : Hid _ := hst
          have HBX4 : Hid _ := hbx
          have HJ4 : Hid (Below wr.heap.size wr y4) := Below.trans HJ3.out (hk.mono (Below.size HJ3.out))
          have HK14 : Hid (Below y1.heap.size y1 y4) := HK13.out.trans (hk.mono HK13.out.size)
          have HK24 : Hid (Below y2.heap.size y2 y4) := HK23.out.trans (hk.mono HK23.out.size)
          have HK34 : Hid (Below y3.heap.size y3 y4) := hk
          clear hb hst hbx hBy hk
          go_wp2_with first
            | ((with_reducible show wpList _ _ _ ({ dst := _, op := Op.store 51 (Operand.tmp 20) (Operand.tmp 128), type := _, pos := _, after := _, guard := _ } :: _) _ _); refine armS (.tmp 20) (.tmp 128) 51 rfl rfl rfl rfl HST4.out ?_)
          refine Calls.mono (same_any (HO5.out.on (HJ4.out.block _ HO5.out.lt)) (HD5.out.on HJ4.out) HC.out) ?_
          rintro e wZ ⟨rfl, hbZ⟩
          have HJZ : Hid (Below wr.heap.size wr wZ) := HJ4.out.trans (hbZ.mono HJ4.out.size)
          have kk : ∀ (i : Nat) (ob : Obj) (X : World), X.heap[i]? = some ob → Below X.heap.size X y4 → wZ.heap[i]? = some ob := fun i ob X h h2 => blk_on (blk_on h h2) hbZ
          have HE1 : Hid ((Instr.loadAt 47 (.pointer (some ⟨v1.heap.size, 0, none⟩))).run Try.prog wZ = .ok (.agg (bE4 s4).toArray) wZ) := agg_load (n := 6) (fun w => by kernel_rfl) (fun w => by kernel_rfl) (bE4_len s4) (CellsAt.of_blk (kk _ _ _ HBX1.out HK14.out))
          have HE2 : Hid ((Instr.loadAt 47 (.pointer (some ⟨v2.heap.size, 0, none⟩))).run Try.prog wZ = .ok (.agg (bE4 s4).toArray) wZ) := agg_load (n := 6) (fun w => by kernel_rfl) (fun w => by kernel_rfl) (bE4_len s4) (CellsAt.of_blk (kk _ _ _ HBX2.out HK24.out))
          have HE3 : Hid ((Instr.loadAt 51 (.pointer (some ⟨v3.heap.size, 0, none⟩))).run Try.prog wZ = .ok (.agg (bE6 s6).toArray) wZ) := agg_load (n := 18) (fun w => by kernel_rfl) (fun w => by kernel_rfl) (bE6_len s6) (CellsAt.of_blk (kk _ _ _ HBX3.out HK34.out))
          have HE4 : Hid ((Instr.loadAt 51 (.pointer (some ⟨v4.heap.size, 0, none⟩))).run Try.prog wZ = .ok (.agg (bE6 s6).toArray) wZ) := agg_load (n := 18) (fun w => by kernel_rfl) (fun w => by kernel_rfl) (bE6_len s6) (CellsAt.of_blk (kk _ _ _ HBX4.out (Below.refl _ _)))
          have HQ4 : Hid _ := eqlB4 s4 wZ
          have HQ6 : Hid _ := eqlB6 s6 wZ
          have HG4 : Hid _ := fun (x y : Operand) => gdE4 .eql x y (bE4 s4).toArray (bE4 s4).toArray wZ
          have HG6 : Hid _ := fun (x y : Operand) => gdE6 .eql x y (bE6 s6).toArray (bE6 s6).toArray wZ
          have HFZ : Hid (Below W.heap.size W wZ) := HB1.out.trans ((HK5.out.trans (HJZ.out.mono HK5.out.size)).mono (by have := HS1.out; omega))
          clear hbZ kk HP4 HP6 HST4 HJ4 HK14 HK24 HK34 HBX1 HBX2 HBX3 HBX4
          generalize (bE4 s4).toArray = VA at *
          generalize (bE6 s6).toArray = VB at *
          go_wp2_with first
            | ((with_reducible show wpList _ _ _ ({ dst := _, op := Op.load 47 (Operand.tmp 14), type := _, pos := _, after := _, guard := _ } :: _) _ _); refine armLv (.tmp 14) 47 rfl rfl rfl HE1.out ?_)
            | ((with_reducible show wpList _ _ _ ({ dst := _, op := Op.load 47 (Operand.tmp 16), type := _, pos := _, after := _, guard := _ } :: _) _ _); refine armLv (.tmp 16) 47 rfl rfl rfl HE2.out ?_)
            | ((with_reducible show wpList _ _ _ ({ dst := _, op := Op.load 51 (Operand.tmp 18), type := _, pos := _, after := _, guard := _ } :: _) _ _); refine armLv (.tmp 18) 51 rfl rfl rfl HE3.out ?_)
            | ((with_reducible show wpList _ _ _ ({ dst := _, op := Op.load 51 (Operand.tmp 20), type := _, pos := _, after := _, guard := _ } :: _) _ _); refine armLv (.tmp 20) 51 rfl rfl rfl HE4.out ?_)
            | ((with_reducible show wpList _ _ _ ({ dst := _, op := Op.binOp BinOp.eql 47 (Operand.tmp 134) (Operand.tmp 135) _, type := _, pos := _, after := _, guard := _ } :: _) _ _); refine arm_bin rfl .eql 47 47 (.tmp 134) (.tmp 135) rfl rfl rfl (HG4.out _ _) HQ4.out ?_)
            | ((with_reducible show wpList _ _ _ ({ dst := _, op := Op.binOp BinOp.eql 51 (Operand.tmp 144) (Operand.tmp 145) _, type := _, pos := _, after := _, guard := _ } :: _) _ _); refine arm_bin rfl .eql 51 51 (.tmp 144) (.tmp 145) rfl rfl rfl (HG6.out _ _) HQ6.out ?_)
          try go_ret
          exact HQ.out _ _ ⟨rfl, HFZ.out⟩
        · obtain ⟨j, rfl⟩ : ∃ j, n = j + 1 := ⟨n - 1, by omega⟩
          obtain rfl : x = (j : Int) := by omega
          obtain ⟨e0, he0⟩ : ∃ e0, l6[j]? = some e0 := ⟨_, List.getElem?_eq_getElem (by omega)⟩
          obtain ⟨g, c', hv', hg, _, hcx⟩ := own_atT ec6_len HDK.out.r6 he0
          obtain ⟨rfl, rfl⟩ : ae = some ⟨g, 0, none⟩ ∧ ce = c' := by injection hv' with h1 _ h3; exact ⟨h1, h3⟩
          have hgq : g < q := HQL.out.2.2.2.2 g rfl
          have q0 : decide ((0 : Int) ≤ (j : Int)) = true := decide_eq_true (by omega)
          have w9 : IntKind.i64.wrap ((j : Int) - 1) = (j : Int) - 1 := wrap_i64 _ ⟨by omega, by omega⟩
          have hlc : LC 65536 l4 (l6.drop (j + 1)) := ⟨HC.out.s4, srt_drop HC.out.s6 _, HC.out.k4, fun e he => HC.out.k6 e (List.mem_of_mem_drop he), by have h5 := HSZ.out; simp only [List.length_drop]; omega, by omega⟩
          have hPU := fun (X : World) (hX : TBL q 65536 l4 (l6.drop (j + 1)) X) => PPutF6 hX hlc (e := e0) (HC.out.k6 e0 (List.mem_of_getElem? he0)) (drop_front HC.out.s6 he0) (by have h5 := HSZ.out; simp only [List.length_drop]; (try simp only [List.length_nil]); omega)
          rw [drop_at he0] at hPU
          have HPU : Hid (∀ (X : World), TBL q 65536 l4 (l6.drop (j + 1)) X → _) := hPU
          have HLT : Hid (j < l6.length) := by
            have h5 : j < l6.length := by omega
            exact h5
          have HCX : Hid (CellsAt wr g (j * 18) (ec6 e0)) := hcx
          have HGW : Hid (g < wr.heap.size) := hg
          clear hcx hv' hg he0 hx hlc hPU
          go_wp2_with fail
          refine wp_region_held (S := fun X => X.heap[b]? = wr.heap[b]? ∧ X.heap[g]? = wr.heap[g]?) (by kernel_rfl) ?_
          show wpAnyH _ _ _ _ _ 18 (Array.replicate 18 false) _ wr.drew
          have h0 : wr.drew.heap[b]? = wr.heap[b]? ∧ wr.drew.heap[g]? = wr.heap[g]? := ⟨rfl, rfl⟩
          have t0 : TBL q 65536 l4 (l6.drop (j + 1)) wr.drew := HTO.out.on rfl
          have f0 : FrT q wr wr.drew := FrT.of_below (Below.refl wr.heap.size wr).drew
          generalize wr.drew = X0 at *
          refine take_wT (i := 0) (d := some 88) (v := .pointer (some ⟨q, 0, none⟩)) rfl rfl rfl (by kernel_rfl) (by kernel_rfl) (by kernel_rfl) (fun _ _ d _ _ h => by cases d <;> exact h) (fun X hS => by kernel_rfl) h0 ?_
          simp only [Act.put, List.setIfInBounds_toArray, List.set_cons_zero, List.set_cons_succ]
          refine take_wT (i := 1) (d := some 89) (v := .pointer (some ⟨b, 0, none⟩)) rfl rfl rfl (by kernel_rfl) (by kernel_rfl) (by kernel_rfl) (fun _ _ d _ _ h => by cases d <;> exact h) (fun X hS => by kernel_rfl) h0 ?_
          simp only [Act.put, List.setIfInBounds_toArray, List.set_cons_zero, List.set_cons_succ]
          refine take_wT (i := 2) (d := some 90) (v := .pointer (some ⟨b, 0, none⟩)) rfl rfl rfl (by kernel_rfl) (by kernel_rfl) (by kernel_rfl) (fun _ _ d _ _ h => by cases d <;> exact h) (fun X hS => by kernel_rfl) h0 ?_
          simp only [Act.put, List.setIfInBounds_toArray, List.set_cons_zero, List.set_cons_succ]
          refine take_wT (i := 3) (d := some 91) (v := .pointer (some ⟨b, 2, none⟩)) rfl rfl rfl (by kernel_rfl) (by kernel_rfl) (by kernel_rfl) (fun _ _ d _ _ h => by cases d <;> exact h) (fun X hS => by kernel_rfl) h0 ?_
          simp only [Act.put, List.setIfInBounds_toArray, List.set_cons_zero, List.set_cons_succ]
          refine take_wT (i := 4) (d := some 92) (v := .slice (some ⟨g, 0, none⟩) l6.length ce) rfl rfl rfl (by kernel_rfl) (by kernel_rfl) (by kernel_rfl) (fun _ _ d _ _ h => by cases d <;> exact h) (fun X hS => ex_loadA (.tmp 91) 56 rfl rfl (ld_fld6 (hS.1.trans HDK.out.box) ⟨_, _, _, rfl⟩)) h0 ?_
          simp only [Act.put, List.setIfInBounds_toArray, List.set_cons_zero, List.set_cons_succ]
          refine take_wT (i := 5) (d := some 93) (v := .int .i64 (j : Int)) rfl rfl rfl (by kernel_rfl) (by kernel_rfl) (by kernel_rfl) (fun _ _ d _ _ h => by cases d <;> exact h) (fun X hS => by kernel_rfl) h0 ?_
          simp only [Act.put, List.setIfInBounds_toArray, List.set_cons_zero, List.set_cons_succ]
          refine take_wT (i := 6) (d := some 94) (v := .pointer (some ⟨g, j * 18, none⟩)) rfl rfl rfl (by kernel_rfl) (by kernel_rfl) (by kernel_rfl) (fun _ _ d _ _ h => by cases d <;> exact h) (fun X hS => ex_ixT (.tmp 92) (.tmp 93) 18 rfl (ix_run6 g l6.length _ j HLT.out) rfl rfl) h0 ?_
          simp only [Act.put, List.setIfInBounds_toArray, List.set_cons_zero, List.set_cons_succ]
          refine take_wT (i := 7) (d := some 95) (v := .pointer (some ⟨g, j * 18, none⟩)) rfl rfl rfl (by kernel_rfl) (by kernel_rfl) (by kernel_rfl) (fun _ _ d _ _ h => by cases d <;> exact h) (fun X hS => by kernel_rfl) h0 ?_
          simp only [Act.put, List.setIfInBounds_toArray, List.set_cons_zero, List.set_cons_succ]
          refine take_wT (i := 8) (d := some 96) (v := PK6 e0.1) rfl rfl rfl (by kernel_rfl) (by kernel_rfl) (by kernel_rfl) (fun _ _ d _ _ h => by cases d <;> exact h) (fun X hS => ex_loadA (.tmp 95) 39 rfl rfl (ld_pk6 (fun i u hi => (by show World.cell? X ⟨g, _, none⟩ = _; rw [World.cell?_of_block (a := ⟨g, _, none⟩) hS.2]; exact HCX.out i u hi) : CellsAt X g (j * 18) (ec6 e0)))) h0 ?_
          simp only [Act.put, List.setIfInBounds_toArray, List.set_cons_zero, List.set_cons_succ]
          refine take_wT (i := 9) (d := some 97) (v := .pointer (some ⟨b, 0, none⟩)) rfl rfl rfl (by kernel_rfl) (by kernel_rfl) (by kernel_rfl) (fun _ _ d _ _ h => by cases d <;> exact h) (fun X hS => by kernel_rfl) h0 ?_
          simp only [Act.put, List.setIfInBounds_toArray, List.set_cons_zero, List.set_cons_succ]
          refine take_wT (i := 10) (d := some 98) (v := .pointer (some ⟨b, 0, none⟩)) rfl rfl rfl (by kernel_rfl) (by kernel_rfl) (by kernel_rfl) (fun _ _ d _ _ h => by cases d <;> exact h) (fun X hS => by kernel_rfl) h0 ?_
          simp only [Act.put, List.setIfInBounds_toArray, List.set_cons_zero, List.set_cons_succ]
          refine take_wT (i := 11) (d := some 99) (v := .pointer (some ⟨b, 2, none⟩)) rfl rfl rfl (by kernel_rfl) (by kernel_rfl) (by kernel_rfl) (fun _ _ d _ _ h => by cases d <;> exact h) (fun X hS => by kernel_rfl) h0 ?_
          simp only [Act.put, List.setIfInBounds_toArray, List.set_cons_zero, List.set_cons_succ]
          refine take_wT (i := 12) (d := some 100) (v := .slice (some ⟨g, 0, none⟩) l6.length ce) rfl rfl rfl (by kernel_rfl) (by kernel_rfl) (by kernel_rfl) (fun _ _ d _ _ h => by cases d <;> exact h) (fun X hS => ex_loadA (.tmp 99) 56 rfl rfl (ld_fld6 (hS.1.trans HDK.out.box) ⟨_, _, _, rfl⟩)) h0 ?_
          simp only [Act.put, List.setIfInBounds_toArray, List.set_cons_zero, List.set_cons_succ]
          refine take_wT (i := 13) (d := some 101) (v := .int .i64 (j : Int)) rfl rfl rfl (by kernel_rfl) (by kernel_rfl) (by kernel_rfl) (fun _ _ d _ _ h => by cases d <;> exact h) (fun X hS => by kernel_rfl) h0 ?_
          simp only [Act.put, List.setIfInBounds_toArray, List.set_cons_zero, List.set_cons_succ]
          refine take_wT (i := 14) (d := some 102) (v := .pointer (some ⟨g, j * 18, none⟩)) rfl rfl rfl (by kernel_rfl) (by kernel_rfl) (by kernel_rfl) (fun _ _ d _ _ h => by cases d <;> exact h) (fun X hS => ex_ixT (.tmp 100) (.tmp 101) 18 rfl (ix_run6 g l6.length _ j HLT.out) rfl rfl) h0 ?_
          simp only [Act.put, List.setIfInBounds_toArray, List.set_cons_zero, List.set_cons_succ]
          refine take_wT (i := 15) (d := some 103) (v := .pointer (some ⟨g, j * 18 + 17, none⟩)) rfl rfl rfl (by kernel_rfl) (by kernel_rfl) (by kernel_rfl) (fun _ _ d _ _ h => by cases d <;> exact h) (fun X hS => by kernel_rfl) h0 ?_
          simp only [Act.put, List.setIfInBounds_toArray, List.set_cons_zero, List.set_cons_succ]
          refine take_wT (i := 16) (d := some 104) (v := .int .i64 e0.2) rfl rfl rfl (by kernel_rfl) (by kernel_rfl) (by kernel_rfl) (fun _ _ d _ _ h => by cases d <;> exact h) (fun X hS => ex_loadI (.tmp 103) rfl rfl ((fun i u hi => (by show World.cell? X ⟨g, _, none⟩ = _; rw [World.cell?_of_block (a := ⟨g, _, none⟩) hS.2]; exact HCX.out i u hi) : CellsAt X g (j * 18) (ec6 e0)) 17 _ (ec6_v e0))) h0 ?_
          simp only [Act.put, List.setIfInBounds_toArray, List.set_cons_zero, List.set_cons_succ]
          refine all_wT (i := 17) (by kernel_rfl) rfl rfl ?_
          refine wp_call (d := some 105) 21 _ rfl (by kernel_rfl) (callR (HPU.out _ t0)) ?_
          rintro _ X1 ⟨rfl, ht1, hf1⟩
          have h1 : X1.heap[b]? = wr.heap[b]? ∧ X1.heap[g]? = wr.heap[g]? := ⟨(hf1.2.2 b (Nat.lt_of_lt_of_le HDK.out.lt f0.1) (by have := HQL.out.2.2.1; omega)).trans h0.1, (hf1.2.2 g (Nat.lt_of_lt_of_le HGW.out f0.1) (by omega)).trans h0.2⟩
          refine ⟨h1, ?_⟩
          simp only [Act.put, List.setIfInBounds_toArray, List.set_cons_zero, List.set_cons_succ]
          refine wpAnyH_done (by kernel_rfl) ?_ _
          have HT5 : Hid (TBL q 65536 l4 (l6.drop j) X1) := ht1
          have HF5 : Hid (FrT q w4 X1) := HFR.out.trans (f0.trans hf1)
          clear h0 t0 f0 h1 ht1 hf1 HPU HTO HDK
          go_wp2
          go_roundw
          case rel => exact ⟨j, _, Nat.le_of_lt HLT.out, rfl, rfl, HT5.out, HF5.out⟩
          case measure => show ((j : Int) - 1 + 1).toNat < ((j : Int) + 1).toNat; omega
    · obtain ⟨j, rfl⟩ : ∃ j, n = j + 1 := ⟨n - 1, by omega⟩
      obtain rfl : x = (j : Int) := by omega
      obtain ⟨e0, he0⟩ : ∃ e0, l4[j]? = some e0 := ⟨_, List.getElem?_eq_getElem (by omega)⟩
      obtain ⟨g, c', hv', hg, _, hcx⟩ := own_atT ec4_len HDK.out.r4 he0
      obtain ⟨rfl, rfl⟩ : ad = some ⟨g, 0, none⟩ ∧ ca = c' := by injection hv' with h1 _ h3; exact ⟨h1, h3⟩
      have hgq : g < q := HQL.out.2.2.2.1 g rfl
      have q0 : decide ((0 : Int) ≤ (j : Int)) = true := decide_eq_true (by omega)
      have w9 : IntKind.i64.wrap ((j : Int) - 1) = (j : Int) - 1 := wrap_i64 _ ⟨by omega, by omega⟩
      have hlc : LC 65536 (l4.drop (j + 1)) [] := ⟨srt_drop HC.out.s4 _, by simp [Srt], fun e he => HC.out.k4 e (List.mem_of_mem_drop he), by simp, by have h5 := HSZ.out; simp only [List.length_drop, List.length_nil]; omega, by omega⟩
      have hPU := fun (X : World) (hX : TBL q 65536 (l4.drop (j + 1)) [] X) => PPutF4 hX hlc (e := e0) (HC.out.k4 e0 (List.mem_of_getElem? he0)) (drop_front HC.out.s4 he0) (by have h5 := HSZ.out; simp only [List.length_drop]; (try simp only [List.length_nil]); omega)
      rw [drop_at he0] at hPU
      have HPU : Hid (∀ (X : World), TBL q 65536 (l4.drop (j + 1)) [] X → _) := hPU
      have HLT : Hid (j < l4.length) := by
        have h5 : j < l4.length := by omega
        exact h5
      have HCX : Hid (CellsAt wr g (j * 6) (ec4 e0)) := hcx
      have HGW : Hid (g < wr.heap.size) := hg
      clear hcx hv' hg he0 hx hlc hPU
      go_wp2_with fail
      refine wp_region_held (S := fun X => X.heap[b]? = wr.heap[b]? ∧ X.heap[g]? = wr.heap[g]?) (by kernel_rfl) ?_
      show wpAnyH _ _ _ _ _ 18 (Array.replicate 18 false) _ wr.drew
      have h0 : wr.drew.heap[b]? = wr.heap[b]? ∧ wr.drew.heap[g]? = wr.heap[g]? := ⟨rfl, rfl⟩
      have t0 : TBL q 65536 (l4.drop (j + 1)) [] wr.drew := HTO.out.on rfl
      have f0 : FrT q wr wr.drew := FrT.of_below (Below.refl wr.heap.size wr).drew
      generalize wr.drew = X0 at *
      refine take_wT (i := 0) (d := some 60) (v := .pointer (some ⟨q, 0, none⟩)) rfl rfl rfl (by kernel_rfl) (by kernel_rfl) (by kernel_rfl) (fun _ _ d _ _ h => by cases d <;> exact h) (fun X hS => by kernel_rfl) h0 ?_
      simp only [Act.put, List.setIfInBounds_toArray, List.set_cons_zero, List.set_cons_succ]
      refine take_wT (i := 1) (d := some 61) (v := .pointer (some ⟨b, 0, none⟩)) rfl rfl rfl (by kernel_rfl) (by kernel_rfl) (by kernel_rfl) (fun _ _ d _ _ h => by cases d <;> exact h) (fun X hS => by kernel_rfl) h0 ?_
      simp only [Act.put, List.setIfInBounds_toArray, List.set_cons_zero, List.set_cons_succ]
      refine take_wT (i := 2) (d := some 62) (v := .pointer (some ⟨b, 0, none⟩)) rfl rfl rfl (by kernel_rfl) (by kernel_rfl) (by kernel_rfl) (fun _ _ d _ _ h => by cases d <;> exact h) (fun X hS => by kernel_rfl) h0 ?_
      simp only [Act.put, List.setIfInBounds_toArray, List.set_cons_zero, List.set_cons_succ]
      refine take_wT (i := 3) (d := some 63) (v := .pointer (some ⟨b, 1, none⟩)) rfl rfl rfl (by kernel_rfl) (by kernel_rfl) (by kernel_rfl) (fun _ _ d _ _ h => by cases d <;> exact h) (fun X hS => by kernel_rfl) h0 ?_
      simp only [Act.put, List.setIfInBounds_toArray, List.set_cons_zero, List.set_cons_succ]
      refine take_wT (i := 4) (d := some 64) (v := .slice (some ⟨g, 0, none⟩) l4.length ca) rfl rfl rfl (by kernel_rfl) (by kernel_rfl) (by kernel_rfl) (fun _ _ d _ _ h => by cases d <;> exact h) (fun X hS => ex_loadA (.tmp 63) 54 rfl rfl (ld_fld4 (hS.1.trans HDK.out.box) ⟨_, _, _, rfl⟩)) h0 ?_
      simp only [Act.put, List.setIfInBounds_toArray, List.set_cons_zero, List.set_cons_succ]
      refine take_wT (i := 5) (d := some 65) (v := .int .i64 (j : Int)) rfl rfl rfl (by kernel_rfl) (by kernel_rfl) (by kernel_rfl) (fun _ _ d _ _ h => by cases d <;> exact h) (fun X hS => by kernel_rfl) h0 ?_
      simp only [Act.put, List.setIfInBounds_toArray, List.set_cons_zero, List.set_cons_succ]
      refine take_wT (i := 6) (d := some 66) (v := .pointer (some ⟨g, j * 6, none⟩)) rfl rfl rfl (by kernel_rfl) (by kernel_rfl) (by kernel_rfl) (fun _ _ d _ _ h => by cases d <;> exact h) (fun X hS => ex_ixT (.tmp 64) (.tmp 65) 6 rfl (ix_run4 g l4.length _ j HLT.out) rfl rfl) h0 ?_
      simp only [Act.put, List.setIfInBounds_toArray, List.set_cons_zero, List.set_cons_succ]
      refine take_wT (i := 7) (d := some 67) (v := .pointer (some ⟨g, j * 6, none⟩)) rfl rfl rfl (by kernel_rfl) (by kernel_rfl) (by kernel_rfl) (fun _ _ d _ _ h => by cases d <;> exact h) (fun X hS => by kernel_rfl) h0 ?_
      simp only [Act.put, List.setIfInBounds_toArray, List.set_cons_zero, List.set_cons_succ]
      refine take_wT (i := 8) (d := some 68) (v := PK4 e0.1) rfl rfl rfl (by kernel_rfl) (by kernel_rfl) (by kernel_rfl) (fun _ _ d _ _ h => by cases d <;> exact h) (fun X hS => ex_loadA (.tmp 67) 35 rfl rfl (ld_pk4 (fun i u hi => (by show World.cell? X ⟨g, _, none⟩ = _; rw [World.cell?_of_block (a := ⟨g, _, none⟩) hS.2]; exact HCX.out i u hi) : CellsAt X g (j * 6) (ec4 e0)))) h0 ?_
      simp only [Act.put, List.setIfInBounds_toArray, List.set_cons_zero, List.set_cons_succ]
      refine take_wT (i := 9) (d := some 69) (v := .pointer (some ⟨b, 0, none⟩)) rfl rfl rfl (by kernel_rfl) (by kernel_rfl) (by kernel_rfl) (fun _ _ d _ _ h => by cases d <;> exact h) (fun X hS => by kernel_rfl) h0 ?_
      simp only [Act.put, List.setIfInBounds_toArray, List.set_cons_zero, List.set_cons_succ]
      refine take_wT (i := 10) (d := some 70) (v := .pointer (some ⟨b, 0, none⟩)) rfl rfl rfl (by kernel_rfl) (by kernel_rfl) (by kernel_rfl) (fun _ _ d _ _ h => by cases d <;> exact h) (fun X hS => by kernel_rfl) h0 ?_
      simp only [Act.put, List.setIfInBounds_toArray, List.set_cons_zero, List.set_cons_succ]
      refine take_wT (i := 11) (d := some 71) (v := .pointer (some ⟨b, 1, none⟩)) rfl rfl rfl (by kernel_rfl) (by kernel_rfl) (by kernel_rfl) (fun _ _ d _ _ h => by cases d <;> exact h) (fun X hS => by kernel_rfl) h0 ?_
      simp only [Act.put, List.setIfInBounds_toArray, List.set_cons_zero, List.set_cons_succ]
      refine take_wT (i := 12) (d := some 72) (v := .slice (some ⟨g, 0, none⟩) l4.length ca) rfl rfl rfl (by kernel_rfl) (by kernel_rfl) (by kernel_rfl) (fun _ _ d _ _ h => by cases d <;> exact h) (fun X hS => ex_loadA (.tmp 71) 54 rfl rfl (ld_fld4 (hS.1.trans HDK.out.box) ⟨_, _, _, rfl⟩)) h0 ?_
      simp only [Act.put, List.setIfInBounds_toArray, List.set_cons_zero, List.set_cons_succ]
      refine take_wT (i := 13) (d := some 73) (v := .int .i64 (j : Int)) rfl rfl rfl (by kernel_rfl) (by kernel_rfl) (by kernel_rfl) (fun _ _ d _ _ h => by cases d <;> exact h) (fun X hS => by kernel_rfl) h0 ?_
      simp only [Act.put, List.setIfInBounds_toArray, List.set_cons_zero, List.set_cons_succ]
      refine take_wT (i := 14) (d := some 74) (v := .pointer (some ⟨g, j * 6, none⟩)) rfl rfl rfl (by kernel_rfl) (by kernel_rfl) (by kernel_rfl) (fun _ _ d _ _ h => by cases d <;> exact h) (fun X hS => ex_ixT (.tmp 72) (.tmp 73) 6 rfl (ix_run4 g l4.length _ j HLT.out) rfl rfl) h0 ?_
      simp only [Act.put, List.setIfInBounds_toArray, List.set_cons_zero, List.set_cons_succ]
      refine take_wT (i := 15) (d := some 75) (v := .pointer (some ⟨g, j * 6 + 5, none⟩)) rfl rfl rfl (by kernel_rfl) (by kernel_rfl) (by kernel_rfl) (fun _ _ d _ _ h => by cases d <;> exact h) (fun X hS => by kernel_rfl) h0 ?_
      simp only [Act.put, List.setIfInBounds_toArray, List.set_cons_zero, List.set_cons_succ]
      refine take_wT (i := 16) (d := some 76) (v := .int .i64 e0.2) rfl rfl rfl (by kernel_rfl) (by kernel_rfl) (by kernel_rfl) (fun _ _ d _ _ h => by cases d <;> exact h) (fun X hS => ex_loadI (.tmp 75) rfl rfl ((fun i u hi => (by show World.cell? X ⟨g, _, none⟩ = _; rw [World.cell?_of_block (a := ⟨g, _, none⟩) hS.2]; exact HCX.out i u hi) : CellsAt X g (j * 6) (ec4 e0)) 5 _ (ec4_v e0))) h0 ?_
      simp only [Act.put, List.setIfInBounds_toArray, List.set_cons_zero, List.set_cons_succ]
      refine all_wT (i := 17) (by kernel_rfl) rfl rfl ?_
      refine wp_call (d := some 77) 20 _ rfl (by kernel_rfl) (callR (HPU.out _ t0)) ?_
      rintro _ X1 ⟨rfl, ht1, hf1⟩
      have h1 : X1.heap[b]? = wr.heap[b]? ∧ X1.heap[g]? = wr.heap[g]? := ⟨(hf1.2.2 b (Nat.lt_of_lt_of_le HDK.out.lt f0.1) (by have := HQL.out.2.2.1; omega)).trans h0.1, (hf1.2.2 g (Nat.lt_of_lt_of_le HGW.out f0.1) (by omega)).trans h0.2⟩
      refine ⟨h1, ?_⟩
      simp only [Act.put, List.setIfInBounds_toArray, List.set_cons_zero, List.set_cons_succ]
      refine wpAnyH_done (by kernel_rfl) ?_ _
      have HT5 : Hid (TBL q 65536 (l4.drop j) [] X1) := ht1
      have HF5 : Hid (FrT q w3 X1) := HFR.out.trans (f0.trans hf1)
      clear h0 t0 f0 h1 ht1 hf1 HPU HTO HDK
      go_wp2
      go_roundw
      case rel => exact ⟨j, _, Nat.le_of_lt HLT.out, rfl, rfl, HT5.out, HF5.out⟩
      case measure => show ((j : Int) - 1 + 1).toNat < ((j : Int) + 1).toNat; omega
set_option maxRecDepth 100000 in
theorem trieOrder_open {H : Type} {enc : TypeId × Value → H} {W : World} {base : Nat} (v0 v1 v2 : Value) {d0 d1 d2 : DataW H} {p0 p1 p2 : List MemPlace}
    (o0 : Value.okWide Try.prog W .any base 22 v0) (h0 : DataW.Trod enc Try.prog W 0 (fun _ => true) true 22 v0 d0 p0) (z0 : ∀ k ∈ d0.weights Try.prog 22, k ≤ reachBytes)
    (o1 : Value.okWide Try.prog W .any base 33 v1) (h1 : DataW.Trod enc Try.prog W 0 (fun _ => true) true 33 v1 d1 p1) (z1 : ∀ k ∈ d1.weights Try.prog 33, k ≤ reachBytes)
    (o2 : Value.okWide Try.prog W .any base 37 v2) (h2 : DataW.Trod enc Try.prog W 0 (fun _ => true) true 37 v2 d2 p2) (z2 : ∀ k ∈ d2.weights Try.prog 37, k ≤ reachBytes) :
    Calls Try.prog 5 #[v0, v1, v2] W fun e w' => e = .returned (.bool true) ∧ Below W.heap.size W w' := by
  obtain ⟨os, ho, hi⟩ := open_ops o0 h0
  obtain ⟨a4, rfl, f4, l4⟩ := open_a4T h1
  obtain ⟨a6, rfl, f6, l6⟩ := open_a6T h2
  exact trieOrder_walk ho hi a4 ⟨f4, l4⟩ a6 ⟨f6, l6⟩
end Go.Proofs.Ytenahbdopgmpfaa
