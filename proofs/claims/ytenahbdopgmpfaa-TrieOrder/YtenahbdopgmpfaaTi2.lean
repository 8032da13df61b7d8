/-
  TrieLongest.
-/
import Derived.Test.YtenahbdopgmpfaaTi1
namespace Go.Proofs.Ytenahbdopgmpfaa
open Go Go.RowKit Go.Shelf
open Go.ChangeShapes Go.WideShapes Go.ChangeAt
set_option linter.unusedVariables false
set_option linter.unusedSimpArgs false

theorem addr_n {K : Nat} {a : List Int} (hf : FitB a) (ha : a.length = K) : (.agg (u8s a).toArray : Value) = .agg (u8s (bytN K (bitsK a (8 * K)))).toArray := by rw [← byt_addr hf ha]
theorem RHas4_L {p : Bs} {a : List Int} (hp : p.length ≤ 32) (hf : FitB a) (ha : a.length = 4) (W : World) : Calls Try.prog 18 #[PK4 p, .agg (u8s a).toArray] W fun e w' => e = .returned (.tuple #[.bool (pre p (bitsK a 32)), .int .i64 0]) ∧ Below W.heap.size W w' := by
  have := RHas4_key hp (bitsK_length a 32) W
  rw [← addr_n (K := 4) hf ha] at this
  exact this
theorem RHas6_L {p : Bs} {a : List Int} (hp : p.length ≤ 128) (hf : FitB a) (ha : a.length = 16) (W : World) : Calls Try.prog 19 #[PK6 p, .agg (u8s a).toArray] W fun e w' => e = .returned (.tuple #[.bool (pre p (bitsK a 128)), .int .i64 0]) ∧ Below W.heap.size W w' := by
  have := RHas6_key hp (bitsK_length a 128) W
  rw [← addr_n (K := 16) hf ha] at this
  exact this
theorem bst_has {c : Bs} {l : List Ent} (h : Srt l) : pre ((bstN (fun k => pre k c) l).getD ([], 0)).1 c = true := by
  rw [bst_last c l h]
  cases hb : (l.filter (fun e => pre e.1 c)).getLast? with
  | none => exact pre_iff.2 List.nil_prefix
  | some b =>
    obtain ⟨m, hm⟩ := List.getLast?_eq_some_iff.1 hb
    have : b ∈ l.filter (fun e => pre e.1 c) := by rw [hm]; simp
    exact (List.mem_filter.1 this).2
theorem bst_most {c : Bs} {l : List Ent} (h : Srt l) {e : Ent} (he : e ∈ l) (hp : pre e.1 c = true) : ∃ b, bstN (fun k => pre k c) l = some b ∧ e.1.length ≤ b.1.length := by
  rw [bst_last c l h]
  cases hb : (l.filter (fun e => pre e.1 c)).getLast? with
  | none =>
    rw [List.getLast?_eq_none_iff] at hb
    have : e ∈ l.filter (fun e => pre e.1 c) := List.mem_filter.2 ⟨he, hp⟩
    rw [hb] at this
    cases this
  | some b => exact ⟨b, rfl, last_most h hb he hp⟩
theorem bst_len {c : Bs} {l : List Ent} (h : Srt l) {N : Nat} (hk : ∀ e ∈ l, e.1.length ≤ N) : ((bstN (fun k => pre k c) l).getD ([], 0)).1.length ≤ N := by
  rw [bst_last c l h]
  cases hb : (l.filter (fun e => pre e.1 c)).getLast? with
  | none => exact Nat.zero_le _
  | some b =>
    obtain ⟨m, hm⟩ := List.getLast?_eq_some_iff.1 hb
    have : b ∈ l.filter (fun e => pre e.1 c) := by rw [hm]; simp
    exact hk b (List.mem_filter.1 this).1
set_option maxHeartbeats 16000000 in
set_option maxRecDepth 100000 in
theorem trieLongest_walk {W : World} {vv : Value} {os : List OpD} (lim : Int) (hlim : -9223372036854775808 ≤ lim ∧ lim ≤ 9223372036854775807) (ho : OpsAt W vv os) (hi : ∀ o ∈ os, o.In) (a4 : List Int) (h4 : FitB a4 ∧ a4.length = 4) (a6 : List Int) (h6 : FitB a6 ∧ a6.length = 16) :
    Calls Try.prog 4 #[.int .i64 lim, vv, .agg (u8s a4).toArray, .agg (u8s a6).toArray] W fun e w' => e = .returned (.bool true) ∧ Below W.heap.size W w' := by
  generalize hQ : (fun (e : Ending) (w' : World) => e = .returned (.bool true) ∧ Below W.heap.size W w') = Q
  have HQ : Hid (∀ e w', (e = .returned (.bool true) ∧ Below W.heap.size W w') → Q e w') := fun e w' hh => by rw [← hQ]; exact hh
  clear hQ
  obtain ⟨W1, hW1⟩ : ∃ W1, W1 = (W.alloc (.cells (u8s a4).toArray 33)).alloc (.cells (u8s a6).toArray 37) := ⟨_, rfl⟩
  have hs1 : W1.heap.size = W.heap.size + 1 + 1 := by rw [hW1]; simp
  have hB1 : Below W.heap.size W W1 := by rw [hW1]; exact ((Below.refl W.heap.size W).alloc (Nat.le_refl _) _).alloc (by simp) _
  have hx4 : W1.heap[W.heap.size]? = some (.cells (u8s a4).toArray 33) := by rw [hW1]; exact blk_alloc (blk_new W _) _
  have hx6 : W1.heap[W.heap.size + 1]? = some (.cells (u8s a6).toArray 37) := by
    have := blk_new (W.alloc (.cells (u8s a4).toArray 33)) (.cells (u8s a6).toArray 37)
    rw [show (W.alloc (.cells (u8s a4).toArray 33)).heap.size = W.heap.size + 1 by simp] at this
    rw [hW1]; exact this
  have HM : Hid (Calls Try.prog 13 #[.int .i64 lim, vv] W1 fun e w' => MadeP lim W1 e w') := made_any lim hlim (ho.below hB1) hi
  have HX4 : Hid (W1.heap[W.heap.size]? = some (.cells (u8s a4).toArray 33)) := hx4
  have HX6 : Hid (W1.heap[W.heap.size + 1]? = some (.cells (u8s a6).toArray 37)) := hx6
  have HB1 : Hid (Below W.heap.size W W1) := hB1
  have HS1 : Hid (W1.heap.size = W.heap.size + 1 + 1) := hs1
  have H4 : Hid (FitB a4 ∧ a4.length = 4) := h4
  have H6 : Hid (FitB a6 ∧ a6.length = 16) := h6
  have hW := hW1.symm
  clear hW1 hs1 hB1 hx4 hx6 ho hi h4 h6 hlim
  go_enter Try.func4, Try.ntmps4
  go_wp2_with fail
  clear hW
  refine Calls.mono HM.out ?_
  rintro e w1 (⟨hbad, rfl, hb1⟩ | ⟨hg, p, b, rfl, hwp, hpb, l4, l6, u4, u6, ht, hd, hc, hb1⟩)
  · have HB2 : Hid (Below W.heap.size W w1) := HB1.out.trans (hb1.mono HB1.out.size)
    clear hb1 hbad
    go_wp2_with fail
    refine Calls.mono (awake_any w1) ?_
    rintro e w2 ⟨rfl, hb2⟩
    have HFZ : Hid (Below W.heap.size W w2) := HB2.out.trans (hb2.mono HB2.out.size)
    clear hb2
    go_wp2
    try go_ret
    exact HQ.out _ _ ⟨rfl, HFZ.out⟩
  · have HT1 : Hid (TBL p lim l4 l6 w1) := ht
    have HC : Hid (LC lim l4 l6) := hc
    have HB2a : Hid (Below W1.heap.size W1 w1) := hb1
    clear ht hd hc hpb hwp hb1 hg
    go_wp2_with fail
    refine Calls.mono (awake_any w1) ?_
    rintro e w2 ⟨rfl, hb2⟩
    have HK2 : Hid (Below W1.heap.size W1 w2) := HB2a.out.trans (hb2.mono HB2a.out.size)
    have HT2 : Hid (TBL p lim l4 l6 w2) := HT1.out.on (hb2.block _ HT1.out.lt)
    have HA4 : Hid (∀ X, Below W1.heap.size W1 X → (Instr.loadAt 33 (.pointer (some ⟨W.heap.size, 0, none⟩))).run Try.prog X = .ok (.agg (u8s a4).toArray) X) := fun X hX => agg_load (n := 4) (fun w => by kernel_rfl) (fun w => by kernel_rfl) (by rw [u8s_length, H4.out.2]) (CellsAt.of_blk (blk_on HX4.out hX))
    have HA6 : Hid (∀ X, Below W1.heap.size W1 X → (Instr.loadAt 37 (.pointer (some ⟨W.heap.size + 1, 0, none⟩))).run Try.prog X = .ok (.agg (u8s a6).toArray) X) := fun X hX => agg_load (n := 16) (fun w => by kernel_rfl) (fun w => by kernel_rfl) (by rw [u8s_length, H6.out.2]) (CellsAt.of_blk (blk_on HX6.out hX))
    have hle : l4.length + l6.length ≤ 65536 := by have := HC.out.le; have := HC.out.lim; omega
    have HLE : Hid (l4.length + l6.length ≤ 65536) := hle
    clear hb2 HT1 HB2a HM HX4 HX6 hle
    obtain ⟨s4, hs4⟩ : ∃ s4, bstN (fun k => pre k (bitsK a4 32)) l4 = s4 := ⟨_, rfl⟩
    obtain ⟨s6, hs6⟩ : ∃ s6, bstN (fun k => pre k (bitsK a6 128)) l6 = s6 := ⟨_, rfl⟩
    have HS4 : Hid (bstN (fun k => pre k (bitsK a4 32)) l4 = s4) := hs4
    have HS6 : Hid (bstN (fun k => pre k (bitsK a6 128)) l6 = s6) := hs6
    have HP4 : Hid (∀ X : World, TBL p lim l4 l6 X → Calls Try.prog 14 #[.pointer (some ⟨p, 0, none⟩), .agg (u8s a4).toArray] X fun e w' => e = .returned (.tuple #[.agg (bE4 s4).toArray, .bool s4.isSome]) ∧ Below X.heap.size X w') := fun X hX => by rw [← hs4]; exact PBest4 hX a4 H4.out.2 H4.out.1
    have HP6 : Hid (∀ X : World, TBL p lim l4 l6 X → Calls Try.prog 15 #[.pointer (some ⟨p, 0, none⟩), .agg (u8s a6).toArray] X fun e w' => e = .returned (.tuple #[.agg (bE6 s6).toArray, .bool s6.isSome]) ∧ Below X.heap.size X w') := fun X hX => by rw [← hs6]; exact PBest6 hX a6 H6.out.2 H6.out.1
    obtain ⟨o4, ho4⟩ : ∃ o4, s4.isSome = o4 := ⟨_, rfl⟩
    obtain ⟨o6, ho6⟩ : ∃ o6, s6.isSome = o6 := ⟨_, rfl⟩
    rw [ho4] at HP4
    rw [ho6] at HP6
    have HO4 : Hid (s4.isSome = o4) := ho4
    have HO6 : Hid (s6.isSome = o6) := ho6
    clear hs4 hs6 ho4 ho6
    go_wp2_with first
      | ((with_reducible show wpList _ _ _ ({ dst := _, op := Op.load 33 (Operand.tmp 6), type := _, pos := _, after := _, guard := _ } :: _) _ _); refine armLv (.tmp 6) 33 rfl rfl rfl (HA4.out _ HK2.out) ?_)
    refine Calls.mono (HP4.out _ HT2.out) ?_
    rintro e w3 ⟨rfl, hb3⟩
    obtain ⟨y3, hst3, hbx3, hBy3⟩ := box_new (ty := 47) (n := 6) (fun w => by kernel_rfl) w3 [.int .u8 0, .int .u8 0, .int .u8 0, .int .u8 0, .int .i64 0, .int .i64 0] rfl (bE4 s4) (bE4_len s4) (bE4_one s4)
    have HST3 : Hid _ := hst3
    have hk3 := hb3.trans (hBy3.mono hb3.size)
    have HK3 : Hid (Below W1.heap.size W1 y3) := HK2.out.trans (hk3.mono HK2.out.size)
    have HT3 : Hid (TBL p lim l4 l6 y3) := HT2.out.on (hk3.block _ HT2.out.lt)
    have HB3 : Hid (y3.heap[w3.heap.size]? = some (.cells (bE4 s4).toArray 47)) := hbx3
    clear hb3 hst3 hbx3 hBy3 hk3 HT2
    go_wp2_with first
      | ((with_reducible show wpList _ _ _ ({ dst := _, op := Op.store 47 (Operand.tmp 12) (Operand.tmp 47), type := _, pos := _, after := _, guard := _ } :: _) _ _); refine armS (.tmp 12) (.tmp 47) 47 rfl rfl rfl rfl HST3.out ?_)
      | ((with_reducible show wpList _ _ _ ({ dst := _, op := Op.load 37 (Operand.tmp 7), type := _, pos := _, after := _, guard := _ } :: _) _ _); refine armLv (.tmp 7) 37 rfl rfl rfl (HA6.out _ HK3.out) ?_)
    refine Calls.mono (HP6.out _ HT3.out) ?_
    rintro e w4 ⟨rfl, hb4⟩
    obtain ⟨y4, hst4, hbx4, hBy4⟩ := box_new (ty := 51) (n := 18) (fun w => by kernel_rfl) w4 [.int .u8 0, .int .u8 0, .int .u8 0, .int .u8 0, .int .u8 0, .int .u8 0, .int .u8 0, .int .u8 0, .int .u8 0, .int .u8 0, .int .u8 0, .int .u8 0, .int .u8 0, .int .u8 0, .int .u8 0, .int .u8 0, .int .i64 0, .int .i64 0] rfl (bE6 s6) (bE6_len s6) (bE6_one s6)
    have HST4 : Hid _ := hst4
    have hk4 := hb4.trans (hBy4.mono hb4.size)
    have HK4 : Hid (Below W1.heap.size W1 y4) := HK3.out.trans (hk4.mono HK3.out.size)
    have HT4 : Hid (TBL p lim l4 l6 y4) := HT3.out.on (hk4.block _ HT3.out.lt)
    have HX : Hid (y4.heap[w3.heap.size]? = some (.cells (bE4 s4).toArray 47)) := blk_on HB3.out hk4
    have HY : Hid (y4.heap[w4.heap.size]? = some (.cells (bE6 s6).toArray 51)) := hbx4
    clear hb4 hst4 hbx4 hBy4 hk4 HT3 HB3 HK3 HST3 HP4 HP6
    go_wp2_with first
      | ((with_reducible show wpList _ _ _ ({ dst := _, op := Op.store 51 (Operand.tmp 14) (Operand.tmp 53), type := _, pos := _, after := _, guard := _ } :: _) _ _); refine armS (.tmp 14) (.tmp 53) 51 rfl rfl rfl rfl HST4.out ?_)
    refine Calls.mono (PAll4 HT4.out (by have := HLE.out; omega)) ?_
    rintro e w5 ⟨va, rfl, hoa, hb5⟩
    have HK5 : Hid (Below y4.heap.size y4 w5) := hb5
    have HOA : Hid _ := hoa
    clear hb5 hoa HST4
    go_wp2_with fail
    refine Calls.mono (PAll6 (HT4.out.on (HK5.out.block _ HT4.out.lt)) (by have := HLE.out; omega)) ?_
    rintro e w6 ⟨vb, rfl, hob, hb6⟩
    have HK6 : Hid (Below y4.heap.size y4 w6) := HK5.out.trans (hb6.mono HK5.out.size)
    have HOA6 : Hid (w6.ownsRow y4.heap.size 47 6 va l4.length (l4.flatMap ec4)) := own_sameT HOA.out (fun q hq => hb6.block q (own_ltT HOA.out hq).2)
    have HOB6 : Hid (w6.ownsRow w5.heap.size 51 18 vb l6.length (l6.flatMap ec6)) := hob
    have HX6 : Hid (w6.heap[w3.heap.size]? = some (.cells (bE4 s4).toArray 47)) := blk_on HX.out HK6.out
    have HY6 : Hid (w6.heap[w4.heap.size]? = some (.cells (bE6 s6).toArray 51)) := blk_on HY.out HK6.out
    have HKW : Hid (Below W1.heap.size W1 w6) := HK4.out.trans (HK6.out.mono HK4.out.size)
    obtain ⟨aa, ca, eva⟩ := own_slcT HOA6.out
    obtain ⟨ab, cb, evb⟩ := own_slcT HOB6.out
    subst eva
    subst evb
    clear hb6 hob HOA HX HY HK4 HK5 HK6 HT4
    go_wp2_with fail
    go_loopw [18] (fun i wr => ∃ n : Nat, n ≤ l4.length ∧ i = .int .i64 n ∧ Below w6.heap.size w6 wr) (fun i _ => l4.length - (intOf i).toNat)
    case atStart => exact ⟨0, Nat.zero_le _, rfl, Below.refl _ _⟩
    case round =>
      obtain ⟨n, hn, rfl, hBk⟩ := hrel
      have HBK : Hid (Below w6.heap.size w6 wr) := hBk
      by_cases hlt : n < l4.length
      · obtain ⟨e0, he0⟩ : ∃ e0, l4[n]? = some e0 := ⟨_, List.getElem?_eq_getElem hlt⟩
        obtain ⟨g, c', hv', hg, _, hcx⟩ := own_atT ec4_len (own_sameT (w' := wr) HOA6.out (fun q hq => hBk.block q (own_ltT HOA6.out hq).2)) he0
        obtain ⟨rfl, rfl⟩ : aa = some ⟨g, 0, none⟩ ∧ ca = c' := by injection hv' with h1 _ h3; exact ⟨h1, h3⟩
        have hcu : ∀ x : Hi wr, CellsAt x.W g (n * 6) (ec4 e0) := fun x i u hi => (x.below.cell (p := ⟨g, _, none⟩) hg).trans (hcx i u hi)
        have HL1 : Hid (∀ x : Hi wr, (Instr.loadAt 35 (.pointer (some ⟨g, n * 6, none⟩))).run Try.prog x.W = .ok (PK4 e0.1) x.W) := fun x => ld_pk4 (hcu x)
        have hbw : Below W1.heap.size W1 wr := HKW.out.trans (hBk.mono HKW.out.size)
        have HL2 : Hid (∀ x : Hi wr, (Instr.loadAt 33 (.pointer (some ⟨W.heap.size, 0, none⟩))).run Try.prog x.W = .ok (.agg (u8s a4).toArray) x.W) := fun x => HA4.out _ (hbw.trans (x.below.mono hbw.size))
        have HHX : Hid (∀ x : Hi wr, Calls Try.prog 18 #[PK4 e0.1, .agg (u8s a4).toArray] x.W fun e w' => e = .returned (.tuple #[.bool (pre e0.1 (bitsK a4 32)), .int .i64 0]) ∧ Below x.W.heap.size x.W w') := fun x => RHas4_L (HC.out.k4 e0 (List.mem_of_getElem? he0)) H4.out.1 H4.out.2 x.W
        have q1 : decide ((n : Int) < l4.length) = true := by simpa using hlt
        have w9 : IntKind.i64.wrap ((n : Int) + 1) = (n : Int) + 1 := wrap_i64 _ ⟨by have := HLE.out; omega, by have := HLE.out; omega⟩
        have HN : Hid (n < l4.length) := hlt
        have dn : ∀ x : Hi wr, x.W.cell? ⟨g, n * 6 + 4, none⟩ = some (.int .i64 e0.1.length) := fun x => hcu x 4 _ (ec4_n e0)
        have hbox : wr.heap[w3.heap.size]? = some (.cells (bE4 s4).toArray 47) := blk_on HX6.out hBk
        have HBOX : Hid (wr.heap[w3.heap.size]? = some (.cells (bE4 s4).toArray 47)) := hbox
        have HMEM : Hid (e0 ∈ l4) := List.mem_of_getElem? he0
        clear hcx hcu hv' hBk he0 hbw hbox
        cases hp : pre e0.1 (bitsK a4 32) with
        | false =>
          rw [hp] at HHX
          clear hp dn
          go_wp2_with fail
          refine wp_region_hi (by kernel_rfl) (by kernel_rfl) ?_
          repeat (first | go_big_quiet_skip | (go_big_quiet_want; refine hi_load (.tmp 69) 35 rfl rfl HL1.out ?_; simp only [Act.put, List.setIfInBounds_toArray, List.set_cons_zero, List.set_cons_succ]; go_big_quiet_on) | (go_big_quiet_want; refine hi_load (.tmp 6) 33 rfl rfl HL2.out ?_; simp only [Act.put, List.setIfInBounds_toArray, List.set_cons_zero, List.set_cons_succ]; go_big_quiet_on) | (go_big_quiet_want; go_big_quiet_op; first | go_big_quiet_on | go_big_quiet_call (first | (go_at_call 18; with_reducible exact Hi.calls (HHX.out _)))))
          refine wpQuiet_nil ?_
          intro _ hw
          obtain ⟨yy, rfl⟩ := hw
          go_wp2_with fail
          refine wp_region_up (by kernel_rfl) (by kernel_rfl) ?_
          repeat (first | go_big_quiet_skip | (go_big_quiet_want; go_big_quiet_op; first | go_big_quiet_on | go_big_quiet_call (fail)))
          refine wpQuiet_nil ?_
          intro _ hw
          obtain ⟨z, rfl⟩ := hw
          go_wp2
          go_roundw
          case rel => exact ⟨n + 1, HN.out, rfl, HBK.out.trans (z.below.mono HBK.out.size)⟩
          case measure => show l4.length - (n + 1) < l4.length - n; have := HN.out; omega
        | true =>
          rw [hp] at HHX
          obtain ⟨b1, hb1, hbl⟩ := bst_most HC.out.s4 HMEM.out hp
          rw [HS4.out] at hb1
          have HOT : Hid (o4 = true) := by
            have : o4 = true := by rw [← HO4.out, hb1]; rfl
            exact this
          have db : ∀ x : Hi wr, x.W.cell? ⟨w3.heap.size, 4, none⟩ = some (.int .i64 b1.1.length) := fun x => blk_cell (Hi.blk HBOX.out x) (by rw [hb1]; exact ec4_n b1)
          have q2 : decide ((b1.1.length : Int) < e0.1.length) = false := decide_eq_false (by omega)
          have q3 : decide (b1.1.length < e0.1.length) = false := decide_eq_false (by omega)
          clear hp hb1 hbl
          have hot := HOT.out
          subst hot
          go_wp2_with fail
          refine wp_region_hi (by kernel_rfl) (by kernel_rfl) ?_
          repeat (first | go_big_quiet_skip | (go_big_quiet_want; refine hi_load (.tmp 69) 35 rfl rfl HL1.out ?_; simp only [Act.put, List.setIfInBounds_toArray, List.set_cons_zero, List.set_cons_succ]; go_big_quiet_on) | (go_big_quiet_want; refine hi_load (.tmp 6) 33 rfl rfl HL2.out ?_; simp only [Act.put, List.setIfInBounds_toArray, List.set_cons_zero, List.set_cons_succ]; go_big_quiet_on) | (go_big_quiet_want; go_big_quiet_op; first | go_big_quiet_on | go_big_quiet_call (first | (go_at_call 18; with_reducible exact Hi.calls (HHX.out _)))))
          refine wpQuiet_nil ?_
          intro _ hw
          obtain ⟨yy, rfl⟩ := hw
          go_wp2_with fail
          refine wp_region_up (by kernel_rfl) (by kernel_rfl) ?_
          repeat (first | go_big_quiet_skip | (go_big_quiet_want; go_big_quiet_op; first | go_big_quiet_on | go_big_quiet_call (fail)))
          refine wpQuiet_nil ?_
          intro _ hw
          obtain ⟨z, rfl⟩ := hw
          go_wp2
          go_roundw
          case rel => exact ⟨n + 1, HN.out, rfl, HBK.out.trans (z.below.mono HBK.out.size)⟩
          case measure => show l4.length - (n + 1) < l4.length - n; have := HN.out; omega
      · obtain rfl : n = l4.length := by omega
        clear hBk hlt
        have HX7 : Hid (wr.heap[w3.heap.size]? = some (.cells (bE4 s4).toArray 47)) := blk_on HX6.out HBK.out
        have HY7 : Hid (wr.heap[w4.heap.size]? = some (.cells (bE6 s6).toArray 51)) := blk_on HY6.out HBK.out
        have HOB7 : Hid (wr.ownsRow w5.heap.size 51 18 (.slice ab l6.length cb) l6.length (l6.flatMap ec6)) := own_sameT HOB6.out (fun q hq => HBK.out.block q (own_ltT HOB6.out hq).2)
        have HK7 : Hid (Below W1.heap.size W1 wr) := HKW.out.trans (HBK.out.mono HKW.out.size)
        obtain ⟨w7, hw7⟩ : ∃ w7, w7 = wr := ⟨_, rfl⟩
        rw [← hw7] at HX7 HY7 HOB7 HK7
        rw [← hw7]
        clear hw7 HBK HX6 HY6 HOA6 HOB6 HKW
        go_wp2_with fail
        go_loopw [21] (fun i wr => ∃ n : Nat, n ≤ l6.length ∧ i = .int .i64 n ∧ Below w7.heap.size w7 wr) (fun i _ => l6.length - (intOf i).toNat)
        case atStart => exact ⟨0, Nat.zero_le _, rfl, Below.refl _ _⟩
        case round =>
          obtain ⟨n, hn, rfl, hBk⟩ := hrel
          have HBK : Hid (Below w7.heap.size w7 wr) := hBk
          by_cases hlt : n < l6.length
          · obtain ⟨e0, he0⟩ : ∃ e0, l6[n]? = some e0 := ⟨_, List.getElem?_eq_getElem hlt⟩
            obtain ⟨g, c', hv', hg, _, hcx⟩ := own_atT ec6_len (own_sameT (w' := wr) HOB7.out (fun q hq => hBk.block q (own_ltT HOB7.out hq).2)) he0
            obtain ⟨rfl, rfl⟩ : ab = some ⟨g, 0, none⟩ ∧ cb = c' := by injection hv' with h1 _ h3; exact ⟨h1, h3⟩
            have hcu : ∀ x : Hi wr, CellsAt x.W g (n * 18) (ec6 e0) := fun x i u hi => (x.below.cell (p := ⟨g, _, none⟩) hg).trans (hcx i u hi)
            have HL1 : Hid (∀ x : Hi wr, (Instr.loadAt 39 (.pointer (some ⟨g, n * 18, none⟩))).run Try.prog x.W = .ok (PK6 e0.1) x.W) := fun x => ld_pk6 (hcu x)
            have hbw : Below W1.heap.size W1 wr := HK7.out.trans (hBk.mono HK7.out.size)
            have HL2 : Hid (∀ x : Hi wr, (Instr.loadAt 37 (.pointer (some ⟨W.heap.size + 1, 0, none⟩))).run Try.prog x.W = .ok (.agg (u8s a6).toArray) x.W) := fun x => HA6.out _ (hbw.trans (x.below.mono hbw.size))
            have HHX : Hid (∀ x : Hi wr, Calls Try.prog 19 #[PK6 e0.1, .agg (u8s a6).toArray] x.W fun e w' => e = .returned (.tuple #[.bool (pre e0.1 (bitsK a6 128)), .int .i64 0]) ∧ Below x.W.heap.size x.W w') := fun x => RHas6_L (HC.out.k6 e0 (List.mem_of_getElem? he0)) H6.out.1 H6.out.2 x.W
            have q1 : decide ((n : Int) < l6.length) = true := by simpa using hlt
            have w9 : IntKind.i64.wrap ((n : Int) + 1) = (n : Int) + 1 := wrap_i64 _ ⟨by have := HLE.out; omega, by have := HLE.out; omega⟩
            have HN : Hid (n < l6.length) := hlt
            have dn : ∀ x : Hi wr, x.W.cell? ⟨g, n * 18 + 16, none⟩ = some (.int .i64 e0.1.length) := fun x => hcu x 16 _ (ec6_n e0)
            have hbox : wr.heap[w4.heap.size]? = some (.cells (bE6 s6).toArray 51) := blk_on HY7.out hBk
            have HBOX : Hid (wr.heap[w4.heap.size]? = some (.cells (bE6 s6).toArray 51)) := hbox
            have HMEM : Hid (e0 ∈ l6) := List.mem_of_getElem? he0
            clear hcx hcu hv' hBk he0 hbw hbox
            cases hp : pre e0.1 (bitsK a6 128) with
            | false =>
              rw [hp] at HHX
              clear hp dn
              go_wp2_with fail
              refine wp_region_hi (by kernel_rfl) (by kernel_rfl) ?_
              repeat (first | go_big_quiet_skip | (go_big_quiet_want; refine hi_load (.tmp 102) 39 rfl rfl HL1.out ?_; simp only [Act.put, List.setIfInBounds_toArray, List.set_cons_zero, List.set_cons_succ]; go_big_quiet_on) | (go_big_quiet_want; refine hi_load (.tmp 7) 37 rfl rfl HL2.out ?_; simp only [Act.put, List.setIfInBounds_toArray, List.set_cons_zero, List.set_cons_succ]; go_big_quiet_on) | (go_big_quiet_want; go_big_quiet_op; first | go_big_quiet_on | go_big_quiet_call (first | (go_at_call 19; with_reducible exact Hi.calls (HHX.out _)))))
              refine wpQuiet_nil ?_
              intro _ hw
              obtain ⟨yy, rfl⟩ := hw
              go_wp2_with fail
              refine wp_region_up (by kernel_rfl) (by kernel_rfl) ?_
              repeat (first | go_big_quiet_skip | (go_big_quiet_want; go_big_quiet_op; first | go_big_quiet_on | go_big_quiet_call (fail)))
              refine wpQuiet_nil ?_
              intro _ hw
              obtain ⟨z, rfl⟩ := hw
              go_wp2
              go_roundw
              case rel => exact ⟨n + 1, HN.out, rfl, HBK.out.trans (z.below.mono HBK.out.size)⟩
              case measure => show l6.length - (n + 1) < l6.length - n; have := HN.out; omega
            | true =>
              rw [hp] at HHX
              obtain ⟨b1, hb1, hbl⟩ := bst_most HC.out.s6 HMEM.out hp
              rw [HS6.out] at hb1
              have HOT : Hid (o6 = true) := by
                have : o6 = true := by rw [← HO6.out, hb1]; rfl
                exact this
              have db : ∀ x : Hi wr, x.W.cell? ⟨w4.heap.size, 16, none⟩ = some (.int .i64 b1.1.length) := fun x => blk_cell (Hi.blk HBOX.out x) (by rw [hb1]; exact ec6_n b1)
              have q2 : decide ((b1.1.length : Int) < e0.1.length) = false := decide_eq_false (by omega)
              have q3 : decide (b1.1.length < e0.1.length) = false := decide_eq_false (by omega)
              clear hp hb1 hbl
              have hot := HOT.out
              subst hot
              go_wp2_with fail
              refine wp_region_hi (by kernel_rfl) (by kernel_rfl) ?_
              repeat (first | go_big_quiet_skip | (go_big_quiet_want; refine hi_load (.tmp 102) 39 rfl rfl HL1.out ?_; simp only [Act.put, List.setIfInBounds_toArray, List.set_cons_zero, List.set_cons_succ]; go_big_quiet_on) | (go_big_quiet_want; refine hi_load (.tmp 7) 37 rfl rfl HL2.out ?_; simp only [Act.put, List.setIfInBounds_toArray, List.set_cons_zero, List.set_cons_succ]; go_big_quiet_on) | (go_big_quiet_want; go_big_quiet_op; first | go_big_quiet_on | go_big_quiet_call (first | (go_at_call 19; with_reducible exact Hi.calls (HHX.out _)))))
              refine wpQuiet_nil ?_
              intro _ hw
              obtain ⟨yy, rfl⟩ := hw
              go_wp2_with fail
              refine wp_region_up (by kernel_rfl) (by kernel_rfl) ?_
              repeat (first | go_big_quiet_skip | (go_big_quiet_want; go_big_quiet_op; first | go_big_quiet_on | go_big_quiet_call (fail)))
              refine wpQuiet_nil ?_
              intro _ hw
              obtain ⟨z, rfl⟩ := hw
              go_wp2
              go_roundw
              case rel => exact ⟨n + 1, HN.out, rfl, HBK.out.trans (z.below.mono HBK.out.size)⟩
              case measure => show l6.length - (n + 1) < l6.length - n; have := HN.out; omega
          · obtain rfl : n = l6.length := by omega
            clear hBk hlt
            have HXF : Hid (wr.heap[w3.heap.size]? = some (.cells (bE4 s4).toArray 47)) := blk_on HX7.out HBK.out
            have HYF : Hid (wr.heap[w4.heap.size]? = some (.cells (bE6 s6).toArray 51)) := blk_on HY7.out HBK.out
            have HKF : Hid (Below W1.heap.size W1 wr) := HK7.out.trans (HBK.out.mono HK7.out.size)
            have HE4 : Hid ((Instr.loadAt 35 (.pointer (some ⟨w3.heap.size, 0, none⟩))).run Try.prog wr = .ok (PK4 (s4.getD ([], 0)).1) wr) := ld_pk4 (by have := CellsAt.of_blk HXF.out; rw [bE4_ec] at this; simpa using this)
            have h4h := RHas4_L (W := wr) (p := (s4.getD ([], 0)).1) (by rw [← HS4.out]; exact bst_len HC.out.s4 HC.out.k4) H4.out.1 H4.out.2
            rw [show pre (s4.getD ([], 0)).1 (bitsK a4 32) = true by rw [← HS4.out]; exact bst_has HC.out.s4] at h4h
            have HH4 : Hid _ := h4h
            clear h4h
            go_wp2_with first
              | ((with_reducible show wpList _ _ _ ({ dst := _, op := Op.load 35 (Operand.tmp 126), type := _, pos := _, after := _, guard := _ } :: _) _ _); refine armLv (.tmp 126) 35 rfl rfl rfl HE4.out ?_)
              | ((with_reducible show wpList _ _ _ ({ dst := _, op := Op.load 33 (Operand.tmp 6), type := _, pos := _, after := _, guard := _ } :: _) _ _); refine armLv (.tmp 6) 33 rfl rfl rfl (HA4.out _ HKF.out) ?_)
            refine Calls.mono HH4.out ?_
            rintro e wA ⟨rfl, hbA⟩
            have HYA : Hid (wA.heap[w4.heap.size]? = some (.cells (bE6 s6).toArray 51)) := blk_on HYF.out hbA
            have HKA : Hid (Below W1.heap.size W1 wA) := HKF.out.trans (hbA.mono HKF.out.size)
            have HE6 : Hid ((Instr.loadAt 39 (.pointer (some ⟨w4.heap.size, 0, none⟩))).run Try.prog wA = .ok (PK6 (s6.getD ([], 0)).1) wA) := ld_pk6 (by have := CellsAt.of_blk HYA.out; rw [bE6_ec] at this; simpa using this)
            have h6h := RHas6_L (W := wA) (p := (s6.getD ([], 0)).1) (by rw [← HS6.out]; exact bst_len HC.out.s6 HC.out.k6) H6.out.1 H6.out.2
            rw [show pre (s6.getD ([], 0)).1 (bitsK a6 128) = true by rw [← HS6.out]; exact bst_has HC.out.s6] at h6h
            have HH6 : Hid _ := h6h
            clear h6h hbA HE4 HH4
            go_wp2_with first
              | ((with_reducible show wpList _ _ _ ({ dst := _, op := Op.load 39 (Operand.tmp 133), type := _, pos := _, after := _, guard := _ } :: _) _ _); refine armLv (.tmp 133) 39 rfl rfl rfl HE6.out ?_)
              | ((with_reducible show wpList _ _ _ ({ dst := _, op := Op.load 37 (Operand.tmp 7), type := _, pos := _, after := _, guard := _ } :: _) _ _); refine armLv (.tmp 7) 37 rfl rfl rfl (HA6.out _ HKA.out) ?_)
            refine Calls.mono HH6.out ?_
            rintro e wB ⟨rfl, hbB⟩
            have HFZ : Hid (Below W.heap.size W wB) := HB1.out.trans ((HKA.out.trans (hbB.mono HKA.out.size)).mono (by have := HS1.out; omega))
            clear hbB HE6 HH6
            clear HO4 HO6
            cases o4 <;> cases o6
            all_goals
              go_wp2
              try go_ret
              exact HQ.out _ _ ⟨rfl, HFZ.out⟩
theorem open_a4T {H : Type} {enc : TypeId × Value → H} {W : World} {v : Value} {d : DataW H} {p : List MemPlace} (h : DataW.Trod enc Try.prog W 0 (fun _ => true) true 33 v d p) : ∃ l, v = .agg (u8s l).toArray ∧ FitB l ∧ l.length = 4 := by
  obtain ⟨fuel, hf⟩ := h
  obtain ⟨zs, hl, hcs, hfit⟩ := cells_arr Try.underlying33 (by kernel_rfl) (by kernel_rfl) hf
  exact ⟨zs, agg_of hcs (by rw [u8s_length]; omega), hfit, hl⟩
theorem open_a6T {H : Type} {enc : TypeId × Value → H} {W : World} {v : Value} {d : DataW H} {p : List MemPlace} (h : DataW.Trod enc Try.prog W 0 (fun _ => true) true 37 v d p) : ∃ l, v = .agg (u8s l).toArray ∧ FitB l ∧ l.length = 16 := by
  obtain ⟨fuel, hf⟩ := h
  obtain ⟨zs, hl, hcs, hfit⟩ := cells_arr Try.underlying37 (by kernel_rfl) (by kernel_rfl) hf
  exact ⟨zs, agg_of hcs (by rw [u8s_length]; omega), hfit, hl⟩
set_option maxRecDepth 100000 in
theorem trieLongest_open {H : Type} {enc : TypeId × Value → H} {W : World} {base : Nat} (v0 v1 v2 v3 : Value) {d0 d1 d2 d3 : DataW H} {p0 p1 p2 p3 : List MemPlace}
    (o0 : Value.okWide Try.prog W .any base 3 v0) (h0 : DataW.Trod enc Try.prog W 0 (fun _ => true) true 3 v0 d0 p0) (z0 : ∀ k ∈ d0.weights Try.prog 3, k ≤ reachBytes)
    (o1 : Value.okWide Try.prog W .any base 22 v1) (h1 : DataW.Trod enc Try.prog W 0 (fun _ => true) true 22 v1 d1 p1) (z1 : ∀ k ∈ d1.weights Try.prog 22, k ≤ reachBytes)
    (o2 : Value.okWide Try.prog W .any base 33 v2) (h2 : DataW.Trod enc Try.prog W 0 (fun _ => true) true 33 v2 d2 p2) (z2 : ∀ k ∈ d2.weights Try.prog 33, k ≤ reachBytes)
    (o3 : Value.okWide Try.prog W .any base 37 v3) (h3 : DataW.Trod enc Try.prog W 0 (fun _ => true) true 37 v3 d3 p3) (z3 : ∀ k ∈ d3.weights Try.prog 37, k ≤ reachBytes) :
    Calls Try.prog 4 #[v0, v1, v2, v3] W fun e w' => e = .returned (.bool true) ∧ Below W.heap.size W w' := by
  obtain ⟨k, rfl, _, _, wk⟩ := open_int Try.underlying3 o0 h0
  obtain ⟨os, ho, hi⟩ := open_ops o1 h1
  obtain ⟨a4, rfl, f4, l4⟩ := open_a4T h2
  obtain ⟨a6, rfl, f6, l6⟩ := open_a6T h3
  exact trieLongest_walk k (bnd64T wk) ho hi a4 ⟨f4, l4⟩ a6 ⟨f6, l6⟩
end Go.Proofs.Ytenahbdopgmpfaa
