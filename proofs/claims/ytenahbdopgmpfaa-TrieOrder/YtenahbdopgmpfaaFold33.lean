/-
  Get of the document's table.
  Appends of rows; the document's ahead of keys; what a slice of a row is.
-/
import Derived.Test.YtenahbdopgmpfaaFold32
import Derived.BigQuiet
import Derived.Laws.OwnMore
namespace Go.Proofs.Ytenahbdopgmpfaa
open Go Go.RowKit Go.Shelf
set_option linter.unusedVariables false
set_option linter.unusedSimpArgs false

set_option maxHeartbeats 4000000 in
set_option maxRecDepth 100000 in
theorem RGet4_key {W : World} {b : Nat} {lim : Int} {l4 l6 : List Ent} {v4 v6 : Value} (h : Doc b lim l4 l6 v4 v6 W) (k : Bs) (hk : k.length ≤ 32) (hkey : ∀ e ∈ l4, e.1.length ≤ 32) (hlen : l4.length ≤ 100000) :
    Calls Try.prog 23 #[.pointer (some ⟨b, 0, none⟩), PK4 k] W fun e w' => e = .returned (.tuple #[.int .i64 (lookN k l4).1, .bool (lookN k l4).2, .int .i64 0]) ∧ Below W.heap.size W w' := by
  generalize hQ : (fun (e : Ending) (w' : World) => e = .returned (.tuple #[.int .i64 (lookN k l4).1, .bool (lookN k l4).2, .int .i64 0]) ∧ Below W.heap.size W w') = Q
  have HQ : Hid (∀ e w', (e = .returned (.tuple #[.int .i64 (lookN k l4).1, .bool (lookN k l4).2, .int .i64 0]) ∧ Below W.heap.size W w') → Q e w') := fun e w' hh => by rw [← hQ]; exact hh
  clear hQ
  obtain ⟨W0, hW0⟩ : ∃ W0, W0 = W.alloc (.cells (cp6 (bytN 4 k) k.length).toArray 35) := ⟨_, rfl⟩
  have hB0 : Below W.heap.size W W0 := by rw [hW0]; exact (Below.refl W.heap.size W).alloc (Nat.le_refl _) _
  have hx0 : W0.heap[W.heap.size]? = some (.cells (cp6 (bytN 4 k) k.length).toArray 35) := by rw [hW0]; exact blk_new W _
  have hd0 := h.on hB0
  obtain ⟨a, c, hv⟩ := own_slcT h.r4
  have HV : Hid (v4 = .slice a l4.length c) := hv
  have HD0 : Hid (Doc b lim l4 l6 v4 v6 W0) := hd0
  have HX0 : Hid (W0.heap[W.heap.size]? = some (.cells (cp6 (bytN 4 k) k.length).toArray 35)) := hx0
  have HB0 : Hid (Below W.heap.size W W0) := hB0
  have HCK : Hid (∀ X : World, Calls Try.prog 48 #[PK4 k] X fun e w' => e = .returned (.int .i64 0) ∧ Below X.heap.size X w') := fun X => RCheck4_key hk X
  have HL0 : Hid ((Instr.loadAt 35 (.pointer (some ⟨W.heap.size, 0, none⟩))).run Try.prog W0 = .ok (PK4 k) W0) := ld_bx4 hx0
  have HKEY : Hid (∀ e ∈ l4, e.1.length ≤ 32) := hkey
  have hW := hW0.symm
  clear hW0 hB0 hx0 hd0 hv h hkey hk
  go_enter Try.func23, Try.ntmps23
  go_wp2_with first
    | ((with_reducible show wpList _ _ _ _ _ _); refine armLv (.tmp 3) 35 rfl rfl rfl HL0.out ?_)
  refine Calls.mono (HCK.out _) ?_
  rintro e w1 ⟨rfl, hb1⟩
  have HD1 : Hid (Doc b lim l4 l6 v4 v6 w1) := HD0.out.on hb1
  have HX1 : Hid (w1.heap[W.heap.size]? = some (.cells (cp6 (bytN 4 k) k.length).toArray 35)) := blk_on HX0.out hb1
  have HB1 : Hid (Below W.heap.size W w1) := HB0.out.trans (hb1.mono HB0.out.size)
  clear hb1 HL0 HCK HB0 HX0 HD0 hW
  go_wp2
  go_loopw [7] (fun i wr => ∃ n : Nat, n ≤ l4.length ∧ i = .int .i64 n ∧ (∀ j e, j < n → l4[j]? = some e → e.1 ≠ k) ∧ Below w1.heap.size w1 wr) (fun i _ => l4.length - (intOf i).toNat)
  case atStart => exact ⟨0, Nat.zero_le _, rfl, fun j e h => absurd h (Nat.not_lt_zero _), Below.refl _ _⟩
  case round =>
    obtain ⟨n, hn, rfl, hne, hBk⟩ := hrel
    have HNE : Hid (∀ j e, j < n → l4[j]? = some e → e.1 ≠ k) := hne
    have hdk := HD1.out.on hBk
    have c1 : wr.cell? ⟨b, 1, none⟩ = some (.slice a l4.length c) := by rw [← HV.out]; exact blk_cell hdk.box rfl
    have HBK : Hid (Below W.heap.size W wr) := HB1.out.trans (hBk.mono HB1.out.size)
    have HBR : Hid (Below w1.heap.size w1 wr) := hBk
    by_cases hlt : n < l4.length
    · obtain ⟨e0, he0⟩ : ∃ e0, l4[n]? = some e0 := ⟨_, List.getElem?_eq_getElem hlt⟩
      obtain ⟨g, c', hv', hg, _, hcx⟩ := own_atT ec4_len hdk.r4 he0
      rw [HV.out] at hv'
      obtain ⟨rfl, rfl⟩ : a = some ⟨g, 0, none⟩ ∧ c = c' := by injection hv' with h1 _ h3; exact ⟨h1, h3⟩
      have hcu : ∀ x : Hi wr, CellsAt x.W g (n * 6) (ec4 e0) := fun x i u hi => (x.below.cell (p := ⟨g, _, none⟩) hg).trans (hcx i u hi)
      have HL1 : Hid (∀ x : Hi wr, (Instr.loadAt 35 (.pointer (some ⟨g, n * 6, none⟩))).run Try.prog x.W = .ok (PK4 e0.1) x.W) := fun x => ld_pk4 (hcu x)
      have hxk := blk_on HX1.out hBk
      have HL2 : Hid (∀ x : Hi wr, (Instr.loadAt 35 (.pointer (some ⟨W.heap.size, 0, none⟩))).run Try.prog x.W = .ok (PK4 k) x.W) := fun x => ld_bx4 (Hi.blk hxk x)
      have HEQ : Hid (∀ X : World, (binOp .eql 35 (PK4 e0.1) (PK4 k)).run Try.prog X = .ok (.bool (decide (e0.1 = k))) X) := fun X => eqlK4 (HKEY.out e0 (List.mem_of_getElem? he0)) X
      have d1 : ∀ x : Hi wr, x.W.cell? ⟨b, 1, none⟩ = some (.slice (some ⟨g, 0, none⟩) l4.length c) := fun x => (x.below.cell (p := ⟨b, _, none⟩) hdk.lt).trans c1
      have dv : ∀ x : Hi wr, x.W.cell? ⟨g, n * 6 + 5, none⟩ = some (.int .i64 e0.2) := fun x => hcu x 5 _ (ec4_v e0)
      have q1 : decide ((n : Int) < l4.length) = true := by simpa using hlt
      have w9 : IntKind.i64.wrap ((n : Int) + 1) = (n : Int) + 1 := wrap_i64 _ ⟨by omega, by omega⟩
      have HE0 : Hid (l4[n]? = some e0) := he0
      have HLT : Hid (n < l4.length) := hlt
      clear hcx hcu hxk hdk hv' hne hBk he0
      cases hh : decide (e0.1 = k) with
      | true =>
        rw [hh] at HEQ
        have hr1 : lookN k l4 = (e0.2, true) := by
          obtain ⟨hl2, ee⟩ := List.getElem?_eq_some_iff.1 HE0.out
          have ht := congrArg (lookN k) (List.take_append_drop n l4)
          rw [← ht, lookN_skip (fun e he => by
            obtain ⟨j, hj⟩ := List.getElem?_of_mem he
            have hlt2 := (List.getElem?_eq_some_iff.1 hj).1
            rw [List.length_take] at hlt2
            rw [List.getElem?_take, if_pos (by omega)] at hj
            exact HNE.out j e (by omega) hj), List.drop_eq_getElem_cons hl2, lookN, ee, if_pos (of_decide_eq_true hh)]
        have HR : Hid (lookN k l4 = (e0.2, true)) := hr1
        clear hr1 hh w9
        go_wp2_with fail
        refine wp_region_hi (by kernel_rfl) (by kernel_rfl) ?_
        repeat (first | go_big_quiet_skip | (go_big_quiet_want; refine hi_load (.tmp 26) 35 rfl rfl HL1.out ?_; simp only [Act.put, List.setIfInBounds_toArray, List.set_cons_zero, List.set_cons_succ]; go_big_quiet_on) | (go_big_quiet_want; refine hi_load (.tmp 3) 35 rfl rfl HL2.out ?_; simp only [Act.put, List.setIfInBounds_toArray, List.set_cons_zero, List.set_cons_succ]; go_big_quiet_on) | (go_big_quiet_want; refine hi_binT .eql 35 35 (.tmp 27) (.tmp 28) rfl rfl rfl (fun W => gdP4T _ _ _ _ _ W) HEQ.out ?_; simp only [Act.put, List.setIfInBounds_toArray, List.set_cons_zero, List.set_cons_succ]; go_big_quiet_on) | (go_big_quiet_want; go_big_quiet_op; first | go_big_quiet_on | go_big_quiet_call (fail)))
        refine wpQuiet_nil ?_
        intro _ hw
        obtain ⟨yy, rfl⟩ := hw
        go_wp2
        try go_ret2
        refine HQ.out _ _ ⟨by rw [HR.out]; rfl, HBK.out.trans (yy.below.mono HBK.out.size)⟩
      | false =>
        rw [hh] at HEQ
        have HN : Hid (e0.1 ≠ k) := of_decide_eq_false hh
        clear hh dv
        go_wp2_with fail
        refine wp_region_hi (by kernel_rfl) (by kernel_rfl) ?_
        repeat (first | go_big_quiet_skip | (go_big_quiet_want; refine hi_load (.tmp 26) 35 rfl rfl HL1.out ?_; simp only [Act.put, List.setIfInBounds_toArray, List.set_cons_zero, List.set_cons_succ]; go_big_quiet_on) | (go_big_quiet_want; refine hi_load (.tmp 3) 35 rfl rfl HL2.out ?_; simp only [Act.put, List.setIfInBounds_toArray, List.set_cons_zero, List.set_cons_succ]; go_big_quiet_on) | (go_big_quiet_want; refine hi_binT .eql 35 35 (.tmp 27) (.tmp 28) rfl rfl rfl (fun W => gdP4T _ _ _ _ _ W) HEQ.out ?_; simp only [Act.put, List.setIfInBounds_toArray, List.set_cons_zero, List.set_cons_succ]; go_big_quiet_on) | (go_big_quiet_want; go_big_quiet_op; first | go_big_quiet_on | go_big_quiet_call (fail)))
        refine wpQuiet_nil ?_
        intro _ hw
        obtain ⟨yy, rfl⟩ := hw
        go_wp2
        go_roundw
        case rel => exact ⟨n + 1, HLT.out, rfl, fun j e hj he => (by
          rcases Nat.lt_succ_iff_lt_or_eq.1 hj with hj | rfl
          · exact HNE.out j e hj he
          · rw [HE0.out] at he; injection he with he; rw [← he]; exact HN.out), HBR.out.trans (yy.below.mono HBR.out.size)⟩
        case measure => show l4.length - (n + 1) < l4.length - n; have := HLT.out; omega
    · obtain rfl : n = l4.length := by omega
      have HR : Hid (lookN k l4 = (0, false)) := lookN_none fun e he => by
        obtain ⟨j, hj⟩ := List.getElem?_of_mem he
        exact hne j e (List.getElem?_eq_some_iff.1 hj).1 hj
      clear hdk hne hBk
      go_wp2
      try go_ret2
      refine HQ.out _ _ ⟨by rw [HR.out]; rfl, HBK.out⟩
set_option maxHeartbeats 4000000 in
set_option maxRecDepth 100000 in
theorem RGet6_key {W : World} {b : Nat} {lim : Int} {l4 l6 : List Ent} {v4 v6 : Value} (h : Doc b lim l4 l6 v4 v6 W) (k : Bs) (hk : k.length ≤ 128) (hkey : ∀ e ∈ l6, e.1.length ≤ 128) (hlen : l6.length ≤ 100000) :
    Calls Try.prog 25 #[.pointer (some ⟨b, 0, none⟩), PK6 k] W fun e w' => e = .returned (.tuple #[.int .i64 (lookN k l6).1, .bool (lookN k l6).2, .int .i64 0]) ∧ Below W.heap.size W w' := by
  generalize hQ : (fun (e : Ending) (w' : World) => e = .returned (.tuple #[.int .i64 (lookN k l6).1, .bool (lookN k l6).2, .int .i64 0]) ∧ Below W.heap.size W w') = Q
  have HQ : Hid (∀ e w', (e = .returned (.tuple #[.int .i64 (lookN k l6).1, .bool (lookN k l6).2, .int .i64 0]) ∧ Below W.heap.size W w') → Q e w') := fun e w' hh => by rw [← hQ]; exact hh
  clear hQ
  obtain ⟨W0, hW0⟩ : ∃ W0, W0 = W.alloc (.cells (cp6 (bytN 16 k) k.length).toArray 39) := ⟨_, rfl⟩
  have hB0 : Below W.heap.size W W0 := by rw [hW0]; exact (Below.refl W.heap.size W).alloc (Nat.le_refl _) _
  have hx0 : W0.heap[W.heap.size]? = some (.cells (cp6 (bytN 16 k) k.length).toArray 39) := by rw [hW0]; exact blk_new W _
  have hd0 := h.on hB0
  obtain ⟨a, c, hv⟩ := own_slcT h.r6
  have HV : Hid (v6 = .slice a l6.length c) := hv
  have HD0 : Hid (Doc b lim l4 l6 v4 v6 W0) := hd0
  have HX0 : Hid (W0.heap[W.heap.size]? = some (.cells (cp6 (bytN 16 k) k.length).toArray 39)) := hx0
  have HB0 : Hid (Below W.heap.size W W0) := hB0
  have HCK : Hid (∀ X : World, Calls Try.prog 50 #[PK6 k] X fun e w' => e = .returned (.int .i64 0) ∧ Below X.heap.size X w') := fun X => RCheck6_key hk X
  have HL0 : Hid ((Instr.loadAt 39 (.pointer (some ⟨W.heap.size, 0, none⟩))).run Try.prog W0 = .ok (PK6 k) W0) := ld_bx6 hx0
  have HKEY : Hid (∀ e ∈ l6, e.1.length ≤ 128) := hkey
  have hW := hW0.symm
  clear hW0 hB0 hx0 hd0 hv h hkey hk
  go_enter Try.func25, Try.ntmps25
  go_wp2_with first
    | ((with_reducible show wpList _ _ _ _ _ _); refine armLv (.tmp 3) 39 rfl rfl rfl HL0.out ?_)
  refine Calls.mono (HCK.out _) ?_
  rintro e w1 ⟨rfl, hb1⟩
  have HD1 : Hid (Doc b lim l4 l6 v4 v6 w1) := HD0.out.on hb1
  have HX1 : Hid (w1.heap[W.heap.size]? = some (.cells (cp6 (bytN 16 k) k.length).toArray 39)) := blk_on HX0.out hb1
  have HB1 : Hid (Below W.heap.size W w1) := HB0.out.trans (hb1.mono HB0.out.size)
  clear hb1 HL0 HCK HB0 HX0 HD0 hW
  go_wp2
  go_loopw [7] (fun i wr => ∃ n : Nat, n ≤ l6.length ∧ i = .int .i64 n ∧ (∀ j e, j < n → l6[j]? = some e → e.1 ≠ k) ∧ Below w1.heap.size w1 wr) (fun i _ => l6.length - (intOf i).toNat)
  case atStart => exact ⟨0, Nat.zero_le _, rfl, fun j e h => absurd h (Nat.not_lt_zero _), Below.refl _ _⟩
  case round =>
    obtain ⟨n, hn, rfl, hne, hBk⟩ := hrel
    have HNE : Hid (∀ j e, j < n → l6[j]? = some e → e.1 ≠ k) := hne
    have hdk := HD1.out.on hBk
    have c1 : wr.cell? ⟨b, 2, none⟩ = some (.slice a l6.length c) := by rw [← HV.out]; exact blk_cell hdk.box rfl
    have HBK : Hid (Below W.heap.size W wr) := HB1.out.trans (hBk.mono HB1.out.size)
    have HBR : Hid (Below w1.heap.size w1 wr) := hBk
    by_cases hlt : n < l6.length
    · obtain ⟨e0, he0⟩ : ∃ e0, l6[n]? = some e0 := ⟨_, List.getElem?_eq_getElem hlt⟩
      obtain ⟨g, c', hv', hg, _, hcx⟩ := own_atT ec6_len hdk.r6 he0
      rw [HV.out] at hv'
      obtain ⟨rfl, rfl⟩ : a = some ⟨g, 0, none⟩ ∧ c = c' := by injection hv' with h1 _ h3; exact ⟨h1, h3⟩
      have hcu : ∀ x : Hi wr, CellsAt x.W g (n * 18) (ec6 e0) := fun x i u hi => (x.below.cell (p := ⟨g, _, none⟩) hg).trans (hcx i u hi)
      have HL1 : Hid (∀ x : Hi wr, (Instr.loadAt 39 (.pointer (some ⟨g, n * 18, none⟩))).run Try.prog x.W = .ok (PK6 e0.1) x.W) := fun x => ld_pk6 (hcu x)
      have hxk := blk_on HX1.out hBk
      have HL2 : Hid (∀ x : Hi wr, (Instr.loadAt 39 (.pointer (some ⟨W.heap.size, 0, none⟩))).run Try.prog x.W = .ok (PK6 k) x.W) := fun x => ld_bx6 (Hi.blk hxk x)
      have HEQ : Hid (∀ X : World, (binOp .eql 39 (PK6 e0.1) (PK6 k)).run Try.prog X = .ok (.bool (decide (e0.1 = k))) X) := fun X => eqlK6 (HKEY.out e0 (List.mem_of_getElem? he0)) X
      have d1 : ∀ x : Hi wr, x.W.cell? ⟨b, 2, none⟩ = some (.slice (some ⟨g, 0, none⟩) l6.length c) := fun x => (x.below.cell (p := ⟨b, _, none⟩) hdk.lt).trans c1
      have dv : ∀ x : Hi wr, x.W.cell? ⟨g, n * 18 + 17, none⟩ = some (.int .i64 e0.2) := fun x => hcu x 17 _ (ec6_v e0)
      have q1 : decide ((n : Int) < l6.length) = true := by simpa using hlt
      have w9 : IntKind.i64.wrap ((n : Int) + 1) = (n : Int) + 1 := wrap_i64 _ ⟨by omega, by omega⟩
      have HE0 : Hid (l6[n]? = some e0) := he0
      have HLT : Hid (n < l6.length) := hlt
      clear hcx hcu hxk hdk hv' hne hBk he0
      cases hh : decide (e0.1 = k) with
      | true =>
        rw [hh] at HEQ
        have hr1 : lookN k l6 = (e0.2, true) := by
          obtain ⟨hl2, ee⟩ := List.getElem?_eq_some_iff.1 HE0.out
          have ht := congrArg (lookN k) (List.take_append_drop n l6)
          rw [← ht, lookN_skip (fun e he => by
            obtain ⟨j, hj⟩ := List.getElem?_of_mem he
            have hlt2 := (List.getElem?_eq_some_iff.1 hj).1
            rw [List.length_take] at hlt2
            rw [List.getElem?_take, if_pos (by omega)] at hj
            exact HNE.out j e (by omega) hj), List.drop_eq_getElem_cons hl2, lookN, ee, if_pos (of_decide_eq_true hh)]
        have HR : Hid (lookN k l6 = (e0.2, true)) := hr1
        clear hr1 hh w9
        go_wp2_with fail
        refine wp_region_hi (by kernel_rfl) (by kernel_rfl) ?_
        repeat (first | go_big_quiet_skip | (go_big_quiet_want; refine hi_load (.tmp 26) 39 rfl rfl HL1.out ?_; simp only [Act.put, List.setIfInBounds_toArray, List.set_cons_zero, List.set_cons_succ]; go_big_quiet_on) | (go_big_quiet_want; refine hi_load (.tmp 3) 39 rfl rfl HL2.out ?_; simp only [Act.put, List.setIfInBounds_toArray, List.set_cons_zero, List.set_cons_succ]; go_big_quiet_on) | (go_big_quiet_want; refine hi_binT .eql 39 39 (.tmp 27) (.tmp 28) rfl rfl rfl (fun W => gdP6 _ _ _ _ _ W) HEQ.out ?_; simp only [Act.put, List.setIfInBounds_toArray, List.set_cons_zero, List.set_cons_succ]; go_big_quiet_on) | (go_big_quiet_want; go_big_quiet_op; first | go_big_quiet_on | go_big_quiet_call (fail)))
        refine wpQuiet_nil ?_
        intro _ hw
        obtain ⟨yy, rfl⟩ := hw
        go_wp2
        try go_ret2
        refine HQ.out _ _ ⟨by rw [HR.out]; rfl, HBK.out.trans (yy.below.mono HBK.out.size)⟩
      | false =>
        rw [hh] at HEQ
        have HN : Hid (e0.1 ≠ k) := of_decide_eq_false hh
        clear hh dv
        go_wp2_with fail
        refine wp_region_hi (by kernel_rfl) (by kernel_rfl) ?_
        repeat (first | go_big_quiet_skip | (go_big_quiet_want; refine hi_load (.tmp 26) 39 rfl rfl HL1.out ?_; simp only [Act.put, List.setIfInBounds_toArray, List.set_cons_zero, List.set_cons_succ]; go_big_quiet_on) | (go_big_quiet_want; refine hi_load (.tmp 3) 39 rfl rfl HL2.out ?_; simp only [Act.put, List.setIfInBounds_toArray, List.set_cons_zero, List.set_cons_succ]; go_big_quiet_on) | (go_big_quiet_want; refine hi_binT .eql 39 39 (.tmp 27) (.tmp 28) rfl rfl rfl (fun W => gdP6 _ _ _ _ _ W) HEQ.out ?_; simp only [Act.put, List.setIfInBounds_toArray, List.set_cons_zero, List.set_cons_succ]; go_big_quiet_on) | (go_big_quiet_want; go_big_quiet_op; first | go_big_quiet_on | go_big_quiet_call (fail)))
        refine wpQuiet_nil ?_
        intro _ hw
        obtain ⟨yy, rfl⟩ := hw
        go_wp2
        go_roundw
        case rel => exact ⟨n + 1, HLT.out, rfl, fun j e hj he => (by
          rcases Nat.lt_succ_iff_lt_or_eq.1 hj with hj | rfl
          · exact HNE.out j e hj he
          · rw [HE0.out] at he; injection he with he; rw [← he]; exact HN.out), HBR.out.trans (yy.below.mono HBR.out.size)⟩
        case measure => show l6.length - (n + 1) < l6.length - n; have := HLT.out; omega
    · obtain rfl : n = l6.length := by omega
      have HR : Hid (lookN k l6 = (0, false)) := lookN_none fun e he => by
        obtain ⟨j, hj⟩ := List.getElem?_of_mem he
        exact hne j e (List.getElem?_eq_some_iff.1 hj).1 hj
      clear hdk hne hBk
      go_wp2
      try go_ret2
      refine HQ.out _ _ ⟨by rw [HR.out]; rfl, HBK.out⟩
end Go.Proofs.Ytenahbdopgmpfaa

namespace Go.Proofs.Ytenahbdopgmpfaa
open Go Go.RowKit Go.Shelf
set_option linter.unusedVariables false
set_option linter.unusedSimpArgs false

theorem own_baseT {W : World} {base b2 k n : Nat} {t : TypeId} {v : Value} {xs : List Value} (h : W.ownsRow base t k v n xs) (hb : b2 ≤ base) : W.ownsRow b2 t k v n xs := by
  refine ⟨h.1, ?_⟩
  rcases h.2 with h2 | ⟨g, cap, cur, rfl, h1, h3⟩
  · exact .inl h2
  · exact .inr ⟨g, cap, cur, rfl, Nat.le_trans hb h1, h3⟩
theorem flat_set {f : Ent → List Value} {k : Nat} (hk : ∀ e, (f e).length = k) : ∀ {l : List Ent} {j : Nat} {e e' : Ent} {i : Nat} {u : Value}, l[j]? = some e → (f e).set i u = f e' → i < k → (l.flatMap f).set (j * k + i) u = (l.set j e').flatMap f
  | [], j, e, e', i, u, h, _, _ => by simp at h
  | x :: l, 0, e, e', i, u, h, hs, hi => by
    simp at h
    subst h
    rw [List.flatMap_cons, List.set_append_left _ _ (by rw [hk]; omega), show 0 * k + i = i by omega, hs]
    rfl
  | x :: l, j + 1, e, e', i, u, h, hs, hi => by
    rw [List.getElem?_cons_succ] at h
    rw [List.flatMap_cons, List.set_append_right _ _ (by rw [hk, Nat.succ_mul]; omega), hk, show (j + 1) * k + i - k = j * k + i by rw [Nat.succ_mul]; omega, flat_set hk h hs hi]
    rfl
theorem flat_len {f : Ent → List Value} {k : Nat} (hk : ∀ e, (f e).length = k) : ∀ l : List Ent, (l.flatMap f).length = l.length * k
  | [] => by simp
  | x :: l => by rw [List.flatMap_cons, List.length_append, hk, flat_len hk l, List.length_cons, Nat.succ_mul]; omega
/-- What a part of a row is as a slice. -/
def SrcR (k : Nat) (f : Ent → List Value) (W : World) (S : Value) (l : List Ent) : Prop := (S = .slice none 0 0 ∧ l = []) ∨ ∃ a c, S = .slice (some a) l.length c ∧ ∀ j u, (l.flatMap f)[j]? = some u → W.cell? (a.add j) = some u
theorem srcR_take {W : World} {base k : Nat} {t : TypeId} {f : Ent → List Value} {l : List Ent} {g c n : Nat} (hk : ∀ e, (f e).length = k) (h : W.ownsRow base t k (.slice (some ⟨g, 0, none⟩) l.length c) l.length (l.flatMap f)) (hn : n ≤ l.length) : SrcR k f W (.slice (some ⟨g, 0, none⟩) n c) (l.take n) := by
  refine .inr ⟨_, _, by rw [List.length_take, Nat.min_eq_left hn], fun j u hj => h.cells (g := g) rfl j u ?_⟩
  have e : l.flatMap f = (l.take n).flatMap f ++ (l.drop n).flatMap f := by rw [← List.flatMap_append, List.take_append_drop]
  rw [e, List.getElem?_append_left (List.getElem?_eq_some_iff.1 hj).1]
  exact hj
theorem srcR_drop {W : World} {base k : Nat} {t : TypeId} {f : Ent → List Value} {l : List Ent} {g c n m : Nat} {a : Addr} (hk : ∀ e, (f e).length = k) (h : W.ownsRow base t k (.slice (some ⟨g, 0, none⟩) l.length c) l.length (l.flatMap f)) (hn : n ≤ l.length) (ha : n < l.length → a = ⟨g, n * k, none⟩) : SrcR k f W (.slice (some a) (l.length - n) m) (l.drop n) := by
  refine .inr ⟨_, _, by rw [List.length_drop], fun j u hj => ?_⟩
  have hlt : n < l.length := Nat.lt_of_not_le fun hc => by rw [List.drop_eq_nil_of_le hc] at hj; simp at hj
  rw [ha hlt]
  have e : l.flatMap f = (l.take n).flatMap f ++ (l.drop n).flatMap f := by rw [← List.flatMap_append, List.take_append_drop]
  have := h.cells (g := g) rfl (n * k + j) u (by
    rw [e, List.getElem?_append_right (by rw [flat_len hk, List.length_take, Nat.min_eq_left hn]; omega), flat_len hk, List.length_take, Nat.min_eq_left hn, show n * k + j - n * k = j by omega]
    exact hj)
  rw [Go.WideShapes.add_plain] at this ⊢
  simpa using this
theorem SrcR.on {k : Nat} {f : Ent → List Value} {W W' : World} {S : Value} {l : List Ent} (h : SrcR k f W S l) (hb : Below W.heap.size W W') : SrcR k f W' S l := by
  rcases h with h | ⟨a, c, e, h⟩
  · exact .inl h
  · refine .inr ⟨a, c, e, fun j u hj => ?_⟩
    have hc := h j u hj
    exact (hb.cell (World.block_lt_of_cell? W _ hc)).trans hc
theorem arm_exT {P : Program} {w w2 : World} {ops : Array Oper} {rest : List Oper} {o : Oper} {a : Act} {Q : Exit → Act → World → Prop} {v : Value} (hw : Region.wanted o (yielded ops a.tmps) = true) (hrun : (execOp a.eval o).run P w = .ok (.value v) w2) (hK : wpList P ops Q rest (a.put o.dst v) w2) : wpList P ops Q (o :: rest) a w := by
  refine BigFrame.wpList_want hw fun K hK' => ?_
  unfold Oper.wp
  rw [hrun]
  exact hK' _ _ hK
theorem arm_bsT {P : Program} {w w2 : World} {ops : Array Oper} {rest : List Oper} {o : Oper} {a : Act} {Q : Exit → Act → World → Prop} (x : Operand) (t : TypeId) (hop : o.op = Op.buildSlice t 1 #[(0, x)]) (hw : Region.wanted o (yielded ops a.tmps) = true) {vx v : Value} (hx : a.eval x = vx) (hrun : (Instr.buildSlice t 1 #[(0, vx)]).run P w = .ok v w2) (hK : wpList P ops Q rest (a.put o.dst v) w2) : wpList P ops Q (o :: rest) a w := by
  refine BigFrame.wpList_want hw fun K hK' => ?_
  unfold Oper.wp
  simp [execOp, hop, hx, hrun, Result.andThen]
  exact hK' _ _ hK
theorem arm_apT {P : Program} {w w2 : World} {ops : Array Oper} {rest : List Oper} {o : Oper} {a : Act} {Q : Exit → Act → World → Prop} (s x : Operand) (t : TypeId) (hop : o.op = Op.call { callee := Callee.builtin Builtin.append, args := #[s, x], argTypes := #[t, t] }) (hw : Region.wanted o (yielded ops a.tmps) = true) {vs vx v : Value} (hs : a.eval s = vs) (hx : a.eval x = vx) (hrun : (Builtin.append_ #[t, t] o.type #[vs, vx]).run P w = .ok v w2) (hK : wpList P ops Q rest (a.put o.dst v) w2) : wpList P ops Q (o :: rest) a w := by
  refine BigFrame.wpList_want hw fun K hK' => ?_
  unfold Oper.wp
  simp [execOp, hop, resolve, invoke, builtin, hs, hx, hrun, Result.andThen]
  exact hK' _ _ hK
theorem arm_slT {P : Program} {w : World} {ops : Array Oper} {rest : List Oper} {o : Oper} {a : Act} {Q : Exit → Act → World → Prop} (x : Operand) (lo hi : Option Operand) (t : TypeId) (hop : o.op = Op.slice t x lo hi none) (hw : Region.wanted o (yielded ops a.tmps) = true) {vx v : Value} {vl vh : Option Value} (hx : a.eval x = vx) (hl : lo.map a.eval = vl) (hh : hi.map a.eval = vh) (hrun : (Instr.sliceAt t vx vl vh none).run P w = .ok v w) (hK : wpList P ops Q rest (a.put o.dst v) w) : wpList P ops Q (o :: rest) a w := by
  refine BigFrame.wpList_want hw fun K hK' => ?_
  unfold Oper.wp
  simp [execOp, hop, hx, hl, hh, hrun, Result.andThen]
  exact hK' _ _ hK
theorem ahead4_key (p q : Bs) (hp : p.length ≤ 32) (hq : q.length ≤ 32) (w : World) : Calls Try.prog 59 #[PK4 p, PK4 q] w fun e w' => e = .returned (.bool (ltB p q)) ∧ Below w.heap.size w w' := by
  have h := ahead4_calls (bytN 4 p) (bytN 4 q) p.length q.length (bytN_length _ _) (bytN_length _ _) (bytN_fit _ _) (bytN_fit _ _) w
  have e : decide ((p.length : Int) < q.length) = decide (p.length < q.length) := decide_eq_decide.2 (by omega)
  rw [e, ahead_key (by omega) (by omega)] at h
  exact h
theorem ahead6_key (p q : Bs) (hp : p.length ≤ 128) (hq : q.length ≤ 128) (w : World) : Calls Try.prog 60 #[PK6 p, PK6 q] w fun e w' => e = .returned (.bool (ltB p q)) ∧ Below w.heap.size w w' := by
  have h := ahead6_calls (bytN 16 p) (bytN 16 q) p.length q.length (bytN_length _ _) (bytN_length _ _) (bytN_fit _ _) (bytN_fit _ _) w
  have e : decide ((p.length : Int) < q.length) = decide (p.length < q.length) := decide_eq_decide.2 (by omega)
  rw [e, ahead_key (by omega) (by omega)] at h
  exact h
theorem sl_hi4 (g n len c : Nat) (w : World) (h : n ≤ c) (hc : c ≤ maxLen) : (Instr.sliceAt 54 (.slice (some ⟨g, 0, none⟩) len c) none (some (.int .i64 n)) none).run Try.prog w = .ok (.slice (some ⟨g, 0, none⟩) n c) w := by
  have h1 : ¬ ((c : Int) < n) := by omega
  have h2 : ¬ ((n : Int) < 0) := by omega
  simp [Instr.sliceAt, go_sem, h1, h2, h]
theorem sl_lo4 (g n len c : Nat) (h : n ≤ len) (hl : len ≤ c) (hc : c ≤ maxLen) : ∃ a, (∀ w : World, (Instr.sliceAt 54 (.slice (some ⟨g, 0, none⟩) len c) (some (.int .i64 n)) none none).run Try.prog w = .ok (.slice (some a) (len - n) (c - n)) w) ∧ (n < len → a = ⟨g, n * 6, none⟩) := by
  have h2 : ¬ ((n : Int) < 0) := by omega
  by_cases hnc : c - n = 0
  · refine ⟨⟨g, 0, none⟩, fun w => ?_, fun hlt => by omega⟩
    simp [Instr.sliceAt, go_sem, h2, h, hnc, hl]
    intro hh
    omega
  · refine ⟨⟨g, n * 6, none⟩, fun w => ?_, fun _ => rfl⟩
    simp [Instr.sliceAt, go_sem, h2, h, hnc, hl]
    intro hh
    omega
theorem appE4 {base : Nat} {W : World} {v : Value} {L : List Ent} (h : W.ownsRow base 47 6 v L.length (L.flatMap ec4)) (hb : base ≤ W.heap.size) {L2 : List Ent} (hl : L.length + L2.length ≤ 200000) {S : Value} (hS : SrcR 6 ec4 W S L2) (ty : TypeId) :
    ∃ v' W', (Builtin.append_ #[54, 54] ty #[v, S]).run Try.prog W = .ok v' W' ∧ W'.ownsRow base 47 6 v' (L ++ L2).length ((L ++ L2).flatMap ec4) ∧ Below base W W' := by
  obtain ⟨i, hi, hz, hsz, hby⟩ := infoE4
  rcases hS with ⟨rfl, rfl⟩ | ⟨a, c, rfl, hc⟩
  · refine ⟨v, W, run_append_owned_none W base 54 ty 47 i 6 Try.underlying54 hi v L.length _ h, ?_, Below.refl _ _⟩
    rw [List.append_nil]
    exact h
  · obtain ⟨v', w', hrun, hown, hgr, _, hat⟩ := run_append_own_at (P := Try.prog) W base 54 ty 47 i (.agg ([.int .u8 0, .int .u8 0, .int .u8 0, .int .u8 0, .int .i64 0, .int .i64 0] : List Value).toArray) 6 24 Try.underlying54 hi hz hsz hby rfl (by decide) v L.length (L.flatMap ec4) h a L2.length c (L2.flatMap ec4) (flat_len ec4_len _) hc (fun u hu => by
      obtain ⟨e, _, he⟩ := List.mem_flatMap.1 hu
      exact ec4_one e u he) (by unfold maxLen; omega) (by omega) hb
    refine ⟨v', w', hrun, ?_, ⟨hgr.os, hgr.tape, hgr.output, hgr.size, fun j hj => hgr.block j (by omega) (fun e => ?_)⟩⟩
    · rw [List.length_append, List.flatMap_append]
      exact hown
    · have := (own_ltT h e.symm).1
      omega
theorem set_val4 (e : Ent) (v : Int) : (ec4 e).set 5 (.int .i64 v) = ec4 (e.1, v) := by
  rw [ec4_eq, ec4_eq, List.set_append_right _ _ (by rw [cpN_length]; exact Nat.le_refl _), cpN_length]
  rfl
theorem own_put4 {W : World} {base g c : Nat} {l : List Ent} (h : W.ownsRow base 47 6 (.slice (some ⟨g, 0, none⟩) l.length c) l.length (l.flatMap ec4)) {j : Nat} {e : Ent} (hj : l[j]? = some e) (v : Int) :
    (W.setCell ⟨g, j * 6 + 5, none⟩ (.int .i64 v)).ownsRow base 47 6 (.slice (some ⟨g, 0, none⟩) l.length c) (l.set j (e.1, v)).length ((l.set j (e.1, v)).flatMap ec4) := by
  have := (h.stored (j * 6 + 5) (.int .i64 v)).1
  rw [flat_set ec4_len hj (set_val4 e v) (by decide)] at this
  rw [List.length_set]
  exact this
theorem st_fld4 {W : World} {b : Nat} {lim : Int} {v4 v6 : Value} (h : W.heap[b]? = some (.cells [.int .i64 lim, v4, v6].toArray 63)) {v : Value} (hv : ∃ x n m, v = .slice x n m) : (Instr.storeAt 54 (.pointer (some ⟨b, 1, none⟩)) v).run Try.prog W = .ok () (W.setCell ⟨b, 1, none⟩ v) := by
  obtain ⟨x, n, m, rfl⟩ := hv
  have h1 : W.cell? ⟨b, 1, none⟩ = some v4 := blk_cell h rfl
  have h2 := blk_open h 1
  simp [Instr.storeAt, go_sem, h1, h2]
theorem bld_e4 (k : Bs) (v : Int) (W : World) : (Instr.build 47 #[(0, PK4 k), (1, .int .i64 v)]).run Try.prog W = .ok (.agg (ec4 (k, v)).toArray) W := by
  refine run_build W _ _ _ ?_
  kernel_rfl
theorem sl_hi6 (g n len c : Nat) (w : World) (h : n ≤ c) (hc : c ≤ maxLen) : (Instr.sliceAt 56 (.slice (some ⟨g, 0, none⟩) len c) none (some (.int .i64 n)) none).run Try.prog w = .ok (.slice (some ⟨g, 0, none⟩) n c) w := by
  have h1 : ¬ ((c : Int) < n) := by omega
  have h2 : ¬ ((n : Int) < 0) := by omega
  simp [Instr.sliceAt, go_sem, h1, h2, h]
theorem sl_lo6 (g n len c : Nat) (h : n ≤ len) (hl : len ≤ c) (hc : c ≤ maxLen) : ∃ a, (∀ w : World, (Instr.sliceAt 56 (.slice (some ⟨g, 0, none⟩) len c) (some (.int .i64 n)) none none).run Try.prog w = .ok (.slice (some a) (len - n) (c - n)) w) ∧ (n < len → a = ⟨g, n * 18, none⟩) := by
  have h2 : ¬ ((n : Int) < 0) := by omega
  by_cases hnc : c - n = 0
  · refine ⟨⟨g, 0, none⟩, fun w => ?_, fun hlt => by omega⟩
    simp [Instr.sliceAt, go_sem, h2, h, hnc, hl]
    intro hh
    omega
  · refine ⟨⟨g, n * 18, none⟩, fun w => ?_, fun _ => rfl⟩
    simp [Instr.sliceAt, go_sem, h2, h, hnc, hl]
    intro hh
    omega
theorem appE6 {base : Nat} {W : World} {v : Value} {L : List Ent} (h : W.ownsRow base 51 18 v L.length (L.flatMap ec6)) (hb : base ≤ W.heap.size) {L2 : List Ent} (hl : L.length + L2.length ≤ 200000) {S : Value} (hS : SrcR 18 ec6 W S L2) (ty : TypeId) :
    ∃ v' W', (Builtin.append_ #[56, 56] ty #[v, S]).run Try.prog W = .ok v' W' ∧ W'.ownsRow base 51 18 v' (L ++ L2).length ((L ++ L2).flatMap ec6) ∧ Below base W W' := by
  obtain ⟨i, hi, hz, hsz, hby⟩ := infoE6
  rcases hS with ⟨rfl, rfl⟩ | ⟨a, c, rfl, hc⟩
  · refine ⟨v, W, run_append_owned_none W base 56 ty 51 i 18 Try.underlying56 hi v L.length _ h, ?_, Below.refl _ _⟩
    rw [List.append_nil]
    exact h
  · obtain ⟨v', w', hrun, hown, hgr, _, hat⟩ := run_append_own_at (P := Try.prog) W base 56 ty 51 i (.agg (zL : List Value).toArray) 18 32 Try.underlying56 hi hz hsz hby rfl (by decide) v L.length (L.flatMap ec6) h a L2.length c (L2.flatMap ec6) (flat_len ec6_len _) hc (fun u hu => by
      obtain ⟨e, _, he⟩ := List.mem_flatMap.1 hu
      exact ec6_one e u he) (by unfold maxLen; omega) (by omega) hb
    refine ⟨v', w', hrun, ?_, ⟨hgr.os, hgr.tape, hgr.output, hgr.size, fun j hj => hgr.block j (by omega) (fun e => ?_)⟩⟩
    · rw [List.length_append, List.flatMap_append]
      exact hown
    · have := (own_ltT h e.symm).1
      omega
theorem set_val6 (e : Ent) (v : Int) : (ec6 e).set 17 (.int .i64 v) = ec6 (e.1, v) := by
  rw [ec6_eq, ec6_eq, List.set_append_right _ _ (by rw [cpN_length]; exact Nat.le_refl _), cpN_length]
  rfl
theorem own_put6 {W : World} {base g c : Nat} {l : List Ent} (h : W.ownsRow base 51 18 (.slice (some ⟨g, 0, none⟩) l.length c) l.length (l.flatMap ec6)) {j : Nat} {e : Ent} (hj : l[j]? = some e) (v : Int) :
    (W.setCell ⟨g, j * 18 + 17, none⟩ (.int .i64 v)).ownsRow base 51 18 (.slice (some ⟨g, 0, none⟩) l.length c) (l.set j (e.1, v)).length ((l.set j (e.1, v)).flatMap ec6) := by
  have := (h.stored (j * 18 + 17) (.int .i64 v)).1
  rw [flat_set ec6_len hj (set_val6 e v) (by decide)] at this
  rw [List.length_set]
  exact this
theorem st_fld6 {W : World} {b : Nat} {lim : Int} {v4 v6 : Value} (h : W.heap[b]? = some (.cells [.int .i64 lim, v4, v6].toArray 63)) {v : Value} (hv : ∃ x n m, v = .slice x n m) : (Instr.storeAt 56 (.pointer (some ⟨b, 2, none⟩)) v).run Try.prog W = .ok () (W.setCell ⟨b, 2, none⟩ v) := by
  obtain ⟨x, n, m, rfl⟩ := hv
  have h1 : W.cell? ⟨b, 2, none⟩ = some v6 := blk_cell h rfl
  have h2 := blk_open h 2
  simp [Instr.storeAt, go_sem, h1, h2]
theorem bld_e6 (k : Bs) (v : Int) (W : World) : (Instr.build 51 #[(0, PK6 k), (1, .int .i64 v)]).run Try.prog W = .ok (.agg (ec6 (k, v)).toArray) W := by
  refine run_build W _ _ _ ?_
  kernel_rfl
end Go.Proofs.Ytenahbdopgmpfaa
