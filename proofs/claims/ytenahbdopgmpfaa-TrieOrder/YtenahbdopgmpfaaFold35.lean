/-
  Del of the document's table.
  Under, Over of the document's table.
-/
import Derived.Test.YtenahbdopgmpfaaFold33
namespace Go.Proofs.Ytenahbdopgmpfaa
open Go Go.RowKit Go.Shelf
set_option linter.unusedVariables false
set_option linter.unusedSimpArgs false

theorem outs_take {k : Bs} {l : List Ent} {n : Nat} {e : Ent} (he : l[n]? = some e) : outs k (l.take (n + 1)) = if e.1 = k then outs k (l.take n) else outs k (l.take n) ++ [e] := by
  rw [List.take_add_one, he, Option.toList, outs_app]
  by_cases c : e.1 = k
  · rw [if_pos c]; simp [outs, c]
  · rw [if_neg c]; simp [outs, c]
theorem outs_look {k : Bs} : ∀ {l : List Ent}, (lookN k l).2 = false → outs k l = l
  | [], _ => rfl
  | e :: r, h => by
    rw [lookN] at h
    split at h
    · cases h
    · rename_i c
      have := outs_look h
      unfold outs at this ⊢
      rw [List.filter_cons, if_pos (by simpa using c), this]
set_option maxHeartbeats 8000000 in
set_option maxRecDepth 100000 in
theorem RDel4_key {W : World} {b : Nat} {lim : Int} {l4 l6 : List Ent} {v4 v6 : Value} (h : Doc b lim l4 l6 v4 v6 W) (k : Bs) (hk : k.length ≤ 32) (hkey : ∀ e ∈ l4, e.1.length ≤ 32) (hlen : l4.length ≤ 100000) :
    Calls Try.prog 33 #[.pointer (some ⟨b, 0, none⟩), PK4 k] W fun e w' => ∃ u, e = .returned (.int .i64 (if (lookN k l4).2 then 0 else 120)) ∧ Doc b lim (outs k l4) l6 u v6 w' ∧ FrT b W w' := by
  generalize hQ : (fun (e : Ending) (w' : World) => ∃ u, e = .returned (.int .i64 (if (lookN k l4).2 then 0 else 120)) ∧ Doc b lim (outs k l4) l6 u v6 w' ∧ FrT b W w') = Q
  have HQ : Hid (∀ e w', (∃ u, e = .returned (.int .i64 (if (lookN k l4).2 then 0 else 120)) ∧ Doc b lim (outs k l4) l6 u v6 w' ∧ FrT b W w') → Q e w') := fun e w' hh => by rw [← hQ]; exact hh
  clear hQ
  obtain ⟨W0, hW0⟩ : ∃ W0, W0 = W.alloc (.cells (cp6 (bytN 4 k) k.length).toArray 35) := ⟨_, rfl⟩
  have hB0 : Below W.heap.size W W0 := by rw [hW0]; exact (Below.refl W.heap.size W).alloc (Nat.le_refl _) _
  have hx0 : W0.heap[W.heap.size]? = some (.cells (cp6 (bytN 4 k) k.length).toArray 35) := by rw [hW0]; exact blk_new W _
  have hd0 := h.on hB0
  obtain ⟨ad, c, hv⟩ := own_slcT h.r4
  have HV : Hid (v4 = .slice ad l4.length c) := hv
  have HD0 : Hid (Doc b lim l4 l6 v4 v6 W0) := hd0
  have HX0 : Hid (W0.heap[W.heap.size]? = some (.cells (cp6 (bytN 4 k) k.length).toArray 35)) := hx0
  have HB0 : Hid (Below W.heap.size W W0) := hB0
  have HLT : Hid (b < W.heap.size) := h.lt
  have HGET : Hid (∀ X : World, Doc b lim l4 l6 v4 v6 X → Calls Try.prog 23 #[.pointer (some ⟨b, 0, none⟩), PK4 k] X fun e w' => e = .returned (.tuple #[.int .i64 (lookN k l4).1, .bool (lookN k l4).2, .int .i64 0]) ∧ Below X.heap.size X w') := fun X hX => RGet4_key hX k hk hkey hlen
  have HL0 : Hid ((Instr.loadAt 35 (.pointer (some ⟨W.heap.size, 0, none⟩))).run Try.prog W0 = .ok (PK4 k) W0) := ld_bx4 hx0
  have HKEY : Hid (∀ e ∈ l4, e.1.length ≤ 32) := hkey
  have HK : Hid (k.length ≤ 32) := hk
  have HSZ : Hid (l4.length ≤ 100000) := hlen
  have hW := hW0.symm
  clear hW0 hB0 hx0 hd0 hv h hkey hk
  go_enter Try.func33, Try.ntmps33
  go_wp2_with first
    | ((with_reducible show wpList _ _ _ ({ dst := _, op := Op.load 35 (Operand.tmp 3), type := _, pos := _, after := _, guard := _ } :: _) _ _); refine armLv (.tmp 3) 35 rfl rfl rfl HL0.out ?_)
  refine Calls.mono (HGET.out _ HD0.out) ?_
  rintro e w1 ⟨rfl, hb1⟩
  have HD1 : Hid (Doc b lim l4 l6 v4 v6 w1) := HD0.out.on hb1
  have HX1 : Hid (w1.heap[W.heap.size]? = some (.cells (cp6 (bytN 4 k) k.length).toArray 35)) := blk_on HX0.out hb1
  have HB1 : Hid (Below W.heap.size W w1) := HB0.out.trans (hb1.mono HB0.out.size)
  clear hb1 HL0 HGET HB0 HX0 HD0 hW
  generalize (lookN k l4).1 = lv1 at *
  cases hlk : (lookN k l4).2 with
  | false =>
    have HO : Hid (outs k l4 = l4) := outs_look hlk
    rw [hlk] at HQ
    clear hlk
    go_wp2
    try go_ret2
    refine HQ.out _ _ ⟨v4, rfl, ?_, FrT.of_below HB1.out⟩
    rw [HO.out]
    exact HD1.out
  | true =>
    rw [hlk] at HQ
    clear hlk
    go_wp2
    go_loopw [8, 9] (fun lv i wr => ∃ n : Nat, n ≤ l4.length ∧ i = .int .i64 n ∧ wr.ownsRow w1.heap.size 47 6 lv (outs k (l4.take n)).length ((outs k (l4.take n)).flatMap ec4) ∧ Below w1.heap.size w1 wr) (fun _ i _ => l4.length - (intOf i).toNat)
    case atStart => exact ⟨0, Nat.zero_le _, rfl, World.ownsRow_nil _ _ _ _, Below.refl _ _⟩
    case round =>
      obtain ⟨n, hn, rfl, hrow, hBk⟩ := hrel
      obtain ⟨la, lc, hlv⟩ := own_slcT hrow
      subst hlv
      have hdk := HD1.out.on (hBk.mono (Nat.le_refl _))
      have HDK : Hid (Doc b lim l4 l6 v4 v6 wr) := hdk
      have HXK : Hid (wr.heap[W.heap.size]? = some (.cells (cp6 (bytN 4 k) k.length).toArray 35)) := blk_on HX1.out hBk
      have HROW : Hid _ := hrow
      have c1 : ∀ x : Hi wr, x.W.cell? ⟨b, 1, none⟩ = some (.slice ad l4.length c) := fun x => by rw [← HV.out]; exact blk_cell (hdk.on x.below).box rfl
      have c1w : wr.cell? ⟨b, 1, none⟩ = some (.slice ad l4.length c) := c1 (Hi.refl wr)
      have HBR : Hid (Below w1.heap.size w1 wr) := hBk
      by_cases hlt : n < l4.length
      · obtain ⟨e0, he0⟩ : ∃ e0, l4[n]? = some e0 := ⟨_, List.getElem?_eq_getElem hlt⟩
        obtain ⟨g, c', hv', hg, hbg, hcx⟩ := own_atT ec4_len hdk.r4 he0
        rw [HV.out] at hv'
        obtain ⟨rfl, rfl⟩ : ad = some ⟨g, 0, none⟩ ∧ c = c' := by injection hv' with h1 _ h3; exact ⟨h1, h3⟩
        have hcu : ∀ x : Hi wr, CellsAt x.W g (n * 6) (ec4 e0) := fun x i u hi => (x.below.cell (p := ⟨g, _, none⟩) hg).trans (hcx i u hi)
        have HCU : Hid (∀ x : Hi wr, CellsAt x.W g (n * 6) (ec4 e0)) := hcu
        have HL1 : Hid (∀ x : Hi wr, (Instr.loadAt 35 (.pointer (some ⟨g, n * 6, none⟩))).run Try.prog x.W = .ok (PK4 e0.1) x.W) := fun x => ld_pk4 (hcu x)
        have HL2 : Hid (∀ x : Hi wr, (Instr.loadAt 35 (.pointer (some ⟨W.heap.size, 0, none⟩))).run Try.prog x.W = .ok (PK4 k) x.W) := fun x => ld_bx4 (Hi.blk HXK.out x)
        have HKE : Hid (e0.1.length ≤ 32) := HKEY.out e0 (List.mem_of_getElem? he0)
        have q1 : decide ((n : Int) < l4.length) = true := by simpa using hlt
        have w9 : IntKind.i64.wrap ((n : Int) + 1) = (n : Int) + 1 := wrap_i64 _ ⟨by omega, by omega⟩
        have HE0 : Hid (l4[n]? = some e0) := he0
        have HN : Hid (n < l4.length) := hlt
        have HNQ : Hid (∀ X : World, (binOp .neq 35 (PK4 e0.1) (PK4 k)).run Try.prog X = .ok (.bool (!decide (e0.1 = k))) X) := fun X => neqK4 HKE.out X
        clear hcx hcu hdk hv' hBk he0 hrow
        cases hh : decide (e0.1 = k) with
        | true =>
          rw [hh] at HNQ
          have hnx : outs k (l4.take (n + 1)) = outs k (l4.take n) := by rw [outs_take HE0.out, if_pos (of_decide_eq_true hh)]
          have HNX : Hid _ := hnx
          clear hnx hh
          go_wp2_with fail
          refine wp_region_hi (by kernel_rfl) (by kernel_rfl) ?_
          repeat (first | go_big_quiet_skip | (go_big_quiet_want; refine hi_load (.tmp 37) 35 rfl rfl HL1.out ?_; simp only [Act.put, List.setIfInBounds_toArray, List.set_cons_zero, List.set_cons_succ]; go_big_quiet_on) | (go_big_quiet_want; refine hi_load (.tmp 3) 35 rfl rfl HL2.out ?_; simp only [Act.put, List.setIfInBounds_toArray, List.set_cons_zero, List.set_cons_succ]; go_big_quiet_on) | (go_big_quiet_want; refine hi_binT .neq 35 35 (.tmp 38) (.tmp 39) rfl rfl rfl (fun W => (gdP4T _ _ _ _ _ W)) HNQ.out ?_; simp only [Act.put, List.setIfInBounds_toArray, List.set_cons_zero, List.set_cons_succ]; go_big_quiet_on) | (go_big_quiet_want; go_big_quiet_op; first | go_big_quiet_on | go_big_quiet_call (fail)))
          refine wpQuiet_nil ?_
          intro _ hw
          obtain ⟨yy, rfl⟩ := hw
          go_wp2
          go_roundw
          case rel => exact ⟨n + 1, HN.out, rfl, by rw [HNX.out]; exact own_sameT (w' := yy.W) HROW.out (fun q hq => yy.below.block q (own_ltT HROW.out hq).2), HBR.out.trans (yy.below.mono HBR.out.size)⟩
          case measure => show l4.length - (n + 1) < l4.length - n; have := HN.out; omega
        | false =>
          rw [hh] at HNQ
          have hnx : outs k (l4.take (n + 1)) = outs k (l4.take n) ++ [e0] := by rw [outs_take HE0.out, if_neg (of_decide_eq_false hh)]
          have HNX : Hid _ := hnx
          clear hnx hh
          go_wp2_with fail
          refine wp_region_hi (by kernel_rfl) (by kernel_rfl) ?_
          repeat (first | go_big_quiet_skip | (go_big_quiet_want; refine hi_load (.tmp 37) 35 rfl rfl HL1.out ?_; simp only [Act.put, List.setIfInBounds_toArray, List.set_cons_zero, List.set_cons_succ]; go_big_quiet_on) | (go_big_quiet_want; refine hi_load (.tmp 3) 35 rfl rfl HL2.out ?_; simp only [Act.put, List.setIfInBounds_toArray, List.set_cons_zero, List.set_cons_succ]; go_big_quiet_on) | (go_big_quiet_want; refine hi_binT .neq 35 35 (.tmp 38) (.tmp 39) rfl rfl rfl (fun W => (gdP4T _ _ _ _ _ W)) HNQ.out ?_; simp only [Act.put, List.setIfInBounds_toArray, List.set_cons_zero, List.set_cons_succ]; go_big_quiet_on) | (go_big_quiet_want; go_big_quiet_op; first | go_big_quiet_on | go_big_quiet_call (fail)))
          refine wpQuiet_nil ?_
          intro _ hw
          obtain ⟨yy, rfl⟩ := hw
          have hru := own_sameT (w' := yy.W) HROW.out (fun q hq => yy.below.block q (own_ltT HROW.out hq).2)
          have hbu := HBR.out.trans (yy.below.mono HBR.out.size)
          obtain ⟨x2, X2, hap2, hown2, hb2, _⟩ := pushE4 hru hbu.size (by have := HN.out; have := HSZ.out; (have : (outs k (l4.take n)).length ≤ (l4.take n).length := List.length_filter_le _ _); (have : (l4.take n).length ≤ n := by rw [List.length_take]; exact Nat.min_le_left _ _); omega) e0 54
          have HE1 : Hid _ := ld_en4 (HCU.out yy)
          have HBS : Hid _ := bsE4 yy.W e0
          have HAP2 : Hid _ := hap2
          have HR2 : Hid _ := hown2
          have HB2 : Hid (Below w1.heap.size w1 X2) := hbu.trans hb2
          have c1y := c1 yy
          clear hru hbu hap2 hown2 hb2 HL1 HL2
          go_wp2_with first
            | ((with_reducible show wpList _ _ _ ({ dst := _, op := Op.load 47 (Operand.tmp 47), type := _, pos := _, after := _, guard := _ } :: _) _ _); refine armLv (.tmp 47) 47 rfl rfl rfl HE1.out ?_)
            | ((with_reducible show wpList _ _ _ ({ dst := _, op := Op.buildSlice 54 1 #[(0, (Operand.tmp 48))], type := _, pos := _, after := _, guard := _ } :: _) _ _); refine arm_bsT (.tmp 48) 54 rfl rfl rfl HBS.out ?_)
            | ((with_reducible show wpList _ _ _ ({ dst := _, op := Op.call { callee := Callee.builtin Builtin.append, args := #[(Operand.tmp 41), (Operand.tmp 49)], argTypes := #[54, 54] }, type := _, pos := _, after := _, guard := _ } :: _) _ _); refine arm_apT (.tmp 41) (.tmp 49) 54 rfl rfl rfl rfl HAP2.out ?_)
          go_roundw
          case rel => exact ⟨n + 1, HN.out, rfl, by rw [HNX.out]; exact HR2.out, HB2.out⟩
          case measure => show l4.length - (n + 1) < l4.length - n; have := HN.out; omega
      · obtain rfl : n = l4.length := by omega
        rw [List.take_length] at hrow HROW
        rw [List.take_length]
        have hbx := hdk.box
        have hst := st_fld4 hbx (⟨_, _, _, rfl⟩ : ∃ x n m, Value.slice la (outs k l4).length lc = .slice x n m)
        have on4 : Only b wr (wr.setCell ⟨b, 1, none⟩ (.slice la (outs k l4).length lc)) := (Only.refl b wr).set 1 _
        have hbox' := blk_set hbx 1 (.slice la (outs k l4).length lc)
        have hbu : b < w1.heap.size := Nat.lt_of_lt_of_le HLT.out HB1.out.size
        have HDF : Hid (Doc b lim (outs k l4) l6 (.slice la (outs k l4).length lc) v6 (wr.setCell ⟨b, 1, none⟩ (.slice la (outs k l4).length lc))) := ⟨hbox', own_baseT (own_sameT hrow (fun q hq => on4.other q (by have := (own_ltT hrow hq).1; omega))) hbu, own_sameT hdk.r6 (fun q hq => on4.other q (by have := (own_ltT hdk.r6 hq).1; omega)), fun g hg => (fun e => by have := (own_ltT hrow hg).1; have := (own_ltT HD1.out.r6 e).2; omega)⟩
        have hbw := HB1.out.trans (hBk.mono HB1.out.size)
        have hbv := (hbw.mono (Nat.le_of_lt HLT.out)).trans (on4.below (Nat.le_refl _))
        have HBF : Hid (FrT b W (wr.setCell ⟨b, 1, none⟩ (.slice la (outs k l4).length lc))) := ⟨by rw [on4.size]; exact hbw.size, fun B hB _ => hbv.mono hB, fun j hj hn => (on4.other j hn).trans (hbw.block j hj)⟩
        have HST : Hid _ := hst
        clear hdk hBk hrow hbx hst on4 hbox' hbu c1 hlt hbw hbv
        generalize wr.setCell ⟨b, 1, none⟩ (.slice la (outs k l4).length lc) = V at *
        go_wp2_with first
          | ((with_reducible show wpList _ _ _ ({ dst := _, op := Op.store 54 (Operand.tmp 54) (Operand.tmp 52), type := _, pos := _, after := _, guard := _ } :: _) _ _); refine armS (.tmp 54) (.tmp 52) 54 rfl rfl rfl rfl HST.out ?_)
        try go_ret2
        refine HQ.out _ _ ⟨_, (by simp), HDF.out, HBF.out⟩
set_option maxHeartbeats 8000000 in
set_option maxRecDepth 100000 in
theorem RDel6_key {W : World} {b : Nat} {lim : Int} {l4 l6 : List Ent} {v4 v6 : Value} (h : Doc b lim l4 l6 v4 v6 W) (k : Bs) (hk : k.length ≤ 128) (hkey : ∀ e ∈ l6, e.1.length ≤ 128) (hlen : l6.length ≤ 100000) :
    Calls Try.prog 34 #[.pointer (some ⟨b, 0, none⟩), PK6 k] W fun e w' => ∃ u, e = .returned (.int .i64 (if (lookN k l6).2 then 0 else 120)) ∧ Doc b lim l4 (outs k l6) v4 u w' ∧ FrT b W w' := by
  generalize hQ : (fun (e : Ending) (w' : World) => ∃ u, e = .returned (.int .i64 (if (lookN k l6).2 then 0 else 120)) ∧ Doc b lim l4 (outs k l6) v4 u w' ∧ FrT b W w') = Q
  have HQ : Hid (∀ e w', (∃ u, e = .returned (.int .i64 (if (lookN k l6).2 then 0 else 120)) ∧ Doc b lim l4 (outs k l6) v4 u w' ∧ FrT b W w') → Q e w') := fun e w' hh => by rw [← hQ]; exact hh
  clear hQ
  obtain ⟨W0, hW0⟩ : ∃ W0, W0 = W.alloc (.cells (cp6 (bytN 16 k) k.length).toArray 39) := ⟨_, rfl⟩
  have hB0 : Below W.heap.size W W0 := by rw [hW0]; exact (Below.refl W.heap.size W).alloc (Nat.le_refl _) _
  have hx0 : W0.heap[W.heap.size]? = some (.cells (cp6 (bytN 16 k) k.length).toArray 39) := by rw [hW0]; exact blk_new W _
  have hd0 := h.on hB0
  obtain ⟨ad, c, hv⟩ := own_slcT h.r6
  have HV : Hid (v6 = .slice ad l6.length c) := hv
  have HD0 : Hid (Doc b lim l4 l6 v4 v6 W0) := hd0
  have HX0 : Hid (W0.heap[W.heap.size]? = some (.cells (cp6 (bytN 16 k) k.length).toArray 39)) := hx0
  have HB0 : Hid (Below W.heap.size W W0) := hB0
  have HLT : Hid (b < W.heap.size) := h.lt
  have HGET : Hid (∀ X : World, Doc b lim l4 l6 v4 v6 X → Calls Try.prog 25 #[.pointer (some ⟨b, 0, none⟩), PK6 k] X fun e w' => e = .returned (.tuple #[.int .i64 (lookN k l6).1, .bool (lookN k l6).2, .int .i64 0]) ∧ Below X.heap.size X w') := fun X hX => RGet6_key hX k hk hkey hlen
  have HL0 : Hid ((Instr.loadAt 39 (.pointer (some ⟨W.heap.size, 0, none⟩))).run Try.prog W0 = .ok (PK6 k) W0) := ld_bx6 hx0
  have HKEY : Hid (∀ e ∈ l6, e.1.length ≤ 128) := hkey
  have HK : Hid (k.length ≤ 128) := hk
  have HSZ : Hid (l6.length ≤ 100000) := hlen
  have hW := hW0.symm
  clear hW0 hB0 hx0 hd0 hv h hkey hk
  go_enter Try.func34, Try.ntmps34
  go_wp2_with first
    | ((with_reducible show wpList _ _ _ ({ dst := _, op := Op.load 39 (Operand.tmp 3), type := _, pos := _, after := _, guard := _ } :: _) _ _); refine armLv (.tmp 3) 39 rfl rfl rfl HL0.out ?_)
  refine Calls.mono (HGET.out _ HD0.out) ?_
  rintro e w1 ⟨rfl, hb1⟩
  have HD1 : Hid (Doc b lim l4 l6 v4 v6 w1) := HD0.out.on hb1
  have HX1 : Hid (w1.heap[W.heap.size]? = some (.cells (cp6 (bytN 16 k) k.length).toArray 39)) := blk_on HX0.out hb1
  have HB1 : Hid (Below W.heap.size W w1) := HB0.out.trans (hb1.mono HB0.out.size)
  clear hb1 HL0 HGET HB0 HX0 HD0 hW
  generalize (lookN k l6).1 = lv1 at *
  cases hlk : (lookN k l6).2 with
  | false =>
    have HO : Hid (outs k l6 = l6) := outs_look hlk
    rw [hlk] at HQ
    clear hlk
    go_wp2
    try go_ret2
    refine HQ.out _ _ ⟨v6, rfl, ?_, FrT.of_below HB1.out⟩
    rw [HO.out]
    exact HD1.out
  | true =>
    rw [hlk] at HQ
    clear hlk
    go_wp2
    go_loopw [8, 9] (fun lv i wr => ∃ n : Nat, n ≤ l6.length ∧ i = .int .i64 n ∧ wr.ownsRow w1.heap.size 51 18 lv (outs k (l6.take n)).length ((outs k (l6.take n)).flatMap ec6) ∧ Below w1.heap.size w1 wr) (fun _ i _ => l6.length - (intOf i).toNat)
    case atStart => exact ⟨0, Nat.zero_le _, rfl, World.ownsRow_nil _ _ _ _, Below.refl _ _⟩
    case round =>
      obtain ⟨n, hn, rfl, hrow, hBk⟩ := hrel
      obtain ⟨la, lc, hlv⟩ := own_slcT hrow
      subst hlv
      have hdk := HD1.out.on (hBk.mono (Nat.le_refl _))
      have HDK : Hid (Doc b lim l4 l6 v4 v6 wr) := hdk
      have HXK : Hid (wr.heap[W.heap.size]? = some (.cells (cp6 (bytN 16 k) k.length).toArray 39)) := blk_on HX1.out hBk
      have HROW : Hid _ := hrow
      have c1 : ∀ x : Hi wr, x.W.cell? ⟨b, 2, none⟩ = some (.slice ad l6.length c) := fun x => by rw [← HV.out]; exact blk_cell (hdk.on x.below).box rfl
      have c1w : wr.cell? ⟨b, 2, none⟩ = some (.slice ad l6.length c) := c1 (Hi.refl wr)
      have HBR : Hid (Below w1.heap.size w1 wr) := hBk
      by_cases hlt : n < l6.length
      · obtain ⟨e0, he0⟩ : ∃ e0, l6[n]? = some e0 := ⟨_, List.getElem?_eq_getElem hlt⟩
        obtain ⟨g, c', hv', hg, hbg, hcx⟩ := own_atT ec6_len hdk.r6 he0
        rw [HV.out] at hv'
        obtain ⟨rfl, rfl⟩ : ad = some ⟨g, 0, none⟩ ∧ c = c' := by injection hv' with h1 _ h3; exact ⟨h1, h3⟩
        have hcu : ∀ x : Hi wr, CellsAt x.W g (n * 18) (ec6 e0) := fun x i u hi => (x.below.cell (p := ⟨g, _, none⟩) hg).trans (hcx i u hi)
        have HCU : Hid (∀ x : Hi wr, CellsAt x.W g (n * 18) (ec6 e0)) := hcu
        have HL1 : Hid (∀ x : Hi wr, (Instr.loadAt 39 (.pointer (some ⟨g, n * 18, none⟩))).run Try.prog x.W = .ok (PK6 e0.1) x.W) := fun x => ld_pk6 (hcu x)
        have HL2 : Hid (∀ x : Hi wr, (Instr.loadAt 39 (.pointer (some ⟨W.heap.size, 0, none⟩))).run Try.prog x.W = .ok (PK6 k) x.W) := fun x => ld_bx6 (Hi.blk HXK.out x)
        have HKE : Hid (e0.1.length ≤ 128) := HKEY.out e0 (List.mem_of_getElem? he0)
        have q1 : decide ((n : Int) < l6.length) = true := by simpa using hlt
        have w9 : IntKind.i64.wrap ((n : Int) + 1) = (n : Int) + 1 := wrap_i64 _ ⟨by omega, by omega⟩
        have HE0 : Hid (l6[n]? = some e0) := he0
        have HN : Hid (n < l6.length) := hlt
        have HNQ : Hid (∀ X : World, (binOp .neq 39 (PK6 e0.1) (PK6 k)).run Try.prog X = .ok (.bool (!decide (e0.1 = k))) X) := fun X => neqK6 HKE.out X
        clear hcx hcu hdk hv' hBk he0 hrow
        cases hh : decide (e0.1 = k) with
        | true =>
          rw [hh] at HNQ
          have hnx : outs k (l6.take (n + 1)) = outs k (l6.take n) := by rw [outs_take HE0.out, if_pos (of_decide_eq_true hh)]
          have HNX : Hid _ := hnx
          clear hnx hh
          go_wp2_with fail
          refine wp_region_hi (by kernel_rfl) (by kernel_rfl) ?_
          repeat (first | go_big_quiet_skip | (go_big_quiet_want; refine hi_load (.tmp 37) 39 rfl rfl HL1.out ?_; simp only [Act.put, List.setIfInBounds_toArray, List.set_cons_zero, List.set_cons_succ]; go_big_quiet_on) | (go_big_quiet_want; refine hi_load (.tmp 3) 39 rfl rfl HL2.out ?_; simp only [Act.put, List.setIfInBounds_toArray, List.set_cons_zero, List.set_cons_succ]; go_big_quiet_on) | (go_big_quiet_want; refine hi_binT .neq 39 39 (.tmp 38) (.tmp 39) rfl rfl rfl (fun W => (gdP6 _ _ _ _ _ W)) HNQ.out ?_; simp only [Act.put, List.setIfInBounds_toArray, List.set_cons_zero, List.set_cons_succ]; go_big_quiet_on) | (go_big_quiet_want; go_big_quiet_op; first | go_big_quiet_on | go_big_quiet_call (fail)))
          refine wpQuiet_nil ?_
          intro _ hw
          obtain ⟨yy, rfl⟩ := hw
          go_wp2
          go_roundw
          case rel => exact ⟨n + 1, HN.out, rfl, by rw [HNX.out]; exact own_sameT (w' := yy.W) HROW.out (fun q hq => yy.below.block q (own_ltT HROW.out hq).2), HBR.out.trans (yy.below.mono HBR.out.size)⟩
          case measure => show l6.length - (n + 1) < l6.length - n; have := HN.out; omega
        | false =>
          rw [hh] at HNQ
          have hnx : outs k (l6.take (n + 1)) = outs k (l6.take n) ++ [e0] := by rw [outs_take HE0.out, if_neg (of_decide_eq_false hh)]
          have HNX : Hid _ := hnx
          clear hnx hh
          go_wp2_with fail
          refine wp_region_hi (by kernel_rfl) (by kernel_rfl) ?_
          repeat (first | go_big_quiet_skip | (go_big_quiet_want; refine hi_load (.tmp 37) 39 rfl rfl HL1.out ?_; simp only [Act.put, List.setIfInBounds_toArray, List.set_cons_zero, List.set_cons_succ]; go_big_quiet_on) | (go_big_quiet_want; refine hi_load (.tmp 3) 39 rfl rfl HL2.out ?_; simp only [Act.put, List.setIfInBounds_toArray, List.set_cons_zero, List.set_cons_succ]; go_big_quiet_on) | (go_big_quiet_want; refine hi_binT .neq 39 39 (.tmp 38) (.tmp 39) rfl rfl rfl (fun W => (gdP6 _ _ _ _ _ W)) HNQ.out ?_; simp only [Act.put, List.setIfInBounds_toArray, List.set_cons_zero, List.set_cons_succ]; go_big_quiet_on) | (go_big_quiet_want; go_big_quiet_op; first | go_big_quiet_on | go_big_quiet_call (fail)))
          refine wpQuiet_nil ?_
          intro _ hw
          obtain ⟨yy, rfl⟩ := hw
          have hru := own_sameT (w' := yy.W) HROW.out (fun q hq => yy.below.block q (own_ltT HROW.out hq).2)
          have hbu := HBR.out.trans (yy.below.mono HBR.out.size)
          obtain ⟨x2, X2, hap2, hown2, hb2, _⟩ := pushE6 hru hbu.size (by have := HN.out; have := HSZ.out; (have : (outs k (l6.take n)).length ≤ (l6.take n).length := List.length_filter_le _ _); (have : (l6.take n).length ≤ n := by rw [List.length_take]; exact Nat.min_le_left _ _); omega) e0 56
          have HE1 : Hid _ := ld_en6 (HCU.out yy)
          have HBS : Hid _ := bsE6 yy.W e0
          have HAP2 : Hid _ := hap2
          have HR2 : Hid _ := hown2
          have HB2 : Hid (Below w1.heap.size w1 X2) := hbu.trans hb2
          have c1y := c1 yy
          clear hru hbu hap2 hown2 hb2 HL1 HL2
          go_wp2_with first
            | ((with_reducible show wpList _ _ _ ({ dst := _, op := Op.load 51 (Operand.tmp 47), type := _, pos := _, after := _, guard := _ } :: _) _ _); refine armLv (.tmp 47) 51 rfl rfl rfl HE1.out ?_)
            | ((with_reducible show wpList _ _ _ ({ dst := _, op := Op.buildSlice 56 1 #[(0, (Operand.tmp 48))], type := _, pos := _, after := _, guard := _ } :: _) _ _); refine arm_bsT (.tmp 48) 56 rfl rfl rfl HBS.out ?_)
            | ((with_reducible show wpList _ _ _ ({ dst := _, op := Op.call { callee := Callee.builtin Builtin.append, args := #[(Operand.tmp 41), (Operand.tmp 49)], argTypes := #[56, 56] }, type := _, pos := _, after := _, guard := _ } :: _) _ _); refine arm_apT (.tmp 41) (.tmp 49) 56 rfl rfl rfl rfl HAP2.out ?_)
          go_roundw
          case rel => exact ⟨n + 1, HN.out, rfl, by rw [HNX.out]; exact HR2.out, HB2.out⟩
          case measure => show l6.length - (n + 1) < l6.length - n; have := HN.out; omega
      · obtain rfl : n = l6.length := by omega
        rw [List.take_length] at hrow HROW
        rw [List.take_length]
        have hbx := hdk.box
        have hst := st_fld6 hbx (⟨_, _, _, rfl⟩ : ∃ x n m, Value.slice la (outs k l6).length lc = .slice x n m)
        have on4 : Only b wr (wr.setCell ⟨b, 2, none⟩ (.slice la (outs k l6).length lc)) := (Only.refl b wr).set 2 _
        have hbox' := blk_set hbx 2 (.slice la (outs k l6).length lc)
        have hbu : b < w1.heap.size := Nat.lt_of_lt_of_le HLT.out HB1.out.size
        have HDF : Hid (Doc b lim l4 (outs k l6) v4 (.slice la (outs k l6).length lc) (wr.setCell ⟨b, 2, none⟩ (.slice la (outs k l6).length lc))) := ⟨hbox', own_sameT hdk.r4 (fun q hq => on4.other q (by have := (own_ltT hdk.r4 hq).1; omega)), own_baseT (own_sameT hrow (fun q hq => on4.other q (by have := (own_ltT hrow hq).1; omega))) hbu, fun g hg => (fun e => by have := (own_ltT hrow e).1; have := (own_ltT HD1.out.r4 hg).2; omega)⟩
        have hbw := HB1.out.trans (hBk.mono HB1.out.size)
        have hbv := (hbw.mono (Nat.le_of_lt HLT.out)).trans (on4.below (Nat.le_refl _))
        have HBF : Hid (FrT b W (wr.setCell ⟨b, 2, none⟩ (.slice la (outs k l6).length lc))) := ⟨by rw [on4.size]; exact hbw.size, fun B hB _ => hbv.mono hB, fun j hj hn => (on4.other j hn).trans (hbw.block j hj)⟩
        have HST : Hid _ := hst
        clear hdk hBk hrow hbx hst on4 hbox' hbu c1 hlt hbw hbv
        generalize wr.setCell ⟨b, 2, none⟩ (.slice la (outs k l6).length lc) = V at *
        go_wp2_with first
          | ((with_reducible show wpList _ _ _ ({ dst := _, op := Op.store 56 (Operand.tmp 54) (Operand.tmp 52), type := _, pos := _, after := _, guard := _ } :: _) _ _); refine armS (.tmp 54) (.tmp 52) 56 rfl rfl rfl rfl HST.out ?_)
        try go_ret2
        refine HQ.out _ _ ⟨_, (by simp), HDF.out, HBF.out⟩
end Go.Proofs.Ytenahbdopgmpfaa

namespace Go.Proofs.Ytenahbdopgmpfaa
open Go Go.RowKit Go.Shelf
set_option linter.unusedVariables false
set_option linter.unusedSimpArgs false

theorem filt_take {p : Ent → Bool} {l : List Ent} {n : Nat} {e : Ent} (he : l[n]? = some e) : (l.take (n + 1)).filter p = if p e then (l.take n).filter p ++ [e] else (l.take n).filter p := by
  rw [List.take_add_one, he, Option.toList, List.filter_append]
  cases c : p e <;> simp [c]
set_option maxHeartbeats 8000000 in
set_option maxRecDepth 100000 in
theorem RUnder4_key {W : World} {b : Nat} {lim : Int} {l4 l6 : List Ent} {v4 v6 : Value} (h : Doc b lim l4 l6 v4 v6 W) (k : Bs) (hk : k.length ≤ 32) (hkey : ∀ e ∈ l4, e.1.length ≤ 32) (hlen : l4.length ≤ 100000) :
    Calls Try.prog 37 #[.pointer (some ⟨b, 0, none⟩), PK4 k] W fun e w' => ∃ vs, e = .returned (.tuple #[vs, .int .i64 0]) ∧ w'.ownsRow W.heap.size 47 6 vs (l4.filter (fun e => pre k e.1)).length ((l4.filter (fun e => pre k e.1)).flatMap ec4) ∧ Below W.heap.size W w' := by
  generalize hQ : (fun (e : Ending) (w' : World) => ∃ vs, e = .returned (.tuple #[vs, .int .i64 0]) ∧ w'.ownsRow W.heap.size 47 6 vs (l4.filter (fun e => pre k e.1)).length ((l4.filter (fun e => pre k e.1)).flatMap ec4) ∧ Below W.heap.size W w') = Q
  have HQ : Hid (∀ e w', (∃ vs, e = .returned (.tuple #[vs, .int .i64 0]) ∧ w'.ownsRow W.heap.size 47 6 vs (l4.filter (fun e => pre k e.1)).length ((l4.filter (fun e => pre k e.1)).flatMap ec4) ∧ Below W.heap.size W w') → Q e w') := fun e w' hh => by rw [← hQ]; exact hh
  clear hQ
  obtain ⟨W0, hW0⟩ : ∃ W0, W0 = W.alloc (.cells (cp6 (bytN 4 k) k.length).toArray 35) := ⟨_, rfl⟩
  have hB0 : Below W.heap.size W W0 := by rw [hW0]; exact (Below.refl W.heap.size W).alloc (Nat.le_refl _) _
  have hx0 : W0.heap[W.heap.size]? = some (.cells (cp6 (bytN 4 k) k.length).toArray 35) := by rw [hW0]; exact blk_new W _
  have hd0 := h.on hB0
  obtain ⟨ad, c, hv⟩ := own_slcT h.r4
  have HV : Hid (v4 = .slice ad l4.length c) := hv
  have HD0 : Hid (Doc b lim l4 l6 v4 v6 W0) := hd0
  have HX0 : Hid (W0.heap[W.heap.size]? = some (.cells (cp6 (bytN 4 k) k.length).toArray 35)) := hx0
  have HB0 : Hid (Below W.heap.size W W0) := hB0
  have HLT : Hid (b < W.heap.size) := h.lt
  have HCK : Hid (∀ X : World, Calls Try.prog 48 #[PK4 k] X fun e w' => e = .returned (.int .i64 0) ∧ Below X.heap.size X w') := fun X => RCheck4_key hk X
  have HL0 : Hid ((Instr.loadAt 35 (.pointer (some ⟨W.heap.size, 0, none⟩))).run Try.prog W0 = .ok (PK4 k) W0) := ld_bx4 hx0
  have HKEY : Hid (∀ e ∈ l4, e.1.length ≤ 32) := hkey
  have HK : Hid (k.length ≤ 32) := hk
  have HSZ : Hid (l4.length ≤ 100000) := hlen
  have hW := hW0.symm
  clear hW0 hB0 hx0 hd0 hv h hkey hk
  go_enter Try.func37, Try.ntmps37
  go_wp2_with first
    | ((with_reducible show wpList _ _ _ ({ dst := _, op := Op.load 35 (Operand.tmp 3), type := _, pos := _, after := _, guard := _ } :: _) _ _); refine armLv (.tmp 3) 35 rfl rfl rfl HL0.out ?_)
  refine Calls.mono (HCK.out _) ?_
  rintro e w1 ⟨rfl, hb1⟩
  have HD1 : Hid (Doc b lim l4 l6 v4 v6 w1) := HD0.out.on hb1
  have HX1 : Hid (w1.heap[W.heap.size]? = some (.cells (cp6 (bytN 4 k) k.length).toArray 35)) := blk_on HX0.out hb1
  have HB1 : Hid (Below W.heap.size W w1) := HB0.out.trans (hb1.mono HB0.out.size)
  clear hb1 HL0 HCK HB0 HX0 HD0 hW
  go_wp2
  go_loopw [6, 7] (fun lv i wr => ∃ n : Nat, n ≤ l4.length ∧ i = .int .i64 n ∧ wr.ownsRow w1.heap.size 47 6 lv ((l4.take n).filter (fun e => pre k e.1)).length (((l4.take n).filter (fun e => pre k e.1)).flatMap ec4) ∧ Below w1.heap.size w1 wr) (fun _ i _ => l4.length - (intOf i).toNat)
  case atStart => exact ⟨0, Nat.zero_le _, rfl, World.ownsRow_nil _ _ _ _, Below.refl _ _⟩
  case round =>
    obtain ⟨n, hn, rfl, hrow, hBk⟩ := hrel
    obtain ⟨la, lc, hlv⟩ := own_slcT hrow
    subst hlv
    have hdk := HD1.out.on (hBk.mono (Nat.le_refl _))
    have HDK : Hid (Doc b lim l4 l6 v4 v6 wr) := hdk
    have HXK : Hid (wr.heap[W.heap.size]? = some (.cells (cp6 (bytN 4 k) k.length).toArray 35)) := blk_on HX1.out hBk
    have HROW : Hid _ := hrow
    have c1 : ∀ x : Hi wr, x.W.cell? ⟨b, 1, none⟩ = some (.slice ad l4.length c) := fun x => by rw [← HV.out]; exact blk_cell (hdk.on x.below).box rfl
    have c1w : wr.cell? ⟨b, 1, none⟩ = some (.slice ad l4.length c) := c1 (Hi.refl wr)
    have HBR : Hid (Below w1.heap.size w1 wr) := hBk
    by_cases hlt : n < l4.length
    · obtain ⟨e0, he0⟩ : ∃ e0, l4[n]? = some e0 := ⟨_, List.getElem?_eq_getElem hlt⟩
      obtain ⟨g, c', hv', hg, hbg, hcx⟩ := own_atT ec4_len hdk.r4 he0
      rw [HV.out] at hv'
      obtain ⟨rfl, rfl⟩ : ad = some ⟨g, 0, none⟩ ∧ c = c' := by injection hv' with h1 _ h3; exact ⟨h1, h3⟩
      have hcu : ∀ x : Hi wr, CellsAt x.W g (n * 6) (ec4 e0) := fun x i u hi => (x.below.cell (p := ⟨g, _, none⟩) hg).trans (hcx i u hi)
      have HCU : Hid (∀ x : Hi wr, CellsAt x.W g (n * 6) (ec4 e0)) := hcu
      have HL1 : Hid (∀ x : Hi wr, (Instr.loadAt 35 (.pointer (some ⟨g, n * 6, none⟩))).run Try.prog x.W = .ok (PK4 e0.1) x.W) := fun x => ld_pk4 (hcu x)
      have HL2 : Hid (∀ x : Hi wr, (Instr.loadAt 35 (.pointer (some ⟨W.heap.size, 0, none⟩))).run Try.prog x.W = .ok (PK4 k) x.W) := fun x => ld_bx4 (Hi.blk HXK.out x)
      have HKE : Hid (e0.1.length ≤ 32) := HKEY.out e0 (List.mem_of_getElem? he0)
      have q1 : decide ((n : Int) < l4.length) = true := by simpa using hlt
      have w9 : IntKind.i64.wrap ((n : Int) + 1) = (n : Int) + 1 := wrap_i64 _ ⟨by omega, by omega⟩
      have HE0 : Hid (l4[n]? = some e0) := he0
      have HN : Hid (n < l4.length) := hlt
      have HCV : Hid (∀ x : Hi wr, Calls Try.prog 61 #[PK4 k, PK4 e0.1] x.W fun e w' => e = .returned (.tuple #[.bool (pre k e0.1), .int .i64 0]) ∧ Below x.W.heap.size x.W w') := fun x => RCover4_key HK.out HKE.out x.W
      clear hcx hcu hdk hv' hBk he0 hrow
      cases hh : pre k e0.1 with
      | false =>
        rw [hh] at HCV
        have hnx : (l4.take (n + 1)).filter (fun e => pre k e.1) = (l4.take n).filter (fun e => pre k e.1) := by rw [filt_take HE0.out, hh]; rfl
        have HNX : Hid _ := hnx
        clear hnx hh
        go_wp2_with fail
        refine wp_region_hi (by kernel_rfl) (by kernel_rfl) ?_
        repeat (first | go_big_quiet_skip | (go_big_quiet_want; refine hi_load (.tmp 30) 35 rfl rfl HL1.out ?_; simp only [Act.put, List.setIfInBounds_toArray, List.set_cons_zero, List.set_cons_succ]; go_big_quiet_on) | (go_big_quiet_want; refine hi_load (.tmp 3) 35 rfl rfl HL2.out ?_; simp only [Act.put, List.setIfInBounds_toArray, List.set_cons_zero, List.set_cons_succ]; go_big_quiet_on) | (go_big_quiet_want; go_big_quiet_op; first | go_big_quiet_on | go_big_quiet_call (first | (go_at_call 61; with_reducible exact Hi.calls (HCV.out _)))))
        refine wpQuiet_nil ?_
        intro _ hw
        obtain ⟨yy, rfl⟩ := hw
        go_wp2
        go_roundw
        case rel => exact ⟨n + 1, HN.out, rfl, by rw [HNX.out]; exact own_sameT (w' := yy.W) HROW.out (fun q hq => yy.below.block q (own_ltT HROW.out hq).2), HBR.out.trans (yy.below.mono HBR.out.size)⟩
        case measure => show l4.length - (n + 1) < l4.length - n; have := HN.out; omega
      | true =>
        rw [hh] at HCV
        have hnx : (l4.take (n + 1)).filter (fun e => pre k e.1) = (l4.take n).filter (fun e => pre k e.1) ++ [e0] := by rw [filt_take HE0.out, hh]; rfl
        have HNX : Hid _ := hnx
        clear hnx hh
        go_wp2_with fail
        refine wp_region_hi (by kernel_rfl) (by kernel_rfl) ?_
        repeat (first | go_big_quiet_skip | (go_big_quiet_want; refine hi_load (.tmp 30) 35 rfl rfl HL1.out ?_; simp only [Act.put, List.setIfInBounds_toArray, List.set_cons_zero, List.set_cons_succ]; go_big_quiet_on) | (go_big_quiet_want; refine hi_load (.tmp 3) 35 rfl rfl HL2.out ?_; simp only [Act.put, List.setIfInBounds_toArray, List.set_cons_zero, List.set_cons_succ]; go_big_quiet_on) | (go_big_quiet_want; go_big_quiet_op; first | go_big_quiet_on | go_big_quiet_call (first | (go_at_call 61; with_reducible exact Hi.calls (HCV.out _)))))
        refine wpQuiet_nil ?_
        intro _ hw
        obtain ⟨yy, rfl⟩ := hw
        have hru := own_sameT (w' := yy.W) HROW.out (fun q hq => yy.below.block q (own_ltT HROW.out hq).2)
        have hbu := HBR.out.trans (yy.below.mono HBR.out.size)
        obtain ⟨x2, X2, hap2, hown2, hb2, _⟩ := pushE4 hru hbu.size (by have := HN.out; have := HSZ.out; (have : ((l4.take n).filter (fun e => pre k e.1)).length ≤ (l4.take n).length := List.length_filter_le _ _); (have : (l4.take n).length ≤ n := by rw [List.length_take]; exact Nat.min_le_left _ _); omega) e0 54
        have HE1 : Hid _ := ld_en4 (HCU.out yy)
        have HBS : Hid _ := bsE4 yy.W e0
        have HAP2 : Hid _ := hap2
        have HR2 : Hid _ := hown2
        have HB2 : Hid (Below w1.heap.size w1 X2) := hbu.trans hb2
        have c1y := c1 yy
        clear hru hbu hap2 hown2 hb2 HL1 HL2
        go_wp2_with first
          | ((with_reducible show wpList _ _ _ ({ dst := _, op := Op.load 47 (Operand.tmp 42), type := _, pos := _, after := _, guard := _ } :: _) _ _); refine armLv (.tmp 42) 47 rfl rfl rfl HE1.out ?_)
          | ((with_reducible show wpList _ _ _ ({ dst := _, op := Op.buildSlice 54 1 #[(0, (Operand.tmp 43))], type := _, pos := _, after := _, guard := _ } :: _) _ _); refine arm_bsT (.tmp 43) 54 rfl rfl rfl HBS.out ?_)
          | ((with_reducible show wpList _ _ _ ({ dst := _, op := Op.call _, type := _, pos := _, after := _, guard := _ } :: _) _ _); refine arm_apT (.tmp 36) (.tmp 44) 54 rfl rfl rfl rfl HAP2.out ?_)
        go_roundw
        case rel => exact ⟨n + 1, HN.out, rfl, by rw [HNX.out]; exact HR2.out, HB2.out⟩
        case measure => show l4.length - (n + 1) < l4.length - n; have := HN.out; omega
    · obtain rfl : n = l4.length := by omega
      have hfin : wr.ownsRow W.heap.size 47 6 (.slice la ((l4.take l4.length).filter (fun e => pre k e.1)).length lc) (l4.filter (fun e => pre k e.1)).length ((l4.filter (fun e => pre k e.1)).flatMap ec4) := by
        have := own_baseT hrow HB1.out.size
        rwa [List.take_length] at this ⊢
      have HFIN : Hid _ := hfin
      have HBF : Hid (Below W.heap.size W wr) := HB1.out.trans (hBk.mono HB1.out.size)
      clear hdk hBk hrow hfin
      go_wp2
      try go_ret2
      refine HQ.out _ _ ⟨_, rfl, HFIN.out, HBF.out⟩
set_option maxHeartbeats 8000000 in
set_option maxRecDepth 100000 in
theorem ROver4_key {W : World} {b : Nat} {lim : Int} {l4 l6 : List Ent} {v4 v6 : Value} (h : Doc b lim l4 l6 v4 v6 W) (k : Bs) (hk : k.length ≤ 32) (hkey : ∀ e ∈ l4, e.1.length ≤ 32) (hlen : l4.length ≤ 100000) :
    Calls Try.prog 38 #[.pointer (some ⟨b, 0, none⟩), PK4 k] W fun e w' => ∃ vs, e = .returned (.tuple #[vs, .int .i64 0]) ∧ w'.ownsRow W.heap.size 47 6 vs (l4.filter (fun e => pre e.1 k)).length ((l4.filter (fun e => pre e.1 k)).flatMap ec4) ∧ Below W.heap.size W w' := by
  generalize hQ : (fun (e : Ending) (w' : World) => ∃ vs, e = .returned (.tuple #[vs, .int .i64 0]) ∧ w'.ownsRow W.heap.size 47 6 vs (l4.filter (fun e => pre e.1 k)).length ((l4.filter (fun e => pre e.1 k)).flatMap ec4) ∧ Below W.heap.size W w') = Q
  have HQ : Hid (∀ e w', (∃ vs, e = .returned (.tuple #[vs, .int .i64 0]) ∧ w'.ownsRow W.heap.size 47 6 vs (l4.filter (fun e => pre e.1 k)).length ((l4.filter (fun e => pre e.1 k)).flatMap ec4) ∧ Below W.heap.size W w') → Q e w') := fun e w' hh => by rw [← hQ]; exact hh
  clear hQ
  obtain ⟨W0, hW0⟩ : ∃ W0, W0 = W.alloc (.cells (cp6 (bytN 4 k) k.length).toArray 35) := ⟨_, rfl⟩
  have hB0 : Below W.heap.size W W0 := by rw [hW0]; exact (Below.refl W.heap.size W).alloc (Nat.le_refl _) _
  have hx0 : W0.heap[W.heap.size]? = some (.cells (cp6 (bytN 4 k) k.length).toArray 35) := by rw [hW0]; exact blk_new W _
  have hd0 := h.on hB0
  obtain ⟨ad, c, hv⟩ := own_slcT h.r4
  have HV : Hid (v4 = .slice ad l4.length c) := hv
  have HD0 : Hid (Doc b lim l4 l6 v4 v6 W0) := hd0
  have HX0 : Hid (W0.heap[W.heap.size]? = some (.cells (cp6 (bytN 4 k) k.length).toArray 35)) := hx0
  have HB0 : Hid (Below W.heap.size W W0) := hB0
  have HLT : Hid (b < W.heap.size) := h.lt
  have HCK : Hid (∀ X : World, Calls Try.prog 48 #[PK4 k] X fun e w' => e = .returned (.int .i64 0) ∧ Below X.heap.size X w') := fun X => RCheck4_key hk X
  have HL0 : Hid ((Instr.loadAt 35 (.pointer (some ⟨W.heap.size, 0, none⟩))).run Try.prog W0 = .ok (PK4 k) W0) := ld_bx4 hx0
  have HKEY : Hid (∀ e ∈ l4, e.1.length ≤ 32) := hkey
  have HK : Hid (k.length ≤ 32) := hk
  have HSZ : Hid (l4.length ≤ 100000) := hlen
  have hW := hW0.symm
  clear hW0 hB0 hx0 hd0 hv h hkey hk
  go_enter Try.func38, Try.ntmps38
  go_wp2_with first
    | ((with_reducible show wpList _ _ _ ({ dst := _, op := Op.load 35 (Operand.tmp 3), type := _, pos := _, after := _, guard := _ } :: _) _ _); refine armLv (.tmp 3) 35 rfl rfl rfl HL0.out ?_)
  refine Calls.mono (HCK.out _) ?_
  rintro e w1 ⟨rfl, hb1⟩
  have HD1 : Hid (Doc b lim l4 l6 v4 v6 w1) := HD0.out.on hb1
  have HX1 : Hid (w1.heap[W.heap.size]? = some (.cells (cp6 (bytN 4 k) k.length).toArray 35)) := blk_on HX0.out hb1
  have HB1 : Hid (Below W.heap.size W w1) := HB0.out.trans (hb1.mono HB0.out.size)
  clear hb1 HL0 HCK HB0 HX0 HD0 hW
  go_wp2
  go_loopw [6, 7] (fun lv i wr => ∃ n : Nat, n ≤ l4.length ∧ i = .int .i64 n ∧ wr.ownsRow w1.heap.size 47 6 lv ((l4.take n).filter (fun e => pre e.1 k)).length (((l4.take n).filter (fun e => pre e.1 k)).flatMap ec4) ∧ Below w1.heap.size w1 wr) (fun _ i _ => l4.length - (intOf i).toNat)
  case atStart => exact ⟨0, Nat.zero_le _, rfl, World.ownsRow_nil _ _ _ _, Below.refl _ _⟩
  case round =>
    obtain ⟨n, hn, rfl, hrow, hBk⟩ := hrel
    obtain ⟨la, lc, hlv⟩ := own_slcT hrow
    subst hlv
    have hdk := HD1.out.on (hBk.mono (Nat.le_refl _))
    have HDK : Hid (Doc b lim l4 l6 v4 v6 wr) := hdk
    have HXK : Hid (wr.heap[W.heap.size]? = some (.cells (cp6 (bytN 4 k) k.length).toArray 35)) := blk_on HX1.out hBk
    have HROW : Hid _ := hrow
    have c1 : ∀ x : Hi wr, x.W.cell? ⟨b, 1, none⟩ = some (.slice ad l4.length c) := fun x => by rw [← HV.out]; exact blk_cell (hdk.on x.below).box rfl
    have c1w : wr.cell? ⟨b, 1, none⟩ = some (.slice ad l4.length c) := c1 (Hi.refl wr)
    have HBR : Hid (Below w1.heap.size w1 wr) := hBk
    by_cases hlt : n < l4.length
    · obtain ⟨e0, he0⟩ : ∃ e0, l4[n]? = some e0 := ⟨_, List.getElem?_eq_getElem hlt⟩
      obtain ⟨g, c', hv', hg, hbg, hcx⟩ := own_atT ec4_len hdk.r4 he0
      rw [HV.out] at hv'
      obtain ⟨rfl, rfl⟩ : ad = some ⟨g, 0, none⟩ ∧ c = c' := by injection hv' with h1 _ h3; exact ⟨h1, h3⟩
      have hcu : ∀ x : Hi wr, CellsAt x.W g (n * 6) (ec4 e0) := fun x i u hi => (x.below.cell (p := ⟨g, _, none⟩) hg).trans (hcx i u hi)
      have HCU : Hid (∀ x : Hi wr, CellsAt x.W g (n * 6) (ec4 e0)) := hcu
      have HL1 : Hid (∀ x : Hi wr, (Instr.loadAt 35 (.pointer (some ⟨g, n * 6, none⟩))).run Try.prog x.W = .ok (PK4 e0.1) x.W) := fun x => ld_pk4 (hcu x)
      have HL2 : Hid (∀ x : Hi wr, (Instr.loadAt 35 (.pointer (some ⟨W.heap.size, 0, none⟩))).run Try.prog x.W = .ok (PK4 k) x.W) := fun x => ld_bx4 (Hi.blk HXK.out x)
      have HKE : Hid (e0.1.length ≤ 32) := HKEY.out e0 (List.mem_of_getElem? he0)
      have q1 : decide ((n : Int) < l4.length) = true := by simpa using hlt
      have w9 : IntKind.i64.wrap ((n : Int) + 1) = (n : Int) + 1 := wrap_i64 _ ⟨by omega, by omega⟩
      have HE0 : Hid (l4[n]? = some e0) := he0
      have HN : Hid (n < l4.length) := hlt
      have HCV : Hid (∀ x : Hi wr, Calls Try.prog 61 #[PK4 e0.1, PK4 k] x.W fun e w' => e = .returned (.tuple #[.bool (pre e0.1 k), .int .i64 0]) ∧ Below x.W.heap.size x.W w') := fun x => RCover4_key HKE.out HK.out x.W
      clear hcx hcu hdk hv' hBk he0 hrow
      cases hh : pre e0.1 k with
      | false =>
        rw [hh] at HCV
        have hnx : (l4.take (n + 1)).filter (fun e => pre e.1 k) = (l4.take n).filter (fun e => pre e.1 k) := by rw [filt_take HE0.out, hh]; rfl
        have HNX : Hid _ := hnx
        clear hnx hh
        go_wp2_with fail
        refine wp_region_hi (by kernel_rfl) (by kernel_rfl) ?_
        repeat (first | go_big_quiet_skip | (go_big_quiet_want; refine hi_load (.tmp 29) 35 rfl rfl HL1.out ?_; simp only [Act.put, List.setIfInBounds_toArray, List.set_cons_zero, List.set_cons_succ]; go_big_quiet_on) | (go_big_quiet_want; refine hi_load (.tmp 3) 35 rfl rfl HL2.out ?_; simp only [Act.put, List.setIfInBounds_toArray, List.set_cons_zero, List.set_cons_succ]; go_big_quiet_on) | (go_big_quiet_want; go_big_quiet_op; first | go_big_quiet_on | go_big_quiet_call (first | (go_at_call 61; with_reducible exact Hi.calls (HCV.out _)))))
        refine wpQuiet_nil ?_
        intro _ hw
        obtain ⟨yy, rfl⟩ := hw
        go_wp2
        go_roundw
        case rel => exact ⟨n + 1, HN.out, rfl, by rw [HNX.out]; exact own_sameT (w' := yy.W) HROW.out (fun q hq => yy.below.block q (own_ltT HROW.out hq).2), HBR.out.trans (yy.below.mono HBR.out.size)⟩
        case measure => show l4.length - (n + 1) < l4.length - n; have := HN.out; omega
      | true =>
        rw [hh] at HCV
        have hnx : (l4.take (n + 1)).filter (fun e => pre e.1 k) = (l4.take n).filter (fun e => pre e.1 k) ++ [e0] := by rw [filt_take HE0.out, hh]; rfl
        have HNX : Hid _ := hnx
        clear hnx hh
        go_wp2_with fail
        refine wp_region_hi (by kernel_rfl) (by kernel_rfl) ?_
        repeat (first | go_big_quiet_skip | (go_big_quiet_want; refine hi_load (.tmp 29) 35 rfl rfl HL1.out ?_; simp only [Act.put, List.setIfInBounds_toArray, List.set_cons_zero, List.set_cons_succ]; go_big_quiet_on) | (go_big_quiet_want; refine hi_load (.tmp 3) 35 rfl rfl HL2.out ?_; simp only [Act.put, List.setIfInBounds_toArray, List.set_cons_zero, List.set_cons_succ]; go_big_quiet_on) | (go_big_quiet_want; go_big_quiet_op; first | go_big_quiet_on | go_big_quiet_call (first | (go_at_call 61; with_reducible exact Hi.calls (HCV.out _)))))
        refine wpQuiet_nil ?_
        intro _ hw
        obtain ⟨yy, rfl⟩ := hw
        have hru := own_sameT (w' := yy.W) HROW.out (fun q hq => yy.below.block q (own_ltT HROW.out hq).2)
        have hbu := HBR.out.trans (yy.below.mono HBR.out.size)
        obtain ⟨x2, X2, hap2, hown2, hb2, _⟩ := pushE4 hru hbu.size (by have := HN.out; have := HSZ.out; (have : ((l4.take n).filter (fun e => pre e.1 k)).length ≤ (l4.take n).length := List.length_filter_le _ _); (have : (l4.take n).length ≤ n := by rw [List.length_take]; exact Nat.min_le_left _ _); omega) e0 54
        have HE1 : Hid _ := ld_en4 (HCU.out yy)
        have HBS : Hid _ := bsE4 yy.W e0
        have HAP2 : Hid _ := hap2
        have HR2 : Hid _ := hown2
        have HB2 : Hid (Below w1.heap.size w1 X2) := hbu.trans hb2
        have c1y := c1 yy
        clear hru hbu hap2 hown2 hb2 HL1 HL2
        go_wp2_with first
          | ((with_reducible show wpList _ _ _ ({ dst := _, op := Op.load 47 (Operand.tmp 42), type := _, pos := _, after := _, guard := _ } :: _) _ _); refine armLv (.tmp 42) 47 rfl rfl rfl HE1.out ?_)
          | ((with_reducible show wpList _ _ _ ({ dst := _, op := Op.buildSlice 54 1 #[(0, (Operand.tmp 43))], type := _, pos := _, after := _, guard := _ } :: _) _ _); refine arm_bsT (.tmp 43) 54 rfl rfl rfl HBS.out ?_)
          | ((with_reducible show wpList _ _ _ ({ dst := _, op := Op.call _, type := _, pos := _, after := _, guard := _ } :: _) _ _); refine arm_apT (.tmp 36) (.tmp 44) 54 rfl rfl rfl rfl HAP2.out ?_)
        go_roundw
        case rel => exact ⟨n + 1, HN.out, rfl, by rw [HNX.out]; exact HR2.out, HB2.out⟩
        case measure => show l4.length - (n + 1) < l4.length - n; have := HN.out; omega
    · obtain rfl : n = l4.length := by omega
      have hfin : wr.ownsRow W.heap.size 47 6 (.slice la ((l4.take l4.length).filter (fun e => pre e.1 k)).length lc) (l4.filter (fun e => pre e.1 k)).length ((l4.filter (fun e => pre e.1 k)).flatMap ec4) := by
        have := own_baseT hrow HB1.out.size
        rwa [List.take_length] at this ⊢
      have HFIN : Hid _ := hfin
      have HBF : Hid (Below W.heap.size W wr) := HB1.out.trans (hBk.mono HB1.out.size)
      clear hdk hBk hrow hfin
      go_wp2
      try go_ret2
      refine HQ.out _ _ ⟨_, rfl, HFIN.out, HBF.out⟩
end Go.Proofs.Ytenahbdopgmpfaa
