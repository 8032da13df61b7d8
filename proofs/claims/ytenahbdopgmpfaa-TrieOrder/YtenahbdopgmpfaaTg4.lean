/-
  Best of the document's table.
-/
import Derived.Test.YtenahbdopgmpfaaFold33
namespace Go.Proofs.Ytenahbdopgmpfaa
open Go Go.RowKit Go.Shelf
set_option linter.unusedVariables false
set_option linter.unusedSimpArgs false

def bE4 : Option Ent → List Value
  | none => [.int .u8 0, .int .u8 0, .int .u8 0, .int .u8 0, .int .i64 0, .int .i64 0]
  | some e => ec4 e
def bE6 : Option Ent → List Value
  | none => [.int .u8 0, .int .u8 0, .int .u8 0, .int .u8 0, .int .u8 0, .int .u8 0, .int .u8 0, .int .u8 0, .int .u8 0, .int .u8 0, .int .u8 0, .int .u8 0, .int .u8 0, .int .u8 0, .int .u8 0, .int .u8 0, .int .i64 0, .int .i64 0]
  | some e => ec6 e
theorem lastE_4 (L : List Ent) : enC ((lastE L).1.take 4) (lastE L).2.1 (lastE L).2.2 = bE4 L.getLast? := by
  unfold lastE
  cases L.getLast? <;> rfl
theorem lastE_6 (L : List Ent) : enC (lastE L).1 (lastE L).2.1 (lastE L).2.2 = bE6 L.getLast? := by
  unfold lastE
  cases L.getLast? <;> rfl
theorem lastB_some (L : List Ent) : lastB L = L.getLast?.isSome := by
  unfold lastB
  cases L with
  | nil => rfl
  | cons x l => simp
theorem bE4_len (o : Option Ent) : (bE4 o).length = 6 := by
  cases o with
  | none => rfl
  | some e => exact ec4_len e
theorem bE6_len (o : Option Ent) : (bE6 o).length = 18 := by
  cases o with
  | none => rfl
  | some e => exact ec6_len e
theorem bE4_one (o : Option Ent) : ∀ u ∈ bE4 o, u.oneCell' = true := by
  cases o with
  | none => simp [bE4, Value.oneCell']
  | some e => exact ec4_one e
theorem bE6_one (o : Option Ent) : ∀ u ∈ bE6 o, u.oneCell' = true := by
  cases o with
  | none => simp [bE6, Value.oneCell']
  | some e => exact ec6_one e
theorem bst_take {g : Bs → Bool} {l : List Ent} {n : Nat} {e : Ent} (he : l[n]? = some e) : bstN g (l.take (n + 1)) = if g e.1 && (match bstN g (l.take n) with | none => true | some b => decide (b.1.length < e.1.length)) then some e else bstN g (l.take n) := by
  rw [List.take_add_one, he, Option.toList, bstN_snoc]
  rfl
set_option maxHeartbeats 4000000 in
set_option maxRecDepth 100000 in
theorem RBest4_key {W : World} {b : Nat} {lim : Int} {l4 l6 : List Ent} {v4 v6 : Value} (h : Doc b lim l4 l6 v4 v6 W) (a : Bs) (ha : a.length = 32) (hkey : ∀ e ∈ l4, e.1.length ≤ 32) (hlen : l4.length ≤ 100000) :
    Calls Try.prog 35 #[.pointer (some ⟨b, 0, none⟩), .agg (u8s (bytN 4 a)).toArray] W fun e w' => e = .returned (.tuple #[.agg (bE4 (bstN (fun k => pre k a) l4)).toArray, .bool (bstN (fun k => pre k a) l4).isSome]) ∧ Below W.heap.size W w' := by
  generalize hQ : (fun (e : Ending) (w' : World) => e = .returned (.tuple #[.agg (bE4 (bstN (fun k => pre k a) l4)).toArray, .bool (bstN (fun k => pre k a) l4).isSome]) ∧ Below W.heap.size W w') = Q
  have HQ : Hid (∀ e w', (e = .returned (.tuple #[.agg (bE4 (bstN (fun k => pre k a) l4)).toArray, .bool (bstN (fun k => pre k a) l4).isSome]) ∧ Below W.heap.size W w') → Q e w') := fun e w' hh => by rw [← hQ]; exact hh
  clear hQ
  obtain ⟨W1, hW1⟩ : ∃ W1, W1 = (W.alloc (.cells (u8s (bytN 4 a)).toArray 33)).alloc (.cells [.int .u8 0, .int .u8 0, .int .u8 0, .int .u8 0, .int .i64 0, .int .i64 0].toArray 47) := ⟨_, rfl⟩
  have hs1 : W1.heap.size = W.heap.size + 1 + 1 := by rw [hW1]; simp
  have hB1 : Below W.heap.size W W1 := by rw [hW1]; exact ((Below.refl W.heap.size W).alloc (Nat.le_refl _) _).alloc (by simp) _
  have hxA : W1.heap[W.heap.size]? = some (.cells (u8s (bytN 4 a)).toArray 33) := by rw [hW1]; exact blk_alloc (blk_new W _) _
  have hxR : W1.heap[W.heap.size + 1]? = some (.cells [.int .u8 0, .int .u8 0, .int .u8 0, .int .u8 0, .int .i64 0, .int .i64 0].toArray 47) := by
    have := blk_new (W.alloc (.cells (u8s (bytN 4 a)).toArray 33)) (.cells [.int .u8 0, .int .u8 0, .int .u8 0, .int .u8 0, .int .i64 0, .int .i64 0].toArray 47)
    rw [show (W.alloc (.cells (u8s (bytN 4 a)).toArray 33)).heap.size = W.heap.size + 1 by simp] at this
    rw [hW1]; exact this
  obtain ⟨W2, hst, hxB, hB2⟩ := box_new (ty := 47) (n := 6) (fun w => by kernel_rfl) W1 [.int .u8 0, .int .u8 0, .int .u8 0, .int .u8 0, .int .i64 0, .int .i64 0] rfl [.int .u8 0, .int .u8 0, .int .u8 0, .int .u8 0, .int .i64 0, .int .i64 0] rfl (bE4_one none)
  rw [hs1] at hst hxB
  have HST : Hid ((Instr.storeAt 47 (.pointer (some ⟨W.heap.size + 1 + 1, 0, none⟩)) (.agg [.int .u8 0, .int .u8 0, .int .u8 0, .int .u8 0, .int .i64 0, .int .i64 0].toArray)).run Try.prog (W1.alloc (.cells [.int .u8 0, .int .u8 0, .int .u8 0, .int .u8 0, .int .i64 0, .int .i64 0].toArray 47)) = .ok () W2) := hst
  obtain ⟨ad, c, hv⟩ := own_slcT h.r4
  have HV : Hid (v4 = .slice ad l4.length c) := hv
  have HD2 : Hid (Doc b lim l4 l6 v4 v6 W) := h
  have HXA : Hid (W2.heap[W.heap.size]? = some (.cells (u8s (bytN 4 a)).toArray 33)) := blk_on hxA hB2
  have HXR : Hid (W2.heap[W.heap.size + 1]? = some (.cells [.int .u8 0, .int .u8 0, .int .u8 0, .int .u8 0, .int .i64 0, .int .i64 0].toArray 47)) := blk_on hxR hB2
  have HXB : Hid (W2.heap[W.heap.size + 1 + 1]? = some (.cells (bE4 none).toArray 47)) := hxB
  have HB2 : Hid (Below W.heap.size W W2) := hB1.trans (hB2.mono (by omega))
  have HLT : Hid (b < W.heap.size) := h.lt
  have HS2 : Hid (W.heap.size + 1 + 1 < W2.heap.size) := (Array.getElem?_eq_some_iff.1 hxB).1
  have HHAS : Hid (∀ p : Bs, p.length ≤ 32 → ∀ X : World, Calls Try.prog 18 #[PK4 p, .agg (u8s (bytN 4 a)).toArray] X fun e w' => e = .returned (.tuple #[.bool (pre p a), .int .i64 0]) ∧ Below X.heap.size X w') := fun p hp X => RHas4_key hp ha X
  have HKEY : Hid (∀ e ∈ l4, e.1.length ≤ 32) := hkey
  have hW := hW1.symm
  clear hW1 hB1 hB2 hxA hxR hxB hst hv h hkey ha
  go_enter Try.func35, Try.ntmps35
  go_wp2_with first
    | ((with_reducible show wpList _ _ _ _ _ _); refine armS (.tmp 6) (.tmp 11) 47 rfl rfl rfl rfl HST.out ?_)
  clear HST hW
  go_loopw [7, 8] (fun o i wr => ∃ n : Nat, n ≤ l4.length ∧ i = .int .i64 n ∧ o = .bool (bstN (fun k => pre k a) (l4.take n)).isSome ∧ wr.heap[W.heap.size + 1 + 1]? = some (.cells (bE4 (bstN (fun k => pre k a) (l4.take n))).toArray 47) ∧ Below (W.heap.size + 1 + 1) W2 wr) (fun _ i _ => l4.length - (intOf i).toNat)
  case atStart => exact ⟨0, Nat.zero_le _, rfl, rfl, HXB.out, Below.refl _ _⟩
  case round =>
    obtain ⟨n, hn, rfl, rfl, hbx, hBk⟩ := hrel
    have hold : ∀ j, j < W.heap.size + 1 + 1 → wr.heap[j]? = W2.heap[j]? := fun j hj => hBk.block j hj
    have hBW : Below W.heap.size W wr := HB2.out.trans (hBk.mono (by omega))
    have HBK : Hid (Below W.heap.size W wr) := hBW
    have HBR : Hid (Below (W.heap.size + 1 + 1) W2 wr) := hBk
    have hw2 : W.heap.size + 1 + 1 < wr.heap.size := (Array.getElem?_eq_some_iff.1 hbx).1
    have hdk : Doc b lim l4 l6 v4 v6 wr := HD2.out.on hBW
    have c1 : wr.cell? ⟨b, 1, none⟩ = some (.slice ad l4.length c) := by rw [← HV.out]; exact blk_cell hdk.box rfl
    by_cases hlt : n < l4.length
    · obtain ⟨e0, he0⟩ : ∃ e0, l4[n]? = some e0 := ⟨_, List.getElem?_eq_getElem hlt⟩
      obtain ⟨g, c', hv', hg, _, hcx⟩ := own_atT ec4_len hdk.r4 he0
      rw [HV.out] at hv'
      obtain ⟨rfl, rfl⟩ : ad = some ⟨g, 0, none⟩ ∧ c = c' := by injection hv' with h1 _ h3; exact ⟨h1, h3⟩
      have hcu : ∀ x : Hi wr, CellsAt x.W g (n * 6) (ec4 e0) := fun x i u hi => (x.below.cell (p := ⟨g, _, none⟩) hg).trans (hcx i u hi)
      have HCU : Hid (∀ x : Hi wr, CellsAt x.W g (n * 6) (ec4 e0)) := hcu
      have HL1 : Hid (∀ x : Hi wr, (Instr.loadAt 35 (.pointer (some ⟨g, n * 6, none⟩))).run Try.prog x.W = .ok (PK4 e0.1) x.W) := fun x => ld_pk4 (hcu x)
      have hxk := (hold W.heap.size (by omega)).trans HXA.out
      have HL2 : Hid (∀ x : Hi wr, (Instr.loadAt 33 (.pointer (some ⟨W.heap.size, 0, none⟩))).run Try.prog x.W = .ok (.agg (u8s (bytN 4 a)).toArray) x.W) := fun x => agg_load (n := 4) (fun w => by kernel_rfl) (fun w => by kernel_rfl) (by rw [u8s_length, bytN_length]) (CellsAt.of_blk (Hi.blk hxk x))
      have HHX : Hid (∀ x : Hi wr, Calls Try.prog 18 #[PK4 e0.1, .agg (u8s (bytN 4 a)).toArray] x.W fun e w' => e = .returned (.tuple #[.bool (pre e0.1 a), .int .i64 0]) ∧ Below x.W.heap.size x.W w') := fun x => HHAS.out e0.1 (HKEY.out e0 (List.mem_of_getElem? he0)) x.W
      have d1 : ∀ x : Hi wr, x.W.cell? ⟨b, 1, none⟩ = some (.slice (some ⟨g, 0, none⟩) l4.length c) := fun x => (x.below.cell (p := ⟨b, _, none⟩) hdk.lt).trans c1
      have dn : ∀ x : Hi wr, x.W.cell? ⟨g, n * 6 + 4, none⟩ = some (.int .i64 e0.1.length) := fun x => hcu x 4 _ (ec4_n e0)
      have q1 : decide ((n : Int) < l4.length) = true := by simpa using hlt
      have w9 : IntKind.i64.wrap ((n : Int) + 1) = (n : Int) + 1 := wrap_i64 _ ⟨by omega, by omega⟩
      have HSN : Hid (bstN (fun k => pre k a) (l4.take (n + 1)) = if pre e0.1 a && (match bstN (fun k => pre k a) (l4.take n) with | none => true | some b => decide (b.1.length < e0.1.length)) then some e0 else bstN (fun k => pre k a) (l4.take n)) := bst_take he0
      have HBX : Hid (wr.heap[W.heap.size + 1 + 1]? = some (.cells (bE4 (bstN (fun k => pre k a) (l4.take n))).toArray 47)) := hbx
      have HN : Hid (n < l4.length) := hlt
      clear hcx hcu hxk hdk hv' hBk he0 hBW hold hbx
      generalize hbs : bstN (fun k => pre k a) (l4.take n) = bs at *
      clear hbs
      go_wp2_with fail
      refine wp_region_hi (by kernel_rfl) (by kernel_rfl) ?_
      repeat (first | go_big_quiet_skip | (go_big_quiet_want; refine hi_load (.tmp 28) 35 rfl rfl HL1.out ?_; simp only [Act.put, List.setIfInBounds_toArray, List.set_cons_zero, List.set_cons_succ]; go_big_quiet_on) | (go_big_quiet_want; refine hi_load (.tmp 3) 33 rfl rfl HL2.out ?_; simp only [Act.put, List.setIfInBounds_toArray, List.set_cons_zero, List.set_cons_succ]; go_big_quiet_on) | (go_big_quiet_want; go_big_quiet_op; first | go_big_quiet_on | go_big_quiet_call (first | (go_at_call 18; with_reducible exact Hi.calls (HHX.out _)))))
      refine wpQuiet_nil ?_
      intro _ hw
      obtain ⟨yy, rfl⟩ := hw
      have HBY : Hid _ := yy.below
      have HBXY : Hid (yy.W.heap[W.heap.size + 1 + 1]? = some (.cells (bE4 bs).toArray 47)) := Hi.blk HBX.out yy
      cases hp : pre e0.1 a with
      | false =>
        have HNX : Hid (bstN (fun k => pre k a) (l4.take (n + 1)) = bs) := by have := HSN.out; rw [hp] at this; exact this
        clear HL1 HL2 HHX hp dn
        go_wp2_with fail
        refine wp_region_up (by kernel_rfl) (by kernel_rfl) ?_
        repeat (first | go_big_quiet_skip | (go_big_quiet_want; go_big_quiet_op; first | go_big_quiet_on | go_big_quiet_call (fail)))
        refine wpQuiet_nil ?_
        intro _ hw
        obtain ⟨z, rfl⟩ := hw
        go_wp2
        go_roundw
        case rel => exact ⟨n + 1, HN.out, rfl, by rw [HNX.out], by rw [HNX.out]; exact Hi.blk HBX.out z, HBR.out.trans (z.below.mono (Nat.le_of_lt hw2))⟩
        case measure => show l4.length - (n + 1) < l4.length - n; have := HN.out; omega
      | true =>
        have HSE : Hid (∀ x : Hi wr, ∃ w5, (Instr.storeAt 47 (.pointer (some ⟨W.heap.size + 1 + 1, 0, none⟩)) (.agg (ec4 e0).toArray)).run Try.prog x.W = .ok () w5 ∧ w5.heap[W.heap.size + 1 + 1]? = some (.cells (ec4 e0).toArray 47) ∧ Only (W.heap.size + 1 + 1) x.W w5) := fun x => box_store (fun w => by kernel_rfl) (Hi.blk HBX.out x) (bE4_len bs) (ec4 e0) (ec4_len e0) (ec4_one e0)
        clear HL1 HL2 HHX
        cases bs with
        | none =>
          have HNX : Hid (bstN (fun k => pre k a) (l4.take (n + 1)) = some e0) := by have := HSN.out; rw [hp] at this; exact this
          clear hp dn
          go_wp2_with fail
          refine wp_region_up (by kernel_rfl) (by kernel_rfl) ?_
          repeat (first | go_big_quiet_skip | (go_big_quiet_want; go_big_quiet_op; first | go_big_quiet_on | go_big_quiet_call (fail)))
          refine wpQuiet_nil ?_
          intro _ hw
          obtain ⟨z, rfl⟩ := hw
          obtain ⟨w5, hst5, hbx5, hon5⟩ := HSE.out z
          have HE1 : Hid _ := ld_en4 (HCU.out z)
          have HST : Hid _ := hst5
          clear hst5
          go_wp2_with first
            | ((with_reducible show wpList _ _ _ _ _ _); refine armLv (.tmp 59) 47 rfl rfl rfl HE1.out ?_)
            | ((with_reducible show wpList _ _ _ _ _ _); refine armS (.tmp 6) (.tmp 60) 47 rfl rfl rfl rfl HST.out ?_)
          go_roundw
          case rel => exact ⟨n + 1, HN.out, rfl, by rw [HNX.out]; rfl, by rw [HNX.out]; exact hbx5, (HBR.out.trans (z.below.mono (Nat.le_of_lt hw2))).trans (hon5.below (Nat.le_refl _))⟩
          case measure => show l4.length - (n + 1) < l4.length - n; have := HN.out; omega
        | some e1 =>
          have db : ∀ x : Hi wr, x.W.cell? ⟨W.heap.size + 1 + 1, 4, none⟩ = some (.int .i64 e1.1.length) := fun x => blk_cell (Hi.blk HBX.out x) (ec4_n e1)
          by_cases hl : e1.1.length < e0.1.length
          · have hnx : bstN (fun k => pre k a) (l4.take (n + 1)) = some e0 := by have := HSN.out; rw [hp] at this; simpa [hl] using this
            have HNX : Hid _ := hnx
            clear hnx
            have q2 : decide ((e1.1.length : Int) < e0.1.length) = true := decide_eq_true (by omega)
            have q3 : decide (e1.1.length < e0.1.length) = true := decide_eq_true hl
            clear hp hl
            go_wp2_with fail
            refine wp_region_up (by kernel_rfl) (by kernel_rfl) ?_
            repeat (first | go_big_quiet_skip | (go_big_quiet_want; go_big_quiet_op; first | go_big_quiet_on | go_big_quiet_call (fail)))
            refine wpQuiet_nil ?_
            intro _ hw
            obtain ⟨z, rfl⟩ := hw
            obtain ⟨w5, hst5, hbx5, hon5⟩ := HSE.out z
            have HE1 : Hid _ := ld_en4 (HCU.out z)
            have HST : Hid _ := hst5
            clear hst5 db dn q2 q3
            go_wp2_with first
              | ((with_reducible show wpList _ _ _ _ _ _); refine armLv (.tmp 59) 47 rfl rfl rfl HE1.out ?_)
              | ((with_reducible show wpList _ _ _ _ _ _); refine armS (.tmp 6) (.tmp 60) 47 rfl rfl rfl rfl HST.out ?_)
            go_roundw
            case rel => exact ⟨n + 1, HN.out, rfl, by rw [HNX.out]; rfl, by rw [HNX.out]; exact hbx5, (HBR.out.trans (z.below.mono (Nat.le_of_lt hw2))).trans (hon5.below (Nat.le_refl _))⟩
            case measure => show l4.length - (n + 1) < l4.length - n; have := HN.out; omega
          · have hnx : bstN (fun k => pre k a) (l4.take (n + 1)) = some e1 := by have := HSN.out; rw [hp] at this; simpa [hl] using this
            have HNX : Hid _ := hnx
            clear hnx
            have q2 : decide ((e1.1.length : Int) < e0.1.length) = false := decide_eq_false (by omega)
            have q3 : decide (e1.1.length < e0.1.length) = false := decide_eq_false hl
            clear hp hl
            go_wp2_with fail
            refine wp_region_up (by kernel_rfl) (by kernel_rfl) ?_
            repeat (first | go_big_quiet_skip | (go_big_quiet_want; go_big_quiet_op; first | go_big_quiet_on | go_big_quiet_call (fail)))
            refine wpQuiet_nil ?_
            intro _ hw
            obtain ⟨z, rfl⟩ := hw
            clear db dn q2 q3
            go_wp2
            go_roundw
            case rel => exact ⟨n + 1, HN.out, rfl, by rw [HNX.out]; rfl, by rw [HNX.out]; exact Hi.blk HBX.out z, HBR.out.trans (z.below.mono (Nat.le_of_lt hw2))⟩
            case measure => show l4.length - (n + 1) < l4.length - n; have := HN.out; omega
    · obtain rfl : n = l4.length := by omega
      rw [List.take_length] at hbx ⊢
      have HE1 : Hid (∀ X : World, X.heap[W.heap.size + 1 + 1]? = some (.cells (bE4 (bstN (fun k => pre k a) l4)).toArray 47) → (Instr.loadAt 47 (.pointer (some ⟨W.heap.size + 1 + 1, 0, none⟩))).run Try.prog X = .ok (.agg (bE4 (bstN (fun k => pre k a) l4)).toArray) X) := fun X hX => agg_load (n := 6) (fun w => by kernel_rfl) (fun w => by kernel_rfl) (bE4_len _) (CellsAt.of_blk hX)
      have HE2 : Hid _ := HE1.out wr hbx
      have hxr := (hold (W.heap.size + 1) (by omega)).trans HXR.out
      obtain ⟨w5, hst5, hbx5, hon5⟩ := box_store (ty := 47) (n := 6) (fun w => by kernel_rfl) hxr rfl (bE4 (bstN (fun k => pre k a) l4)) (bE4_len _) (bE4_one _)
      have HST : Hid _ := hst5
      have HLV : Hid _ := agg_loadVar (t := 47) (n := 6) (fun w => by kernel_rfl) (fun w => by kernel_rfl) (bE4_len _) (CellsAt.of_blk hbx5)
      have HF : Hid (Below W.heap.size W w5) := HBK.out.trans (hon5.below (by omega))
      clear hdk hBk hold hbx hxr hst5 hbx5 hon5 hBW
      generalize bstN (fun k => pre k a) l4 = bs at *
      generalize hbo : bs.isSome = bo at *
      go_wp2_with first
        | ((with_reducible show wpList _ _ _ _ _ _); refine armLv (.tmp 6) 47 rfl rfl rfl HE2.out ?_)
        | ((with_reducible show wpList _ _ _ _ _ _); refine armS (.tmp 4) (.tmp 61) 47 rfl rfl rfl rfl HST.out ?_)
      exact bodyPost_ret (res2u (a := 4) (b := 5) rfl rfl rfl HLV.out) rfl (HQ.out _ _ ⟨rfl, HF.out⟩)
set_option maxHeartbeats 4000000 in
set_option maxRecDepth 100000 in
theorem RBest6_key {W : World} {b : Nat} {lim : Int} {l4 l6 : List Ent} {v4 v6 : Value} (h : Doc b lim l4 l6 v4 v6 W) (a : Bs) (ha : a.length = 128) (hkey : ∀ e ∈ l6, e.1.length ≤ 128) (hlen : l6.length ≤ 100000) :
    Calls Try.prog 36 #[.pointer (some ⟨b, 0, none⟩), .agg (u8s (bytN 16 a)).toArray] W fun e w' => e = .returned (.tuple #[.agg (bE6 (bstN (fun k => pre k a) l6)).toArray, .bool (bstN (fun k => pre k a) l6).isSome]) ∧ Below W.heap.size W w' := by
  generalize hQ : (fun (e : Ending) (w' : World) => e = .returned (.tuple #[.agg (bE6 (bstN (fun k => pre k a) l6)).toArray, .bool (bstN (fun k => pre k a) l6).isSome]) ∧ Below W.heap.size W w') = Q
  have HQ : Hid (∀ e w', (e = .returned (.tuple #[.agg (bE6 (bstN (fun k => pre k a) l6)).toArray, .bool (bstN (fun k => pre k a) l6).isSome]) ∧ Below W.heap.size W w') → Q e w') := fun e w' hh => by rw [← hQ]; exact hh
  clear hQ
  obtain ⟨W1, hW1⟩ : ∃ W1, W1 = (W.alloc (.cells (u8s (bytN 16 a)).toArray 37)).alloc (.cells [.int .u8 0, .int .u8 0, .int .u8 0, .int .u8 0, .int .u8 0, .int .u8 0, .int .u8 0, .int .u8 0, .int .u8 0, .int .u8 0, .int .u8 0, .int .u8 0, .int .u8 0, .int .u8 0, .int .u8 0, .int .u8 0, .int .i64 0, .int .i64 0].toArray 51) := ⟨_, rfl⟩
  have hs1 : W1.heap.size = W.heap.size + 1 + 1 := by rw [hW1]; simp
  have hB1 : Below W.heap.size W W1 := by rw [hW1]; exact ((Below.refl W.heap.size W).alloc (Nat.le_refl _) _).alloc (by simp) _
  have hxA : W1.heap[W.heap.size]? = some (.cells (u8s (bytN 16 a)).toArray 37) := by rw [hW1]; exact blk_alloc (blk_new W _) _
  have hxR : W1.heap[W.heap.size + 1]? = some (.cells [.int .u8 0, .int .u8 0, .int .u8 0, .int .u8 0, .int .u8 0, .int .u8 0, .int .u8 0, .int .u8 0, .int .u8 0, .int .u8 0, .int .u8 0, .int .u8 0, .int .u8 0, .int .u8 0, .int .u8 0, .int .u8 0, .int .i64 0, .int .i64 0].toArray 51) := by
    have := blk_new (W.alloc (.cells (u8s (bytN 16 a)).toArray 37)) (.cells [.int .u8 0, .int .u8 0, .int .u8 0, .int .u8 0, .int .u8 0, .int .u8 0, .int .u8 0, .int .u8 0, .int .u8 0, .int .u8 0, .int .u8 0, .int .u8 0, .int .u8 0, .int .u8 0, .int .u8 0, .int .u8 0, .int .i64 0, .int .i64 0].toArray 51)
    rw [show (W.alloc (.cells (u8s (bytN 16 a)).toArray 37)).heap.size = W.heap.size + 1 by simp] at this
    rw [hW1]; exact this
  obtain ⟨W2, hst, hxB, hB2⟩ := box_new (ty := 51) (n := 18) (fun w => by kernel_rfl) W1 [.int .u8 0, .int .u8 0, .int .u8 0, .int .u8 0, .int .u8 0, .int .u8 0, .int .u8 0, .int .u8 0, .int .u8 0, .int .u8 0, .int .u8 0, .int .u8 0, .int .u8 0, .int .u8 0, .int .u8 0, .int .u8 0, .int .i64 0, .int .i64 0] rfl [.int .u8 0, .int .u8 0, .int .u8 0, .int .u8 0, .int .u8 0, .int .u8 0, .int .u8 0, .int .u8 0, .int .u8 0, .int .u8 0, .int .u8 0, .int .u8 0, .int .u8 0, .int .u8 0, .int .u8 0, .int .u8 0, .int .i64 0, .int .i64 0] rfl (bE6_one none)
  rw [hs1] at hst hxB
  have HST : Hid ((Instr.storeAt 51 (.pointer (some ⟨W.heap.size + 1 + 1, 0, none⟩)) (.agg [.int .u8 0, .int .u8 0, .int .u8 0, .int .u8 0, .int .u8 0, .int .u8 0, .int .u8 0, .int .u8 0, .int .u8 0, .int .u8 0, .int .u8 0, .int .u8 0, .int .u8 0, .int .u8 0, .int .u8 0, .int .u8 0, .int .i64 0, .int .i64 0].toArray)).run Try.prog (W1.alloc (.cells [.int .u8 0, .int .u8 0, .int .u8 0, .int .u8 0, .int .u8 0, .int .u8 0, .int .u8 0, .int .u8 0, .int .u8 0, .int .u8 0, .int .u8 0, .int .u8 0, .int .u8 0, .int .u8 0, .int .u8 0, .int .u8 0, .int .i64 0, .int .i64 0].toArray 51)) = .ok () W2) := hst
  obtain ⟨ad, c, hv⟩ := own_slcT h.r6
  have HV : Hid (v6 = .slice ad l6.length c) := hv
  have HD2 : Hid (Doc b lim l4 l6 v4 v6 W) := h
  have HXA : Hid (W2.heap[W.heap.size]? = some (.cells (u8s (bytN 16 a)).toArray 37)) := blk_on hxA hB2
  have HXR : Hid (W2.heap[W.heap.size + 1]? = some (.cells [.int .u8 0, .int .u8 0, .int .u8 0, .int .u8 0, .int .u8 0, .int .u8 0, .int .u8 0, .int .u8 0, .int .u8 0, .int .u8 0, .int .u8 0, .int .u8 0, .int .u8 0, .int .u8 0, .int .u8 0, .int .u8 0, .int .i64 0, .int .i64 0].toArray 51)) := blk_on hxR hB2
  have HXB : Hid (W2.heap[W.heap.size + 1 + 1]? = some (.cells (bE6 none).toArray 51)) := hxB
  have HB2 : Hid (Below W.heap.size W W2) := hB1.trans (hB2.mono (by omega))
  have HLT : Hid (b < W.heap.size) := h.lt
  have HS2 : Hid (W.heap.size + 1 + 1 < W2.heap.size) := (Array.getElem?_eq_some_iff.1 hxB).1
  have HHAS : Hid (∀ p : Bs, p.length ≤ 128 → ∀ X : World, Calls Try.prog 19 #[PK6 p, .agg (u8s (bytN 16 a)).toArray] X fun e w' => e = .returned (.tuple #[.bool (pre p a), .int .i64 0]) ∧ Below X.heap.size X w') := fun p hp X => RHas6_key hp ha X
  have HKEY : Hid (∀ e ∈ l6, e.1.length ≤ 128) := hkey
  have hW := hW1.symm
  clear hW1 hB1 hB2 hxA hxR hxB hst hv h hkey ha
  go_enter Try.func36, Try.ntmps36
  go_wp2_with first
    | ((with_reducible show wpList _ _ _ _ _ _); refine armS (.tmp 6) (.tmp 11) 51 rfl rfl rfl rfl HST.out ?_)
  clear HST hW
  go_loopw [7, 8] (fun o i wr => ∃ n : Nat, n ≤ l6.length ∧ i = .int .i64 n ∧ o = .bool (bstN (fun k => pre k a) (l6.take n)).isSome ∧ wr.heap[W.heap.size + 1 + 1]? = some (.cells (bE6 (bstN (fun k => pre k a) (l6.take n))).toArray 51) ∧ Below (W.heap.size + 1 + 1) W2 wr) (fun _ i _ => l6.length - (intOf i).toNat)
  case atStart => exact ⟨0, Nat.zero_le _, rfl, rfl, HXB.out, Below.refl _ _⟩
  case round =>
    obtain ⟨n, hn, rfl, rfl, hbx, hBk⟩ := hrel
    have hold : ∀ j, j < W.heap.size + 1 + 1 → wr.heap[j]? = W2.heap[j]? := fun j hj => hBk.block j hj
    have hBW : Below W.heap.size W wr := HB2.out.trans (hBk.mono (by omega))
    have HBK : Hid (Below W.heap.size W wr) := hBW
    have HBR : Hid (Below (W.heap.size + 1 + 1) W2 wr) := hBk
    have hw2 : W.heap.size + 1 + 1 < wr.heap.size := (Array.getElem?_eq_some_iff.1 hbx).1
    have hdk : Doc b lim l4 l6 v4 v6 wr := HD2.out.on hBW
    have c1 : wr.cell? ⟨b, 2, none⟩ = some (.slice ad l6.length c) := by rw [← HV.out]; exact blk_cell hdk.box rfl
    by_cases hlt : n < l6.length
    · obtain ⟨e0, he0⟩ : ∃ e0, l6[n]? = some e0 := ⟨_, List.getElem?_eq_getElem hlt⟩
      obtain ⟨g, c', hv', hg, _, hcx⟩ := own_atT ec6_len hdk.r6 he0
      rw [HV.out] at hv'
      obtain ⟨rfl, rfl⟩ : ad = some ⟨g, 0, none⟩ ∧ c = c' := by injection hv' with h1 _ h3; exact ⟨h1, h3⟩
      have hcu : ∀ x : Hi wr, CellsAt x.W g (n * 18) (ec6 e0) := fun x i u hi => (x.below.cell (p := ⟨g, _, none⟩) hg).trans (hcx i u hi)
      have HCU : Hid (∀ x : Hi wr, CellsAt x.W g (n * 18) (ec6 e0)) := hcu
      have HL1 : Hid (∀ x : Hi wr, (Instr.loadAt 39 (.pointer (some ⟨g, n * 18, none⟩))).run Try.prog x.W = .ok (PK6 e0.1) x.W) := fun x => ld_pk6 (hcu x)
      have hxk := (hold W.heap.size (by omega)).trans HXA.out
      have HL2 : Hid (∀ x : Hi wr, (Instr.loadAt 37 (.pointer (some ⟨W.heap.size, 0, none⟩))).run Try.prog x.W = .ok (.agg (u8s (bytN 16 a)).toArray) x.W) := fun x => agg_load (n := 16) (fun w => by kernel_rfl) (fun w => by kernel_rfl) (by rw [u8s_length, bytN_length]) (CellsAt.of_blk (Hi.blk hxk x))
      have HHX : Hid (∀ x : Hi wr, Calls Try.prog 19 #[PK6 e0.1, .agg (u8s (bytN 16 a)).toArray] x.W fun e w' => e = .returned (.tuple #[.bool (pre e0.1 a), .int .i64 0]) ∧ Below x.W.heap.size x.W w') := fun x => HHAS.out e0.1 (HKEY.out e0 (List.mem_of_getElem? he0)) x.W
      have d1 : ∀ x : Hi wr, x.W.cell? ⟨b, 2, none⟩ = some (.slice (some ⟨g, 0, none⟩) l6.length c) := fun x => (x.below.cell (p := ⟨b, _, none⟩) hdk.lt).trans c1
      have dn : ∀ x : Hi wr, x.W.cell? ⟨g, n * 18 + 16, none⟩ = some (.int .i64 e0.1.length) := fun x => hcu x 16 _ (ec6_n e0)
      have q1 : decide ((n : Int) < l6.length) = true := by simpa using hlt
      have w9 : IntKind.i64.wrap ((n : Int) + 1) = (n : Int) + 1 := wrap_i64 _ ⟨by omega, by omega⟩
      have HSN : Hid (bstN (fun k => pre k a) (l6.take (n + 1)) = if pre e0.1 a && (match bstN (fun k => pre k a) (l6.take n) with | none => true | some b => decide (b.1.length < e0.1.length)) then some e0 else bstN (fun k => pre k a) (l6.take n)) := bst_take he0
      have HBX : Hid (wr.heap[W.heap.size + 1 + 1]? = some (.cells (bE6 (bstN (fun k => pre k a) (l6.take n))).toArray 51)) := hbx
      have HN : Hid (n < l6.length) := hlt
      clear hcx hcu hxk hdk hv' hBk he0 hBW hold hbx
      generalize hbs : bstN (fun k => pre k a) (l6.take n) = bs at *
      clear hbs
      go_wp2_with fail
      refine wp_region_hi (by kernel_rfl) (by kernel_rfl) ?_
      repeat (first | go_big_quiet_skip | (go_big_quiet_want; refine hi_load (.tmp 28) 39 rfl rfl HL1.out ?_; simp only [Act.put, List.setIfInBounds_toArray, List.set_cons_zero, List.set_cons_succ]; go_big_quiet_on) | (go_big_quiet_want; refine hi_load (.tmp 3) 37 rfl rfl HL2.out ?_; simp only [Act.put, List.setIfInBounds_toArray, List.set_cons_zero, List.set_cons_succ]; go_big_quiet_on) | (go_big_quiet_want; go_big_quiet_op; first | go_big_quiet_on | go_big_quiet_call (first | (go_at_call 19; with_reducible exact Hi.calls (HHX.out _)))))
      refine wpQuiet_nil ?_
      intro _ hw
      obtain ⟨yy, rfl⟩ := hw
      have HBY : Hid _ := yy.below
      have HBXY : Hid (yy.W.heap[W.heap.size + 1 + 1]? = some (.cells (bE6 bs).toArray 51)) := Hi.blk HBX.out yy
      cases hp : pre e0.1 a with
      | false =>
        have HNX : Hid (bstN (fun k => pre k a) (l6.take (n + 1)) = bs) := by have := HSN.out; rw [hp] at this; exact this
        clear HL1 HL2 HHX hp dn
        go_wp2_with fail
        refine wp_region_up (by kernel_rfl) (by kernel_rfl) ?_
        repeat (first | go_big_quiet_skip | (go_big_quiet_want; go_big_quiet_op; first | go_big_quiet_on | go_big_quiet_call (fail)))
        refine wpQuiet_nil ?_
        intro _ hw
        obtain ⟨z, rfl⟩ := hw
        go_wp2
        go_roundw
        case rel => exact ⟨n + 1, HN.out, rfl, by rw [HNX.out], by rw [HNX.out]; exact Hi.blk HBX.out z, HBR.out.trans (z.below.mono (Nat.le_of_lt hw2))⟩
        case measure => show l6.length - (n + 1) < l6.length - n; have := HN.out; omega
      | true =>
        have HSE : Hid (∀ x : Hi wr, ∃ w5, (Instr.storeAt 51 (.pointer (some ⟨W.heap.size + 1 + 1, 0, none⟩)) (.agg (ec6 e0).toArray)).run Try.prog x.W = .ok () w5 ∧ w5.heap[W.heap.size + 1 + 1]? = some (.cells (ec6 e0).toArray 51) ∧ Only (W.heap.size + 1 + 1) x.W w5) := fun x => box_store (fun w => by kernel_rfl) (Hi.blk HBX.out x) (bE6_len bs) (ec6 e0) (ec6_len e0) (ec6_one e0)
        clear HL1 HL2 HHX
        cases bs with
        | none =>
          have HNX : Hid (bstN (fun k => pre k a) (l6.take (n + 1)) = some e0) := by have := HSN.out; rw [hp] at this; exact this
          clear hp dn
          go_wp2_with fail
          refine wp_region_up (by kernel_rfl) (by kernel_rfl) ?_
          repeat (first | go_big_quiet_skip | (go_big_quiet_want; go_big_quiet_op; first | go_big_quiet_on | go_big_quiet_call (fail)))
          refine wpQuiet_nil ?_
          intro _ hw
          obtain ⟨z, rfl⟩ := hw
          obtain ⟨w5, hst5, hbx5, hon5⟩ := HSE.out z
          have HE1 : Hid _ := ld_en6 (HCU.out z)
          have HST : Hid _ := hst5
          clear hst5
          go_wp2_with first
            | ((with_reducible show wpList _ _ _ _ _ _); refine armLv (.tmp 59) 51 rfl rfl rfl HE1.out ?_)
            | ((with_reducible show wpList _ _ _ _ _ _); refine armS (.tmp 6) (.tmp 60) 51 rfl rfl rfl rfl HST.out ?_)
          go_roundw
          case rel => exact ⟨n + 1, HN.out, rfl, by rw [HNX.out]; rfl, by rw [HNX.out]; exact hbx5, (HBR.out.trans (z.below.mono (Nat.le_of_lt hw2))).trans (hon5.below (Nat.le_refl _))⟩
          case measure => show l6.length - (n + 1) < l6.length - n; have := HN.out; omega
        | some e1 =>
          have db : ∀ x : Hi wr, x.W.cell? ⟨W.heap.size + 1 + 1, 16, none⟩ = some (.int .i64 e1.1.length) := fun x => blk_cell (Hi.blk HBX.out x) (ec6_n e1)
          by_cases hl : e1.1.length < e0.1.length
          · have hnx : bstN (fun k => pre k a) (l6.take (n + 1)) = some e0 := by have := HSN.out; rw [hp] at this; simpa [hl] using this
            have HNX : Hid _ := hnx
            clear hnx
            have q2 : decide ((e1.1.length : Int) < e0.1.length) = true := decide_eq_true (by omega)
            have q3 : decide (e1.1.length < e0.1.length) = true := decide_eq_true hl
            clear hp hl
            go_wp2_with fail
            refine wp_region_up (by kernel_rfl) (by kernel_rfl) ?_
            repeat (first | go_big_quiet_skip | (go_big_quiet_want; go_big_quiet_op; first | go_big_quiet_on | go_big_quiet_call (fail)))
            refine wpQuiet_nil ?_
            intro _ hw
            obtain ⟨z, rfl⟩ := hw
            obtain ⟨w5, hst5, hbx5, hon5⟩ := HSE.out z
            have HE1 : Hid _ := ld_en6 (HCU.out z)
            have HST : Hid _ := hst5
            clear hst5 db dn q2 q3
            go_wp2_with first
              | ((with_reducible show wpList _ _ _ _ _ _); refine armLv (.tmp 59) 51 rfl rfl rfl HE1.out ?_)
              | ((with_reducible show wpList _ _ _ _ _ _); refine armS (.tmp 6) (.tmp 60) 51 rfl rfl rfl rfl HST.out ?_)
            go_roundw
            case rel => exact ⟨n + 1, HN.out, rfl, by rw [HNX.out]; rfl, by rw [HNX.out]; exact hbx5, (HBR.out.trans (z.below.mono (Nat.le_of_lt hw2))).trans (hon5.below (Nat.le_refl _))⟩
            case measure => show l6.length - (n + 1) < l6.length - n; have := HN.out; omega
          · have hnx : bstN (fun k => pre k a) (l6.take (n + 1)) = some e1 := by have := HSN.out; rw [hp] at this; simpa [hl] using this
            have HNX : Hid _ := hnx
            clear hnx
            have q2 : decide ((e1.1.length : Int) < e0.1.length) = false := decide_eq_false (by omega)
            have q3 : decide (e1.1.length < e0.1.length) = false := decide_eq_false hl
            clear hp hl
            go_wp2_with fail
            refine wp_region_up (by kernel_rfl) (by kernel_rfl) ?_
            repeat (first | go_big_quiet_skip | (go_big_quiet_want; go_big_quiet_op; first | go_big_quiet_on | go_big_quiet_call (fail)))
            refine wpQuiet_nil ?_
            intro _ hw
            obtain ⟨z, rfl⟩ := hw
            clear db dn q2 q3
            go_wp2
            go_roundw
            case rel => exact ⟨n + 1, HN.out, rfl, by rw [HNX.out]; rfl, by rw [HNX.out]; exact Hi.blk HBX.out z, HBR.out.trans (z.below.mono (Nat.le_of_lt hw2))⟩
            case measure => show l6.length - (n + 1) < l6.length - n; have := HN.out; omega
    · obtain rfl : n = l6.length := by omega
      rw [List.take_length] at hbx ⊢
      have HE1 : Hid (∀ X : World, X.heap[W.heap.size + 1 + 1]? = some (.cells (bE6 (bstN (fun k => pre k a) l6)).toArray 51) → (Instr.loadAt 51 (.pointer (some ⟨W.heap.size + 1 + 1, 0, none⟩))).run Try.prog X = .ok (.agg (bE6 (bstN (fun k => pre k a) l6)).toArray) X) := fun X hX => agg_load (n := 18) (fun w => by kernel_rfl) (fun w => by kernel_rfl) (bE6_len _) (CellsAt.of_blk hX)
      have HE2 : Hid _ := HE1.out wr hbx
      have hxr := (hold (W.heap.size + 1) (by omega)).trans HXR.out
      obtain ⟨w5, hst5, hbx5, hon5⟩ := box_store (ty := 51) (n := 18) (fun w => by kernel_rfl) hxr rfl (bE6 (bstN (fun k => pre k a) l6)) (bE6_len _) (bE6_one _)
      have HST : Hid _ := hst5
      have HLV : Hid _ := agg_loadVar (t := 51) (n := 18) (fun w => by kernel_rfl) (fun w => by kernel_rfl) (bE6_len _) (CellsAt.of_blk hbx5)
      have HF : Hid (Below W.heap.size W w5) := HBK.out.trans (hon5.below (by omega))
      clear hdk hBk hold hbx hxr hst5 hbx5 hon5 hBW
      generalize bstN (fun k => pre k a) l6 = bs at *
      generalize hbo : bs.isSome = bo at *
      go_wp2_with first
        | ((with_reducible show wpList _ _ _ _ _ _); refine armLv (.tmp 6) 51 rfl rfl rfl HE2.out ?_)
        | ((with_reducible show wpList _ _ _ _ _ _); refine armS (.tmp 4) (.tmp 61) 51 rfl rfl rfl rfl HST.out ?_)
      exact bodyPost_ret (res2u (a := 4) (b := 5) rfl rfl rfl HLV.out) rfl (HQ.out _ _ ⟨rfl, HF.out⟩)
end Go.Proofs.Ytenahbdopgmpfaa
