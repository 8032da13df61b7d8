/-
  edgeOf of the program.
-/
import Derived.Test.YtaebknkjhhcneaaGreatDoorFold20
namespace Go.Proofs.YtaebknkjhhcneaaGreatDoor
open Go Go.RowKit
set_option linter.unusedVariables false
set_option linter.unusedSimpArgs false

theorem slice_arr (b o n : Nat) : (4 : Nat) = 4 := rfl

set_option maxHeartbeats 8000000 in
set_option maxRecDepth 100000 in
theorem edgeOf_any (r : Ru) (hok : r.Ok) (v : Nat) (hv : v < 2 ^ r.ea.toNat) (w : World) :
    Calls Tryz.prog 100 #[RV r, .int .u64 v] w fun e w' => e = .returned (EV (edg r v)) ∧ Below w.heap.size w w' := by
  generalize hQ : (fun (e : Ending) (w' : World) => e = .returned (EV (edg r v)) ∧ Below w.heap.size w w') = Q
  have HQ : Hid _ := hQ
  clear hQ
  have hr := hok.inn
  have hm := hok.mid
  obtain ⟨a, b, d, h, q, o, hn⟩ := hok.nums
  rw [hn.eb, Int.toNat_natCast] at hv
  have hlen := hn.len
  have hroom := hn.room
  have HSUM : Hid _ := hn.sum
  have hpsid := hn.psid
  have HPS : Hid (∀ W, Calls Tryz.prog 108 #[RV r] W fun e w' => e = .returned (.int .i64 (q : Nat)) ∧ Below W.heap.size W w') := fun W => by have := psidBits_any r hr hm W; rw [hn.eq] at this; exact this
  have HHB : Hid (∀ W, Calls Tryz.prog 137 #[RV r] W fun e w' => e = .returned (.int .i64 (h : Nat)) ∧ Below W.heap.size W w') := fun W => by have := hostBits_any r hr hm W; rw [hn.eh] at this; exact this
  have HSH : Hid (∀ W, Calls Tryz.prog 138 #[RV r] W fun e w' => e = .returned (.bool (decide (0 < q))) ∧ Below W.heap.size W w') := fun W => by
    have := shared_any r hr hm W
    rw [hn.eq] at this
    have e : decide ((0 : Int) < (q : Int)) = decide (0 < q) := by rw [decide_eq_decide]; omega
    rw [e] at this
    exact this
  have HAS : Hid (∀ W, Calls Tryz.prog 66 #[RV r] W fun e w' => e = .returned (PS o q 0) ∧ Below W.heap.size W w') := fun W => by have := anySet_any r hr hm W; rw [hn.eq, hn.eo] at this; exact this
  have h64 : v < 18446744073709551616 := u64_of b v (by omega) hv
  have k1 := pow_le16 (l := q) (by omega)
  have k2 := pow_ge1 q
  have hsh := cast_shr v q
  have hand := and_mask v q h64 (by omega)
  have hu6 := accN_lt r.l6 0 a
  have hu4 := accN_lt r.l4 0 d
  have hvq : v / 2 ^ q < 2 ^ h := by
    rw [Nat.div_lt_iff_lt_mul (Nat.two_pow_pos q), ← Nat.pow_add, ← HSUM.out]
    exact hv
  have hvp : v % 2 ^ q < 2 ^ 16 := Nat.lt_of_lt_of_le (Nat.mod_lt _ (Nat.two_pow_pos q)) (Nat.pow_le_pow_right (by decide) (by omega))
  have HSE : Hid _ := six_end (v := v) hok hn
  have HFV : Hid _ := four_v4 (v := v) hok hn
  have hso := six_own (v := v) hok hn
  obtain ⟨cc, hcc⟩ : ∃ cc : Nat, cc = 64 - (a + b) := ⟨_, rfl⟩
  rw [← hcc] at hso
  have HSO : Hid _ := hso
  have HCC : Hid (a + b + cc = 64) := by show a + b + cc = 64; omega
  clear hso hcc
  have hEdg : edg r v = ⟨v4L r v, (d : Int) + (h : Int), if 0 < q then (o : Int) else 0, q, (v % 2 ^ q : Nat), endL r v, (a : Int) + (b : Int), ownL r v⟩ := by
    unfold edg pidV
    rw [hn.e4, hn.eh, hn.eq, hn.eo, hn.e6, hn.eb, Int.toNat_natCast]
    have q3 : (if (0 : Int) < (q : Int) then (o : Int) else 0) = if 0 < q then (o : Int) else 0 := by
      by_cases c : 0 < q
      · rw [if_pos c, if_pos (by omega)]
      · rw [if_neg c, if_neg (by omega)]
    rw [q3]
  rw [hEdg] at HQ
  clear hEdg
  obtain ⟨oo, hoo⟩ : ∃ oo : Int, oo = (if 0 < q then (o : Int) else 0) := ⟨_, rfl⟩
  rw [← hoo] at HQ
  have HOO : Hid _ := hoo
  clear hoo
  have e4k := v4L_length (v := v) hok
  have e4f := v4L_fit (v := v) hok
  have e6k := endL_length (v := v) hok
  have ewk := ownL_length (v := v) hok
  have HPID : Hid (q = 0 → v % 2 ^ q = 0) := fun e => by rw [e]; omega
  generalize hHost : v / 2 ^ q = host at *
  generalize hPid : v % 2 ^ q = pid at *
  have hx4 := accN_lt (v4L r v) 0 32
  generalize hV4 : v4L r v = l4e at *
  generalize hE6 : endL r v = l6e at *
  generalize hOw : ownL r v = lwe at *
  have HFD : Hid (r.n4 = d ∧ r.n6 = a ∧ r.ea = b) := ⟨hn.e4, hn.e6, hn.eb⟩
  clear hV4 hE6 hOw hHost hPid hm hok hn
  obtain ⟨hb, hb2, hBw⟩ := two_box' w (RO r) (.cells zeroEL.toArray 69)
  obtain ⟨ldR, _, _, d16, d21, d22, _⟩ := RuHi.of hr hb
  have HLD : Hid _ := ldR
  have hA0 : HasAll [(w.heap.size, RO r), (w.heap.size + 1, .cells zeroEL.toArray 69)] ((w.alloc (RO r)).alloc (.cells zeroEL.toArray 69)) := ((HasAll.nil _).cons hb2).cons hb
  generalize hW : (w.alloc (RO r)).alloc (.cells zeroEL.toArray 69) = W at *
  have HA0 : Hid (HasAll [(w.heap.size, RO r), (w.heap.size + 1, .cells zeroEL.toArray 69)] W) := hA0
  clear ldR hb hb2 hA0 d16 d21 d22
  go_enter Tryz.func100, Tryz.ntmps100
  go_wp2_with fail
  refine wp_region_hi (by kernel_rfl) (by kernel_rfl) ?_
  repeat (first | go_big_quiet_skip | (go_big_quiet_want; refine hi_load (.tmp 2) 65 rfl rfl HLD.out ?_; simp only [Act.put, List.setIfInBounds_toArray, List.set_cons_zero, List.set_cons_succ]; go_big_quiet_on) | (go_big_quiet_want; go_big_quiet_op; first | go_big_quiet_on | go_big_quiet_call (first | (go_at_call 108; with_reducible exact Hi.calls (HPS.out _)))))
  refine wpQuiet_nil ?_
  intro _ hw
  obtain ⟨y, rfl⟩ := hw
  have hBy := hBw.trans (y.below.mono hBw.size)
  clear hsh hand
  have hA1 := HA0.out.on y.below
  have HR6 : Hid (∀ W : World, W.heap[w.heap.size]? = some (RO r) → Calls Tryz.prog 140 #[.slice (some ⟨w.heap.size, 0, none⟩) 16 16, .int .i64 a] W fun e w' => e = .returned (RunV a (accN r.l6 0 a : Nat)) ∧ Below W.heap.size W w') := fun W hS => by
    have hby := bytes_of (cap := 16) (RuAt.of hr hS).s6 hr.f6 (Array.getElem?_eq_some_iff.1 hS).1 (by have := hr.k6; omega)
    rw [hr.k6] at hby
    exact head_any _ r.l6 a W hby (by omega) (by have := hr.k6; omega)
  have HR4 : Hid (∀ W : World, W.heap[w.heap.size]? = some (RO r) → Calls Tryz.prog 140 #[.slice (some ⟨w.heap.size, 17, none⟩) 4 4, .int .i64 d] W fun e w' => e = .returned (RunV d (accN r.l4 0 d : Nat)) ∧ Below W.heap.size W w') := fun W hS => by
    have hby := bytes_of (cap := 4) (RuAt.of hr hS).s4 hr.f4 (Array.getElem?_eq_some_iff.1 hS).1 (by have := hr.k4; omega)
    rw [hr.k4] at hby
    exact head_any _ r.l4 d W hby (by omega) (by have := hr.k4; omega)
  have HC16 : Hid (∀ W : World, W.heap[w.heap.size]? = some (RO r) → W.cell? ⟨w.heap.size, 16, none⟩ = some (.int .i64 (a : Nat))) := fun W hS => by rw [← HFD.out.2.1]; exact (RuAt.of hr hS).c16
  have HC21 : Hid (∀ W : World, W.heap[w.heap.size]? = some (RO r) → W.cell? ⟨w.heap.size, 21, none⟩ = some (.int .i64 (d : Nat))) := fun W hS => by rw [← HFD.out.1]; exact (RuAt.of hr hS).c21
  have HC22 : Hid (∀ W : World, W.heap[w.heap.size]? = some (RO r) → W.cell? ⟨w.heap.size, 22, none⟩ = some (.int .i64 (b : Nat))) := fun W hS => by rw [← HFD.out.2.2]; exact (RuAt.of hr hS).c22
  have HLDR : Hid (∀ W : World, W.heap[w.heap.size]? = some (RO r) → (Instr.loadAt 65 (.pointer (some ⟨w.heap.size, 0, none⟩))).run Tryz.prog W = .ok (RV r) W) := fun W hS => (RuAt.of hr hS).ldR
  generalize accN r.l6 0 a = u6 at *
  generalize accN r.l4 0 d = u4 at *
  clear HFD hr HLD
  go_wp2_with fail
  have hA1d : HasAll [(w.heap.size, RO r), (w.heap.size + 1, .cells zeroEL.toArray 69)] y.W.drew := hA1.on ((Below.refl _ y.W).drew)
  have hB1d : Below w.heap.size w y.W.drew := hBy.drew
  refine region_mid (fun a0 a' w' => ∃ c7 c8, a' = (((((((((((((a0.put (some 22) (.pointer (some ⟨w.heap.size, 0, none⟩))).put (some 23) (.pointer (some ⟨w.heap.size, 0, none⟩))).put (some 24) (.slice (some ⟨w.heap.size, 0, none⟩) 16 16)).put (some 25) (.pointer (some ⟨w.heap.size, 0, none⟩))).put (some 26) (.pointer (some ⟨w.heap.size, 16, none⟩))).put (some 27) (.int .i64 (a : Nat))).put (some 29) (.pointer (some ⟨w.heap.size, 22, none⟩))).put (some 30) (.int .i64 (b : Nat))).put (some 31) (.int .u64 (v : Nat))).put (some 32) (RunV b v)).put (some 28) (RunV a u6)).put (some 7) (.pointer (some ⟨c7, 0, none⟩))).put (some 8) (.pointer (some ⟨c8, 0, none⟩))) ∧ HasAll [(c8, .cells (RunL b v).toArray 199), (c7, .cells (RunL a u6).toArray 199), (w.heap.size, RO r), (w.heap.size + 1, .cells zeroEL.toArray 69)] w' ∧ Below w.heap.size w w') ?_ ?_
  · skip
    refine wp_region_held (S := fun W => W.heap[w.heap.size]? = some (RO r)) (by kernel_rfl) ?_
    show wpAnyH _ _ _ _ _ 15 (Array.replicate 15 false) _ y.W.drew
    have hs0 := hA1d _ (.head _)
    refine take_one (i := 0) (d := some 22) (v := .pointer (some ⟨w.heap.size, 0, none⟩)) rfl rfl rfl (by kernel_rfl) (by kernel_rfl) (by kernel_rfl) (fun _ _ _ _ _ h => h.elim) (fun W hS => by kernel_rfl) hs0 ?_
    simp only [Act.put, List.setIfInBounds_toArray, List.set_cons_zero, List.set_cons_succ]
    refine take_one (i := 1) (d := some 23) (v := .pointer (some ⟨w.heap.size, 0, none⟩)) rfl rfl rfl (by kernel_rfl) (by kernel_rfl) (by kernel_rfl) (fun _ _ _ _ _ h => h.elim) (fun W hS => by kernel_rfl) hs0 ?_
    simp only [Act.put, List.setIfInBounds_toArray, List.set_cons_zero, List.set_cons_succ]
    refine take_one (i := 2) (d := some 24) (v := .slice (some ⟨w.heap.size, 0, none⟩) 16 16) rfl rfl rfl (by kernel_rfl) (by kernel_rfl) (by kernel_rfl) (fun _ _ _ _ _ h => h.elim) (fun W hS => by kernel_rfl) hs0 ?_
    simp only [Act.put, List.setIfInBounds_toArray, List.set_cons_zero, List.set_cons_succ]
    refine take_one (i := 3) (d := some 25) (v := .pointer (some ⟨w.heap.size, 0, none⟩)) rfl rfl rfl (by kernel_rfl) (by kernel_rfl) (by kernel_rfl) (fun _ _ _ _ _ h => h.elim) (fun W hS => by kernel_rfl) hs0 ?_
    simp only [Act.put, List.setIfInBounds_toArray, List.set_cons_zero, List.set_cons_succ]
    refine take_one (i := 4) (d := some 26) (v := .pointer (some ⟨w.heap.size, 16, none⟩)) rfl rfl rfl (by kernel_rfl) (by kernel_rfl) (by kernel_rfl) (fun _ _ _ _ _ h => h.elim) (fun W hS => by kernel_rfl) hs0 ?_
    simp only [Act.put, List.setIfInBounds_toArray, List.set_cons_zero, List.set_cons_succ]
    refine take_one (i := 5) (d := some 27) (v := .int .i64 (a : Nat)) rfl rfl rfl (by kernel_rfl) (by kernel_rfl) (by kernel_rfl) (fun _ _ _ _ _ h => h.elim) (fun W hS => ex_loadC 26 rfl rfl (HC16.out W hS)) hs0 ?_
    simp only [Act.put, List.setIfInBounds_toArray, List.set_cons_zero, List.set_cons_succ]
    refine take_one (i := 7) (d := some 29) (v := .pointer (some ⟨w.heap.size, 22, none⟩)) rfl rfl rfl (by kernel_rfl) (by kernel_rfl) (by kernel_rfl) (fun _ _ _ _ _ h => h.elim) (fun W hS => by kernel_rfl) hs0 ?_
    simp only [Act.put, List.setIfInBounds_toArray, List.set_cons_zero, List.set_cons_succ]
    refine take_one (i := 8) (d := some 30) (v := .int .i64 (b : Nat)) rfl rfl rfl (by kernel_rfl) (by kernel_rfl) (by kernel_rfl) (fun _ _ _ _ _ h => h.elim) (fun W hS => ex_loadC 29 rfl rfl (HC22.out W hS)) hs0 ?_
    simp only [Act.put, List.setIfInBounds_toArray, List.set_cons_zero, List.set_cons_succ]
    refine take_one (i := 9) (d := some 31) (v := .int .u64 (v : Nat)) rfl rfl rfl (by kernel_rfl) (by kernel_rfl) (by kernel_rfl) (fun _ _ _ _ _ h => h.elim) (fun W hS => by kernel_rfl) hs0 ?_
    simp only [Act.put, List.setIfInBounds_toArray, List.set_cons_zero, List.set_cons_succ]
    refine take_one (i := 10) (d := some 32) (v := RunV b v) rfl rfl rfl (by kernel_rfl) (by kernel_rfl) (by kernel_rfl) (fun _ _ _ _ _ h => h.elim) (fun W hS => by kernel_rfl) hs0 ?_
    simp only [Act.put, List.setIfInBounds_toArray, List.set_cons_zero, List.set_cons_succ]
    refine all_three (i1 := 6) (i2 := 11) (i3 := 12) (by kernel_rfl) rfl rfl rfl rfl rfl rfl ?_ ?_ ?_
    · refine wp_call (d := some 28) 140 _ rfl (by kernel_rfl) (callR (HR6.out _ (hA1d _ (.head _)))) ?_
      rintro _ x1 ⟨rfl, g1⟩
      have hA_1 := hA1d.on g1
      have hB_1 := hB1d.trans (g1.mono hB1d.size)
      refine ⟨hA_1 _ (.head _), ?_⟩
      simp only [Act.put, List.setIfInBounds_toArray, List.set_cons_zero, List.set_cons_succ]
      refine all_two (i1 := 11) (i2 := 12) (by kernel_rfl) rfl rfl rfl rfl ?_ ?_
      · refine wp_newX (d := some 7) (v := fun c => .pointer (some ⟨c, 0, none⟩)) (z := .cells (RunL 0 0).toArray 199) rfl (by simp [execOp, go_sem]) ?_
        intro c7 x2 ec7 nc7 g2
        have lc7 : w.heap.size + 1 < c7 := by have := hA_1.lt (.tail _ (.head _)); simp only at this; omega
        have hA_2 := hA_1.on g2
        have hB_2 := hB_1.trans (g2.mono hB_1.size)
        refine ⟨hA_2 _ (.head _), ?_⟩
        simp only [Act.put, List.setIfInBounds_toArray, List.set_cons_zero, List.set_cons_succ]
        refine all_one (i := 12) (by kernel_rfl) rfl rfl ?_
        refine wp_newX (d := some 8) (v := fun c => .pointer (some ⟨c, 0, none⟩)) (z := .cells (RunL 0 0).toArray 199) rfl (by simp [execOp, go_sem]) ?_
        intro c8 x3 ec8 nc8 g3
        have lc8 : w.heap.size + 1 < c8 := by have := hA_2.lt (.tail _ (.head _)); simp only at this; omega
        have h7_3 := blk_on nc7 g3
        have ne78 : c7 ≠ c8 := by have := (Array.getElem?_eq_some_iff.1 nc7).1; omega
        have hA_3 := hA_2.on g3
        have hB_3 := hB_2.trans (g3.mono hB_2.size)
        refine ⟨hA_3 _ (.head _), ?_⟩
        simp only [Act.put, List.setIfInBounds_toArray, List.set_cons_zero, List.set_cons_succ]
        obtain ⟨w7, hst7, _, hc7, hon7⟩ := run_store h7_3 rfl (a : Int) (u6 : Int)
        have hA7 := HasAll.only (c := c7) hA_3 hon7 (by intro p hp; rcases hp with _ | ⟨_, _ | ⟨_, hp⟩⟩ <;> first | omega | cases hp)
        have h87 : w7.heap[c8]? = some (.cells (RunL 0 0).toArray 199) := (hon7.other c8 (by omega)).trans nc8
        refine all_one (i := 13) (by kernel_rfl) rfl rfl ?_
        refine wp_storeA (.tmp 7) (.tmp 28) 199 rfl rfl rfl rfl hst7 ⟨hA7 _ (.head _), ?_⟩
        obtain ⟨w8, hst8, _, hc8, hon8⟩ := run_store h87 rfl (b : Int) (v : Int)
        have hA8 := HasAll.only (c := c8) hA7 hon8 (by intro p hp; rcases hp with _ | ⟨_, _ | ⟨_, hp⟩⟩ <;> first | omega | cases hp)
        have hc78 := (hon8.other c7 (by omega)).trans hc7
        refine all_one (i := 14) (by kernel_rfl) rfl rfl ?_
        refine wp_storeA (.tmp 8) (.tmp 32) 199 rfl rfl rfl rfl hst8 ⟨hA8 _ (.head _), ?_⟩
        refine wpAnyH_done (by kernel_rfl) ?_ _
        exact ⟨c7, c8, rfl, (hA8.cons hc78).cons hc8, (hB_3.trans (hon7.below (by omega))).trans (hon8.below (by omega))⟩
      · refine wp_newX (d := some 8) (v := fun c => .pointer (some ⟨c, 0, none⟩)) (z := .cells (RunL 0 0).toArray 199) rfl (by simp [execOp, go_sem]) ?_
        intro c8 x2 ec8 nc8 g2
        have lc8 : w.heap.size + 1 < c8 := by have := hA_1.lt (.tail _ (.head _)); simp only at this; omega
        have hA_2 := hA_1.on g2
        have hB_2 := hB_1.trans (g2.mono hB_1.size)
        refine ⟨hA_2 _ (.head _), ?_⟩
        simp only [Act.put, List.setIfInBounds_toArray, List.set_cons_zero, List.set_cons_succ]
        refine all_one (i := 11) (by kernel_rfl) rfl rfl ?_
        refine wp_newX (d := some 7) (v := fun c => .pointer (some ⟨c, 0, none⟩)) (z := .cells (RunL 0 0).toArray 199) rfl (by simp [execOp, go_sem]) ?_
        intro c7 x3 ec7 nc7 g3
        have lc7 : w.heap.size + 1 < c7 := by have := hA_2.lt (.tail _ (.head _)); simp only at this; omega
        have h8_3 := blk_on nc8 g3
        have ne78 : c8 ≠ c7 := by have := (Array.getElem?_eq_some_iff.1 nc8).1; omega
        have hA_3 := hA_2.on g3
        have hB_3 := hB_2.trans (g3.mono hB_2.size)
        refine ⟨hA_3 _ (.head _), ?_⟩
        simp only [Act.put, List.setIfInBounds_toArray, List.set_cons_zero, List.set_cons_succ]
        obtain ⟨w7, hst7, _, hc7, hon7⟩ := run_store nc7 rfl (a : Int) (u6 : Int)
        have hA7 := HasAll.only (c := c7) hA_3 hon7 (by intro p hp; rcases hp with _ | ⟨_, _ | ⟨_, hp⟩⟩ <;> first | omega | cases hp)
        have h87 : w7.heap[c8]? = some (.cells (RunL 0 0).toArray 199) := (hon7.other c8 (by omega)).trans h8_3
        refine all_one (i := 13) (by kernel_rfl) rfl rfl ?_
        refine wp_storeA (.tmp 7) (.tmp 28) 199 rfl rfl rfl rfl hst7 ⟨hA7 _ (.head _), ?_⟩
        obtain ⟨w8, hst8, _, hc8, hon8⟩ := run_store h87 rfl (b : Int) (v : Int)
        have hA8 := HasAll.only (c := c8) hA7 hon8 (by intro p hp; rcases hp with _ | ⟨_, _ | ⟨_, hp⟩⟩ <;> first | omega | cases hp)
        have hc78 := (hon8.other c7 (by omega)).trans hc7
        refine all_one (i := 14) (by kernel_rfl) rfl rfl ?_
        refine wp_storeA (.tmp 8) (.tmp 32) 199 rfl rfl rfl rfl hst8 ⟨hA8 _ (.head _), ?_⟩
        refine wpAnyH_done (by kernel_rfl) ?_ _
        exact ⟨c7, c8, rfl, (hA8.cons hc78).cons hc8, (hB_3.trans (hon7.below (by omega))).trans (hon8.below (by omega))⟩
    · refine wp_newX (d := some 7) (v := fun c => .pointer (some ⟨c, 0, none⟩)) (z := .cells (RunL 0 0).toArray 199) rfl (by simp [execOp, go_sem]) ?_
      intro c7 x1 ec7 nc7 g1
      have lc7 : w.heap.size + 1 < c7 := by have := hA1d.lt (.tail _ (.head _)); simp only at this; omega
      have hA_1 := hA1d.on g1
      have hB_1 := hB1d.trans (g1.mono hB1d.size)
      refine ⟨hA_1 _ (.head _), ?_⟩
      simp only [Act.put, List.setIfInBounds_toArray, List.set_cons_zero, List.set_cons_succ]
      refine all_two (i1 := 6) (i2 := 12) (by kernel_rfl) rfl rfl rfl rfl ?_ ?_
      · refine wp_call (d := some 28) 140 _ rfl (by kernel_rfl) (callR (HR6.out _ (hA_1 _ (.head _)))) ?_
        rintro _ x2 ⟨rfl, g2⟩
        have h7_2 := blk_on nc7 g2
        have hA_2 := hA_1.on g2
        have hB_2 := hB_1.trans (g2.mono hB_1.size)
        refine ⟨hA_2 _ (.head _), ?_⟩
        simp only [Act.put, List.setIfInBounds_toArray, List.set_cons_zero, List.set_cons_succ]
        refine all_one (i := 12) (by kernel_rfl) rfl rfl ?_
        refine wp_newX (d := some 8) (v := fun c => .pointer (some ⟨c, 0, none⟩)) (z := .cells (RunL 0 0).toArray 199) rfl (by simp [execOp, go_sem]) ?_
        intro c8 x3 ec8 nc8 g3
        have lc8 : w.heap.size + 1 < c8 := by have := hA_2.lt (.tail _ (.head _)); simp only at this; omega
        have h7_3 := blk_on h7_2 g3
        have ne78 : c7 ≠ c8 := by have := (Array.getElem?_eq_some_iff.1 h7_2).1; omega
        have hA_3 := hA_2.on g3
        have hB_3 := hB_2.trans (g3.mono hB_2.size)
        refine ⟨hA_3 _ (.head _), ?_⟩
        simp only [Act.put, List.setIfInBounds_toArray, List.set_cons_zero, List.set_cons_succ]
        obtain ⟨w7, hst7, _, hc7, hon7⟩ := run_store h7_3 rfl (a : Int) (u6 : Int)
        have hA7 := HasAll.only (c := c7) hA_3 hon7 (by intro p hp; rcases hp with _ | ⟨_, _ | ⟨_, hp⟩⟩ <;> first | omega | cases hp)
        have h87 : w7.heap[c8]? = some (.cells (RunL 0 0).toArray 199) := (hon7.other c8 (by omega)).trans nc8
        refine all_one (i := 13) (by kernel_rfl) rfl rfl ?_
        refine wp_storeA (.tmp 7) (.tmp 28) 199 rfl rfl rfl rfl hst7 ⟨hA7 _ (.head _), ?_⟩
        obtain ⟨w8, hst8, _, hc8, hon8⟩ := run_store h87 rfl (b : Int) (v : Int)
        have hA8 := HasAll.only (c := c8) hA7 hon8 (by intro p hp; rcases hp with _ | ⟨_, _ | ⟨_, hp⟩⟩ <;> first | omega | cases hp)
        have hc78 := (hon8.other c7 (by omega)).trans hc7
        refine all_one (i := 14) (by kernel_rfl) rfl rfl ?_
        refine wp_storeA (.tmp 8) (.tmp 32) 199 rfl rfl rfl rfl hst8 ⟨hA8 _ (.head _), ?_⟩
        refine wpAnyH_done (by kernel_rfl) ?_ _
        exact ⟨c7, c8, rfl, (hA8.cons hc78).cons hc8, (hB_3.trans (hon7.below (by omega))).trans (hon8.below (by omega))⟩
      · refine wp_newX (d := some 8) (v := fun c => .pointer (some ⟨c, 0, none⟩)) (z := .cells (RunL 0 0).toArray 199) rfl (by simp [execOp, go_sem]) ?_
        intro c8 x2 ec8 nc8 g2
        have lc8 : w.heap.size + 1 < c8 := by have := hA_1.lt (.tail _ (.head _)); simp only at this; omega
        have h7_2 := blk_on nc7 g2
        have ne78 : c7 ≠ c8 := by have := (Array.getElem?_eq_some_iff.1 nc7).1; omega
        have hA_2 := hA_1.on g2
        have hB_2 := hB_1.trans (g2.mono hB_1.size)
        refine ⟨hA_2 _ (.head _), ?_⟩
        simp only [Act.put, List.setIfInBounds_toArray, List.set_cons_zero, List.set_cons_succ]
        refine all_one (i := 6) (by kernel_rfl) rfl rfl ?_
        refine wp_call (d := some 28) 140 _ rfl (by kernel_rfl) (callR (HR6.out _ (hA_2 _ (.head _)))) ?_
        rintro _ x3 ⟨rfl, g3⟩
        have h7_3 := blk_on h7_2 g3
        have h8_3 := blk_on nc8 g3
        have hA_3 := hA_2.on g3
        have hB_3 := hB_2.trans (g3.mono hB_2.size)
        refine ⟨hA_3 _ (.head _), ?_⟩
        simp only [Act.put, List.setIfInBounds_toArray, List.set_cons_zero, List.set_cons_succ]
        obtain ⟨w7, hst7, _, hc7, hon7⟩ := run_store h7_3 rfl (a : Int) (u6 : Int)
        have hA7 := HasAll.only (c := c7) hA_3 hon7 (by intro p hp; rcases hp with _ | ⟨_, _ | ⟨_, hp⟩⟩ <;> first | omega | cases hp)
        have h87 : w7.heap[c8]? = some (.cells (RunL 0 0).toArray 199) := (hon7.other c8 (by omega)).trans h8_3
        refine all_one (i := 13) (by kernel_rfl) rfl rfl ?_
        refine wp_storeA (.tmp 7) (.tmp 28) 199 rfl rfl rfl rfl hst7 ⟨hA7 _ (.head _), ?_⟩
        obtain ⟨w8, hst8, _, hc8, hon8⟩ := run_store h87 rfl (b : Int) (v : Int)
        have hA8 := HasAll.only (c := c8) hA7 hon8 (by intro p hp; rcases hp with _ | ⟨_, _ | ⟨_, hp⟩⟩ <;> first | omega | cases hp)
        have hc78 := (hon8.other c7 (by omega)).trans hc7
        refine all_one (i := 14) (by kernel_rfl) rfl rfl ?_
        refine wp_storeA (.tmp 8) (.tmp 32) 199 rfl rfl rfl rfl hst8 ⟨hA8 _ (.head _), ?_⟩
        refine wpAnyH_done (by kernel_rfl) ?_ _
        exact ⟨c7, c8, rfl, (hA8.cons hc78).cons hc8, (hB_3.trans (hon7.below (by omega))).trans (hon8.below (by omega))⟩
    · refine wp_newX (d := some 8) (v := fun c => .pointer (some ⟨c, 0, none⟩)) (z := .cells (RunL 0 0).toArray 199) rfl (by simp [execOp, go_sem]) ?_
      intro c8 x1 ec8 nc8 g1
      have lc8 : w.heap.size + 1 < c8 := by have := hA1d.lt (.tail _ (.head _)); simp only at this; omega
      have hA_1 := hA1d.on g1
      have hB_1 := hB1d.trans (g1.mono hB1d.size)
      refine ⟨hA_1 _ (.head _), ?_⟩
      simp only [Act.put, List.setIfInBounds_toArray, List.set_cons_zero, List.set_cons_succ]
      refine all_two (i1 := 6) (i2 := 11) (by kernel_rfl) rfl rfl rfl rfl ?_ ?_
      · refine wp_call (d := some 28) 140 _ rfl (by kernel_rfl) (callR (HR6.out _ (hA_1 _ (.head _)))) ?_
        rintro _ x2 ⟨rfl, g2⟩
        have h8_2 := blk_on nc8 g2
        have hA_2 := hA_1.on g2
        have hB_2 := hB_1.trans (g2.mono hB_1.size)
        refine ⟨hA_2 _ (.head _), ?_⟩
        simp only [Act.put, List.setIfInBounds_toArray, List.set_cons_zero, List.set_cons_succ]
        refine all_one (i := 11) (by kernel_rfl) rfl rfl ?_
        refine wp_newX (d := some 7) (v := fun c => .pointer (some ⟨c, 0, none⟩)) (z := .cells (RunL 0 0).toArray 199) rfl (by simp [execOp, go_sem]) ?_
        intro c7 x3 ec7 nc7 g3
        have lc7 : w.heap.size + 1 < c7 := by have := hA_2.lt (.tail _ (.head _)); simp only at this; omega
        have h8_3 := blk_on h8_2 g3
        have ne78 : c8 ≠ c7 := by have := (Array.getElem?_eq_some_iff.1 h8_2).1; omega
        have hA_3 := hA_2.on g3
        have hB_3 := hB_2.trans (g3.mono hB_2.size)
        refine ⟨hA_3 _ (.head _), ?_⟩
        simp only [Act.put, List.setIfInBounds_toArray, List.set_cons_zero, List.set_cons_succ]
        obtain ⟨w7, hst7, _, hc7, hon7⟩ := run_store nc7 rfl (a : Int) (u6 : Int)
        have hA7 := HasAll.only (c := c7) hA_3 hon7 (by intro p hp; rcases hp with _ | ⟨_, _ | ⟨_, hp⟩⟩ <;> first | omega | cases hp)
        have h87 : w7.heap[c8]? = some (.cells (RunL 0 0).toArray 199) := (hon7.other c8 (by omega)).trans h8_3
        refine all_one (i := 13) (by kernel_rfl) rfl rfl ?_
        refine wp_storeA (.tmp 7) (.tmp 28) 199 rfl rfl rfl rfl hst7 ⟨hA7 _ (.head _), ?_⟩
        obtain ⟨w8, hst8, _, hc8, hon8⟩ := run_store h87 rfl (b : Int) (v : Int)
        have hA8 := HasAll.only (c := c8) hA7 hon8 (by intro p hp; rcases hp with _ | ⟨_, _ | ⟨_, hp⟩⟩ <;> first | omega | cases hp)
        have hc78 := (hon8.other c7 (by omega)).trans hc7
        refine all_one (i := 14) (by kernel_rfl) rfl rfl ?_
        refine wp_storeA (.tmp 8) (.tmp 32) 199 rfl rfl rfl rfl hst8 ⟨hA8 _ (.head _), ?_⟩
        refine wpAnyH_done (by kernel_rfl) ?_ _
        exact ⟨c7, c8, rfl, (hA8.cons hc78).cons hc8, (hB_3.trans (hon7.below (by omega))).trans (hon8.below (by omega))⟩
      · refine wp_newX (d := some 7) (v := fun c => .pointer (some ⟨c, 0, none⟩)) (z := .cells (RunL 0 0).toArray 199) rfl (by simp [execOp, go_sem]) ?_
        intro c7 x2 ec7 nc7 g2
        have lc7 : w.heap.size + 1 < c7 := by have := hA_1.lt (.tail _ (.head _)); simp only at this; omega
        have h8_2 := blk_on nc8 g2
        have ne78 : c8 ≠ c7 := by have := (Array.getElem?_eq_some_iff.1 nc8).1; omega
        have hA_2 := hA_1.on g2
        have hB_2 := hB_1.trans (g2.mono hB_1.size)
        refine ⟨hA_2 _ (.head _), ?_⟩
        simp only [Act.put, List.setIfInBounds_toArray, List.set_cons_zero, List.set_cons_succ]
        refine all_one (i := 6) (by kernel_rfl) rfl rfl ?_
        refine wp_call (d := some 28) 140 _ rfl (by kernel_rfl) (callR (HR6.out _ (hA_2 _ (.head _)))) ?_
        rintro _ x3 ⟨rfl, g3⟩
        have h7_3 := blk_on nc7 g3
        have h8_3 := blk_on h8_2 g3
        have hA_3 := hA_2.on g3
        have hB_3 := hB_2.trans (g3.mono hB_2.size)
        refine ⟨hA_3 _ (.head _), ?_⟩
        simp only [Act.put, List.setIfInBounds_toArray, List.set_cons_zero, List.set_cons_succ]
        obtain ⟨w7, hst7, _, hc7, hon7⟩ := run_store h7_3 rfl (a : Int) (u6 : Int)
        have hA7 := HasAll.only (c := c7) hA_3 hon7 (by intro p hp; rcases hp with _ | ⟨_, _ | ⟨_, hp⟩⟩ <;> first | omega | cases hp)
        have h87 : w7.heap[c8]? = some (.cells (RunL 0 0).toArray 199) := (hon7.other c8 (by omega)).trans h8_3
        refine all_one (i := 13) (by kernel_rfl) rfl rfl ?_
        refine wp_storeA (.tmp 7) (.tmp 28) 199 rfl rfl rfl rfl hst7 ⟨hA7 _ (.head _), ?_⟩
        obtain ⟨w8, hst8, _, hc8, hon8⟩ := run_store h87 rfl (b : Int) (v : Int)
        have hA8 := HasAll.only (c := c8) hA7 hon8 (by intro p hp; rcases hp with _ | ⟨_, _ | ⟨_, hp⟩⟩ <;> first | omega | cases hp)
        have hc78 := (hon8.other c7 (by omega)).trans hc7
        refine all_one (i := 14) (by kernel_rfl) rfl rfl ?_
        refine wp_storeA (.tmp 8) (.tmp 32) 199 rfl rfl rfl rfl hst8 ⟨hA8 _ (.head _), ?_⟩
        refine wpAnyH_done (by kernel_rfl) ?_ _
        exact ⟨c7, c8, rfl, (hA8.cons hc78).cons hc8, (hB_3.trans (hon7.below (by omega))).trans (hon8.below (by omega))⟩
  rintro a' w2 ⟨c7, c8, rfl, hA2, hB2⟩
  simp only [Act.put, List.setIfInBounds_toArray, List.set_cons_zero, List.set_cons_succ]
  clear hA1 hA1d hB1d hBy HR6
  have hb9 := blk_new w2 (.cells zeroEL.toArray 69)
  have hB3 := hB2.trans ((bA w2 (.cells zeroEL.toArray 69)).mono hB2.size)
  have hA3 := hA2.on (bA w2 (.cells zeroEL.toArray 69))
  have l7 := hA2.lt (.tail _ (.head _))
  have l8 := hA2.lt (.head _)
  have lR := hA2.lt (.tail _ (.tail _ (.tail _ (.head _))))
  simp only at l7 l8 lR
  have hNE : ∀ p ∈ [(c8, .cells (RunL b v).toArray 199), (c7, .cells (RunL a u6).toArray 199), (w.heap.size, RO r), (w.heap.size + 1, .cells zeroEL.toArray 69)], p.1 ≠ w2.heap.size := by
    intro p hp
    have := hA2.lt hp
    omega
  have HNE : Hid _ := hNE
  clear hNE
  generalize hW3 : w2.alloc (.cells zeroEL.toArray 69) = W3 at *
  have hb9 : W3.heap[w2.heap.size]? = some (EO zeroEd) := hb9
  have hd3 : Below W3.heap.size W3 W3.drew := (Below.refl _ W3).drew
  have hA3d := hA3.on hd3
  have hb9d := blk_on hb9 hd3
  have hB3d := hB3.trans (hd3.mono hB3.size)
  go_wp2_with fail
  refine wp_region_held (S := fun W => HasAll [(c8, .cells (RunL b v).toArray 199), (c7, .cells (RunL a u6).toArray 199), (w.heap.size, RO r), (w.heap.size + 1, .cells zeroEL.toArray 69)] W) (by kernel_rfl) ?_
  show wpAnyH _ _ _ _ _ 13 (Array.replicate 13 false) _ W3.drew
  refine take_one (i := 0) (d := some 33) (v := RunV a u6) rfl rfl rfl (by kernel_rfl) (by kernel_rfl) (by kernel_rfl) (fun _ _ d _ _ h => by cases d <;> exact h) (fun W hS => ex_loadA (.tmp 7) 199 rfl rfl (load_run (hS _ (.tail _ (.head _))))) hA3d ?_
  simp only [Act.put, List.setIfInBounds_toArray, List.set_cons_zero, List.set_cons_succ]
  refine take_one (i := 1) (d := some 34) (v := RunV b v) rfl rfl rfl (by kernel_rfl) (by kernel_rfl) (by kernel_rfl) (fun _ _ d _ _ h => by cases d <;> exact h) (fun W hS => ex_loadA (.tmp 8) 199 rfl rfl (load_run (hS _ (.head _)))) hA3d ?_
  simp only [Act.put, List.setIfInBounds_toArray, List.set_cons_zero, List.set_cons_succ]
  refine take_one (i := 4) (d := some 37) (v := .pointer (some ⟨w.heap.size, 0, none⟩)) rfl rfl rfl (by kernel_rfl) (by kernel_rfl) (by kernel_rfl) (fun _ _ d _ _ h => by cases d <;> exact h) (fun W hS => by kernel_rfl) hA3d ?_
  simp only [Act.put, List.setIfInBounds_toArray, List.set_cons_zero, List.set_cons_succ]
  refine take_one (i := 5) (d := some 38) (v := .pointer (some ⟨w.heap.size, 16, none⟩)) rfl rfl rfl (by kernel_rfl) (by kernel_rfl) (by kernel_rfl) (fun _ _ d _ _ h => by cases d <;> exact h) (fun W hS => by kernel_rfl) hA3d ?_
  simp only [Act.put, List.setIfInBounds_toArray, List.set_cons_zero, List.set_cons_succ]
  refine take_one (i := 6) (d := some 39) (v := .int .i64 (a : Nat)) rfl rfl rfl (by kernel_rfl) (by kernel_rfl) (by kernel_rfl) (fun _ _ d _ _ h => by cases d <;> exact h) (fun W hS => ex_loadC 38 rfl rfl (HC16.out W (hS _ (.tail _ (.tail _ (.head _)))))) hA3d ?_
  simp only [Act.put, List.setIfInBounds_toArray, List.set_cons_zero, List.set_cons_succ]
  refine take_one (i := 7) (d := some 40) (v := .pointer (some ⟨w.heap.size, 22, none⟩)) rfl rfl rfl (by kernel_rfl) (by kernel_rfl) (by kernel_rfl) (fun _ _ d _ _ h => by cases d <;> exact h) (fun W hS => by kernel_rfl) hA3d ?_
  simp only [Act.put, List.setIfInBounds_toArray, List.set_cons_zero, List.set_cons_succ]
  refine take_one (i := 8) (d := some 41) (v := .int .i64 (b : Nat)) rfl rfl rfl (by kernel_rfl) (by kernel_rfl) (by kernel_rfl) (fun _ _ d _ _ h => by cases d <;> exact h) (fun W hS => ex_loadC 40 rfl rfl (HC22.out W (hS _ (.tail _ (.tail _ (.head _)))))) hA3d ?_
  simp only [Act.put, List.setIfInBounds_toArray, List.set_cons_zero, List.set_cons_succ]
  refine take_one (i := 9) (d := some 42) (v := .int .i64 ((a : Int) + (b : Int))) rfl rfl rfl (by kernel_rfl) (by kernel_rfl) (by kernel_rfl) (fun _ _ d _ _ h => by cases d <;> exact h) (fun W hS => ex_addC (.tmp 39) (.tmp 41) rfl rfl rfl (by omega)) hA3d ?_
  simp only [Act.put, List.setIfInBounds_toArray, List.set_cons_zero, List.set_cons_succ]
  refine all_one (i := 2) (by kernel_rfl) rfl rfl ?_
  refine wp_newX (d := some 35) (v := fun c => .slice (some ⟨c, 0, none⟩) 2 2) (z := .cells (run2L a u6 b v).toArray 199) rfl (by kernel_rfl) ?_
  intro ck W4 eck nck g4
  have hA4 := hA3d.on g4
  have hb94 := blk_on hb9d g4
  have hB4 := hB3d.trans (g4.mono hB3d.size)
  refine ⟨hA4, ?_⟩
  simp only [Act.put, List.setIfInBounds_toArray, List.set_cons_zero, List.set_cons_succ]
  refine all_one (i := 3) (by kernel_rfl) rfl rfl ?_
  refine wp_call (d := some 36) 141 _ rfl (by kernel_rfl) (callR (six2 nck (by omega) hu6 (by omega) hv (by omega) HSE.out)) ?_
  rintro _ W5 ⟨rfl, g5⟩
  have hA5 := hA4.on g5
  have hb95 := blk_on hb94 g5
  have hB5 := hB4.trans (g5.mono hB4.size)
  refine ⟨hA5, ?_⟩
  simp only [Act.put, List.setIfInBounds_toArray, List.set_cons_zero, List.set_cons_succ]
  refine take_one (i := 10) (d := some 43) (v := P6 l6e ((a : Int) + (b : Int))) rfl rfl rfl (by kernel_rfl) (by kernel_rfl) (by kernel_rfl) (fun _ _ d _ _ h => by cases d <;> exact h) (fun W hS => ex_buildA 26 [(0, .tmp 36), (1, .tmp 42)] rfl rfl (build6 l6e _ e6k _)) hA5 ?_
  simp only [Act.put, List.setIfInBounds_toArray, List.set_cons_zero, List.set_cons_succ]
  refine take_one (i := 11) (d := some 44) (v := .pointer (some ⟨w2.heap.size, 8, none⟩)) rfl rfl rfl (by kernel_rfl) (by kernel_rfl) (by kernel_rfl) (fun _ _ d _ _ h => by cases d <;> exact h) (fun W hS => by kernel_rfl) hA5 ?_
  simp only [Act.put, List.setIfInBounds_toArray, List.set_cons_zero, List.set_cons_succ]
  obtain ⟨W6, hst6, hb96, hon6⟩ := box_part Tryz.sizeOf26 hb95 (cp6 l6e ((a : Int) + (b : Int))) (cp6_length _ _ e6k) (o := 8) (by rw [edC_length rfl rfl rfl]; omega) (cp6_one _ _)
  rw [ed_end rfl l6e _ rfl] at hb96
  have hA6 := hA5.only hon6 HNE.out
  have hB6 := hB5.trans (hon6.below (by omega))
  refine all_one (i := 12) (by kernel_rfl) rfl rfl ?_
  refine wp_storeA (.tmp 44) (.tmp 43) 26 rfl rfl rfl rfl hst6 ⟨hA6, ?_⟩
  refine wpAnyH_done (by kernel_rfl) ?_ _
  generalize hed1 : ({ zeroEd with l6 := l6e, n6 := (a : Int) + (b : Int) } : Ed) = ed1 at hb96
  have q14 : ed1.l4.length = 4 := by rw [← hed1]; rfl
  have q16 : ed1.l6.length = 16 := by rw [← hed1]; exact e6k
  have q1w : ed1.ow.length = 16 := by rw [← hed1]; rfl
  clear hA3 hA3d hb9 hb9d hB3 hB3d hA4 hb94 hB4 hA5 hb95 hB5 hon6 hst6 g4 g5 nck eck hA2
  have hd6 : Below W6.heap.size W6 W6.drew := (Below.refl _ W6).drew
  have hA6d := hA6.on hd6
  have hb96d := blk_on hb96 hd6
  have hB6d := hB6.trans (hd6.mono hB6.size)
  go_wp2_with fail
  refine wp_region_held (S := fun W => HasAll [(c8, .cells (RunL b v).toArray 199), (c7, .cells (RunL a u6).toArray 199), (w.heap.size, RO r), (w.heap.size + 1, .cells zeroEL.toArray 69)] W) (by kernel_rfl) ?_
  show wpAnyH _ _ _ _ _ 22 (Array.replicate 22 false) _ W6.drew
  refine take_one (i := 0) (d := some 45) (v := .pointer (some ⟨w.heap.size, 17, none⟩)) rfl rfl rfl (by kernel_rfl) (by kernel_rfl) (by kernel_rfl) (fun _ _ d _ _ h => by cases d <;> exact h) (fun W hS => by kernel_rfl) hA6d ?_
  simp only [Act.put, List.setIfInBounds_toArray, List.set_cons_zero, List.set_cons_succ]
  refine take_one (i := 1) (d := some 46) (v := .pointer (some ⟨w.heap.size, 17, none⟩)) rfl rfl rfl (by kernel_rfl) (by kernel_rfl) (by kernel_rfl) (fun _ _ d _ _ h => by cases d <;> exact h) (fun W hS => by kernel_rfl) hA6d ?_
  simp only [Act.put, List.setIfInBounds_toArray, List.set_cons_zero, List.set_cons_succ]
  refine take_one (i := 2) (d := some 47) (v := .slice (some ⟨w.heap.size, 17, none⟩) 4 4) rfl rfl rfl (by kernel_rfl) (by kernel_rfl) (by kernel_rfl) (fun _ _ d _ _ h => by cases d <;> exact h) (fun W hS => by kernel_rfl) hA6d ?_
  simp only [Act.put, List.setIfInBounds_toArray, List.set_cons_zero, List.set_cons_succ]
  refine take_one (i := 3) (d := some 48) (v := .pointer (some ⟨w.heap.size, 17, none⟩)) rfl rfl rfl (by kernel_rfl) (by kernel_rfl) (by kernel_rfl) (fun _ _ d _ _ h => by cases d <;> exact h) (fun W hS => by kernel_rfl) hA6d ?_
  simp only [Act.put, List.setIfInBounds_toArray, List.set_cons_zero, List.set_cons_succ]
  refine take_one (i := 4) (d := some 49) (v := .pointer (some ⟨w.heap.size, 21, none⟩)) rfl rfl rfl (by kernel_rfl) (by kernel_rfl) (by kernel_rfl) (fun _ _ d _ _ h => by cases d <;> exact h) (fun W hS => by kernel_rfl) hA6d ?_
  simp only [Act.put, List.setIfInBounds_toArray, List.set_cons_zero, List.set_cons_succ]
  refine take_one (i := 5) (d := some 50) (v := .int .i64 (d : Nat)) rfl rfl rfl (by kernel_rfl) (by kernel_rfl) (by kernel_rfl) (fun _ _ d _ _ h => by cases d <;> exact h) (fun W hS => ex_loadC 49 rfl rfl (HC21.out W (hS _ (.tail _ (.tail _ (.head _)))))) hA6d ?_
  simp only [Act.put, List.setIfInBounds_toArray, List.set_cons_zero, List.set_cons_succ]
  refine take_one (i := 7) (d := some 52) (v := RV r) rfl rfl rfl (by kernel_rfl) (by kernel_rfl) (by kernel_rfl) (fun _ _ d _ _ h => by cases d <;> exact h) (fun W hS => ex_loadA (.tmp 2) 65 rfl rfl (HLDR.out W (hS _ (.tail _ (.tail _ (.head _)))))) hA6d ?_
  simp only [Act.put, List.setIfInBounds_toArray, List.set_cons_zero, List.set_cons_succ]
  refine take_one (i := 9) (d := some 54) (v := .int .u64 (host : Nat)) rfl rfl rfl (by kernel_rfl) (by kernel_rfl) (by kernel_rfl) (fun _ _ d _ _ h => by cases d <;> exact h) (fun W hS => by kernel_rfl) hA6d ?_
  simp only [Act.put, List.setIfInBounds_toArray, List.set_cons_zero, List.set_cons_succ]
  refine take_one (i := 13) (d := some 58) (v := .pointer (some ⟨w.heap.size, 17, none⟩)) rfl rfl rfl (by kernel_rfl) (by kernel_rfl) (by kernel_rfl) (fun _ _ d _ _ h => by cases d <;> exact h) (fun W hS => by kernel_rfl) hA6d ?_
  simp only [Act.put, List.setIfInBounds_toArray, List.set_cons_zero, List.set_cons_succ]
  refine take_one (i := 14) (d := some 59) (v := .pointer (some ⟨w.heap.size, 21, none⟩)) rfl rfl rfl (by kernel_rfl) (by kernel_rfl) (by kernel_rfl) (fun _ _ d _ _ h => by cases d <;> exact h) (fun W hS => by kernel_rfl) hA6d ?_
  simp only [Act.put, List.setIfInBounds_toArray, List.set_cons_zero, List.set_cons_succ]
  refine take_one (i := 15) (d := some 60) (v := .int .i64 (d : Nat)) rfl rfl rfl (by kernel_rfl) (by kernel_rfl) (by kernel_rfl) (fun _ _ d _ _ h => by cases d <;> exact h) (fun W hS => ex_loadC 59 rfl rfl (HC21.out W (hS _ (.tail _ (.tail _ (.head _)))))) hA6d ?_
  simp only [Act.put, List.setIfInBounds_toArray, List.set_cons_zero, List.set_cons_succ]
  refine take_one (i := 16) (d := some 61) (v := RV r) rfl rfl rfl (by kernel_rfl) (by kernel_rfl) (by kernel_rfl) (fun _ _ d _ _ h => by cases d <;> exact h) (fun W hS => ex_loadA (.tmp 2) 65 rfl rfl (HLDR.out W (hS _ (.tail _ (.tail _ (.head _)))))) hA6d ?_
  simp only [Act.put, List.setIfInBounds_toArray, List.set_cons_zero, List.set_cons_succ]
  refine all_one (i := 6) (by kernel_rfl) rfl rfl ?_
  refine wp_call (d := some 51) 140 _ rfl (by kernel_rfl) (callR (HR4.out _ (hA6d _ (.tail _ (.tail _ (.head _)))))) ?_
  rintro _ W7 ⟨rfl, g7⟩
  have hA7 := hA6d.on g7
  have hb97 := blk_on hb96d g7
  have hB7 := hB6d.trans (g7.mono hB6d.size)
  refine ⟨hA7, ?_⟩
  simp only [Act.put, List.setIfInBounds_toArray, List.set_cons_zero, List.set_cons_succ]
  refine all_one (i := 8) (by kernel_rfl) rfl rfl ?_
  refine wp_call (d := some 53) 137 _ rfl (by kernel_rfl) (callR (HHB.out _)) ?_
  rintro _ W8 ⟨rfl, g8⟩
  have hA8 := hA7.on g8
  have hb98 := blk_on hb97 g8
  have hB8 := hB7.trans (g8.mono hB7.size)
  refine ⟨hA8, ?_⟩
  simp only [Act.put, List.setIfInBounds_toArray, List.set_cons_zero, List.set_cons_succ]
  refine take_one (i := 10) (d := some 55) (v := RunV h host) rfl rfl rfl (by kernel_rfl) (by kernel_rfl) (by kernel_rfl) (fun _ _ d _ _ h => by cases d <;> exact h) (fun W hS => by kernel_rfl) hA8 ?_
  simp only [Act.put, List.setIfInBounds_toArray, List.set_cons_zero, List.set_cons_succ]
  refine all_one (i := 11) (by kernel_rfl) rfl rfl ?_
  refine wp_newX (d := some 56) (v := fun c => .slice (some ⟨c, 0, none⟩) 2 2) (z := .cells (run2L d u4 h host).toArray 199) rfl (by kernel_rfl) ?_
  intro ck W9 eck nck g9
  have hA9 := hA8.on g9
  have hb99 := blk_on hb98 g9
  have hB9 := hB8.trans (g9.mono hB8.size)
  refine ⟨hA9, ?_⟩
  simp only [Act.put, List.setIfInBounds_toArray, List.set_cons_zero, List.set_cons_succ]
  refine all_one (i := 12) (by kernel_rfl) rfl rfl ?_
  refine wp_call (d := some 57) 142 _ rfl (by kernel_rfl) (callR (four2 nck (by omega) hu4 (by omega) hvq (by omega) HFV.out)) ?_
  rintro _ W10 ⟨rfl, g10⟩
  have hA10 := hA9.on g10
  have hb910 := blk_on hb99 g10
  have hB10 := hB9.trans (g10.mono hB9.size)
  refine ⟨hA10, ?_⟩
  simp only [Act.put, List.setIfInBounds_toArray, List.set_cons_zero, List.set_cons_succ]
  refine all_one (i := 17) (by kernel_rfl) rfl rfl ?_
  refine wp_call (d := some 62) 137 _ rfl (by kernel_rfl) (callR (HHB.out _)) ?_
  rintro _ W11 ⟨rfl, g11⟩
  have hA11 := hA10.on g11
  have hb911 := blk_on hb910 g11
  have hB11 := hB10.trans (g11.mono hB10.size)
  refine ⟨hA11, ?_⟩
  simp only [Act.put, List.setIfInBounds_toArray, List.set_cons_zero, List.set_cons_succ]
  refine take_one (i := 18) (d := some 63) (v := .int .i64 ((d : Int) + (h : Int))) rfl rfl rfl (by kernel_rfl) (by kernel_rfl) (by kernel_rfl) (fun _ _ d _ _ h => by cases d <;> exact h) (fun W hS => ex_addC (.tmp 60) (.tmp 62) rfl rfl rfl (by omega)) hA11 ?_
  simp only [Act.put, List.setIfInBounds_toArray, List.set_cons_zero, List.set_cons_succ]
  refine take_one (i := 19) (d := some 64) (v := P4L l4e ((d : Int) + (h : Int))) rfl rfl rfl (by kernel_rfl) (by kernel_rfl) (by kernel_rfl) (fun _ _ d _ _ h => by cases d <;> exact h) (fun W hS => ex_buildA 63 [(0, .tmp 57), (1, .tmp 63)] rfl rfl (build4L l4e _ e4k _)) hA11 ?_
  simp only [Act.put, List.setIfInBounds_toArray, List.set_cons_zero, List.set_cons_succ]
  refine take_one (i := 20) (d := some 65) (v := .pointer (some ⟨w2.heap.size, 0, none⟩)) rfl rfl rfl (by kernel_rfl) (by kernel_rfl) (by kernel_rfl) (fun _ _ d _ _ h => by cases d <;> exact h) (fun W hS => by kernel_rfl) hA11 ?_
  simp only [Act.put, List.setIfInBounds_toArray, List.set_cons_zero, List.set_cons_succ]
  obtain ⟨W12, hst12, hb912, hon12⟩ := box_part Tryz.sizeOf63 hb911 (cp4 l4e ((d : Int) + (h : Int))) (cp4_length _ _ e4k) (o := 0) (by rw [edC_length q14 q16 q1w]; omega) (cp4_one _ _)
  rw [ed_v4 q14 l4e _] at hb912
  have hA12 := hA11.only hon12 HNE.out
  have hB12 := hB11.trans (hon12.below (by omega))
  refine all_one (i := 21) (by kernel_rfl) rfl rfl ?_
  refine wp_storeA (.tmp 65) (.tmp 64) 63 rfl rfl rfl rfl hst12 ⟨hA12, ?_⟩
  refine wpAnyH_done (by kernel_rfl) ?_ _
  have hed2 : ({ ed1 with l4 := l4e, n4 := (d : Int) + (h : Int) } : Ed) = ⟨l4e, (d : Int) + (h : Int), 0, 0, 0, l6e, (a : Int) + (b : Int), zeroEd.ow⟩ := by rw [← hed1]; rfl
  rw [hed2] at hb912
  clear hA6 hA6d hb96 hb96d hB6 hB6d hA7 hb97 hB7 hA8 hb98 hB8 hA9 hb99 hB9 hA10 hb910 hB10 hA11 hb911 hB11 hon12 hst12 g7 g8 g9 g10 g11 nck eck hed1 hed2 q14 q16 q1w ed1 HHB HR4 HC21 HC22 HC16 HFV HSE
  have HL12 : Hid _ := HLDR.out W12 (hA12 _ (.tail _ (.tail _ (.head _))))
  go_wp2_with first
    | ((with_reducible show wpList _ _ _ _ _ _); refine armL (.tmp 2) 65 rfl rfl rfl HL12.out ?_)
  refine (HSH.out _).mono ?_
  rintro e W13 ⟨rfl, g13⟩
  have hA13 := hA12.on g13
  have hb913 := blk_on hb912 g13
  have hB13 := hB12.trans (g13.mono hB12.size)
  clear hA12 hb912 hB12 HSH g13
  have hmid : ∀ X : World, HasAll [(c8, .cells (RunL b v).toArray 199), (c7, .cells (RunL a u6).toArray 199), (w.heap.size, RO r), (w.heap.size + 1, .cells zeroEL.toArray 69)] X → X.heap[w2.heap.size]? = some (EO ⟨l4e, (d : Int) + (h : Int), oo, q, (pid : Nat), l6e, (a : Int) + (b : Int), zeroEd.ow⟩) → Below w.heap.size w X → True := fun _ _ _ _ => trivial
  clear hmid
  by_cases hq : 0 < q
  focus
    have hq1 : decide (0 < q) = true := decide_eq_true hq
    have HL13 : Hid _ := HLDR.out W13 (hA13 _ (.tail _ (.tail _ (.head _))))
    rw [hq1]
    go_wp2_with first
      | ((with_reducible show wpList _ _ _ _ _ _); refine armL (.tmp 2) 65 rfl rfl rfl HL13.out ?_)
    refine (HAS.out _).mono ?_
    rintro e W14 ⟨rfl, g14⟩
    have hA14 := hA13.on g14
    have hb914 := blk_on hb913 g14
    have hB14 := hB13.trans (g14.mono hB13.size)
    obtain ⟨W15, hst15, hb915, hon15⟩ := box_part Tryz.sizeOf67 hb914 (PSL o q 0) rfl (o := 5) (by rw [edC_length e4k e6k rfl]; omega) (by simp [PSL, Value.oneCell'])
    rw [ed_set e4k o q 0] at hb915
    have hA15 := hA14.only hon15 HNE.out
    have hB15 := hB14.trans (hon15.below (by omega))
    have HST15 : Hid _ := hst15
    have ff := fun j => blk_open hb915 j
    have c7f : W15.cell? ⟨w2.heap.size, 7, none⟩ = some (.int .u16 0) := (EdAt.of (e := ⟨l4e, (d : Int) + (h : Int), (o : Int), (q : Int), 0, l6e, (a : Int) + (b : Int), zeroEd.ow⟩) e4k e6k rfl hb915).c7
    have hb916 := blk_set hb915 7 (.int .u16 pid)
    rw [ed_pid e4k] at hb916
    have hon16 := (Only.refl w2.heap.size W15).set 7 (.int .u16 pid)
    have hA16 := hA15.only hon16 HNE.out
    have hB16 := hB15.trans (hon16.below (by omega))
    have hoo : oo = o := by rw [HOO.out]; exact if_pos hq
    have hwp : IntKind.u16.wrap (pid : Int) = pid := by rw [wrap_u16]; omega
    have HX : Hid (HasAll [(c8, .cells (RunL b v).toArray 199), (c7, .cells (RunL a u6).toArray 199), (w.heap.size, RO r), (w.heap.size + 1, .cells zeroEL.toArray 69)] (W15.setCell ⟨w2.heap.size, 7, none⟩ (.int .u16 pid)) ∧ (W15.setCell ⟨w2.heap.size, 7, none⟩ (.int .u16 pid)).heap[w2.heap.size]? = some (EO ⟨l4e, (d : Int) + (h : Int), oo, q, (pid : Nat), l6e, (a : Int) + (b : Int), zeroEd.ow⟩) ∧ Below w.heap.size w (W15.setCell ⟨w2.heap.size, 7, none⟩ (.int .u16 pid))) := ⟨hA16, by rw [hoo]; exact hb916, hB16⟩
    clear hA13 hb913 hB13 hA14 hb914 hB14 hst15 hb915 hon15 hA15 hB15 hb916 hon16 hA16 hB16 g14 hoo hq hq1 HL13
    generalize hX : W15.setCell ⟨w2.heap.size, 7, none⟩ (.int .u16 pid) = X at HX
    obtain ⟨hAX, hbX, hBX⟩ := HX.out
    have c24 : X.cell? ⟨w2.heap.size, 24, none⟩ = some (.int .i64 ((a : Int) + (b : Int))) := (EdAt.of e4k e6k rfl hbX).c24
    have hBX2 := hBX
    clear HX
  rotate_left
  focus
    have hq1 : decide (0 < q) = false := decide_eq_false hq
    rw [hq1]
    have hq0 : q = 0 := by omega
    have hp0 := HPID.out hq0
    have hbX : W13.heap[w2.heap.size]? = some (EO ⟨l4e, (d : Int) + (h : Int), oo, q, (pid : Nat), l6e, (a : Int) + (b : Int), zeroEd.ow⟩) := by
      rw [show oo = 0 by rw [HOO.out]; exact if_neg hq, hp0, hq0]
      exact hb913
    have hAX := hA13
    have hBX := hB13
    have HST15 : Hid True := trivial
    clear hA13 hb913 hB13 hq0 hp0 hq1
    obtain ⟨X, hX⟩ : ∃ X, X = W13 := ⟨_, rfl⟩
    rw [← hX] at hAX hbX hBX ⊢
    have c24 : X.cell? ⟨w2.heap.size, 24, none⟩ = some (.int .i64 ((a : Int) + (b : Int))) := (EdAt.of e4k e6k rfl hbX).c24
    clear hX hq
  all_goals
    have hwr : (64 : Int) - ((a : Int) + (b : Int)) = (cc : Int) := by have := HCC.out; omega
    obtain ⟨hz10, hz11, hBz⟩ := two_box' X (.cells (RunL 0 0).toArray 199) (.cells (RunL 0 0).toArray 199)
    have hlX := hBX.size
    have l9 := (Array.getElem?_eq_some_iff.1 hbX).1
    have hAX2 := hAX.on hBz
    have hbX2 := blk_on hbX hBz
    have hBX2 := hBX.trans (hBz.mono hBX.size)
    have hNX : ∀ k, X.heap.size ≤ k → ∀ p ∈ [(c8, .cells (RunL b v).toArray 199), (c7, .cells (RunL a u6).toArray 199), (w.heap.size, RO r), (w.heap.size + 1, .cells zeroEL.toArray 69)], p.1 ≠ k := fun k hk p hp => by have := hAX.lt hp; omega
    generalize hX2 : (X.alloc (.cells (RunL 0 0).toArray 199)).alloc (.cells (RunL 0 0).toArray 199) = X2 at *
    obtain ⟨X3, hst10, -, hc10, hon10⟩ := run_store hz10 rfl (cc : Int) 0
    have h11 := (hon10.other (X.heap.size + 1) (by omega)).trans hz11
    obtain ⟨X4, hst11, -, hc11, hon11⟩ := run_store h11 rfl 16 0
    have hc104 := (hon11.other X.heap.size (by omega)).trans hc10
    have hAX4 := (hAX2.only hon10 (hNX _ (Nat.le_refl _))).only hon11 (hNX _ (Nat.le_succ _))
    have hbX4 := (hon11.other _ (by omega)).trans ((hon10.other _ (by omega)).trans hbX2)
    have hBX4 := (hBX2.trans (hon10.below (by omega))).trans (hon11.below (by omega))
    have hLr : HasAll [(X.heap.size + 1, .cells (RunL 16 0).toArray 199), (X.heap.size, .cells (RunL (cc : Int) 0).toArray 199), (c8, .cells (RunL b v).toArray 199), (c7, .cells (RunL a u6).toArray 199)] X4 := ((((HasAll.nil _).cons (hAX4 _ (.tail _ (.head _)))).cons (hAX4 _ (.head _))).cons hc104).cons hc11
    have HST10 : Hid _ := hst10
    have HST11 : Hid _ := hst11
    have hd4 : Below X4.heap.size X4 X4.drew := (Below.refl _ X4).drew
    have HZ1 : Hid _ := hAX4.on hd4
    have HZ2 : Hid _ := blk_on hbX4 hd4
    have HZ3 : Hid _ := hBX4.trans (hd4.mono hBX4.size)
    have HZ4 : Hid _ := hLr.on hd4
    have HNX : Hid _ := l9
    clear hst10 hst11 hz10 hz11 hBz hAX2 hbX2 hBX2 h11 hc10 hc11 hc104 hAX4 hbX4 hBX4 hLr hd4 hNX hAX hbX hBX hon10 hon11
    go_wp2_with first
      | ((with_reducible show wpList _ _ _ _ _ _); refine armS (.tmp 70) (.tmp 69) 67 rfl rfl rfl rfl HST15.out ?_)
      | ((with_reducible show wpList _ _ _ _ _ _); refine armS (.tmp 10) (.tmp 79) 199 rfl rfl rfl rfl HST10.out ?_)
      | ((with_reducible show wpList _ _ _ _ _ _); refine armS (.tmp 11) (.tmp 80) 199 rfl rfl rfl rfl HST11.out ?_)
    have hA4 := HZ1.out
    have hb4 := HZ2.out
    have hB4 := HZ3.out
    have hL4 := HZ4.out
    refine wp_region_held (S := fun W => HasAll [(X.heap.size + 1, .cells (RunL 16 0).toArray 199), (X.heap.size, .cells (RunL (cc : Int) 0).toArray 199), (c8, .cells (RunL b v).toArray 199), (c7, .cells (RunL a u6).toArray 199)] W) (by kernel_rfl) ?_
    show wpAnyH _ _ _ _ _ 14 (Array.replicate 14 false) _ X4.drew
    refine take_one (i := 0) (d := some 81) (v := RunV a u6) rfl rfl rfl (by kernel_rfl) (by kernel_rfl) (by kernel_rfl) (fun _ _ d _ _ h => by cases d <;> exact h) (fun W hS => ex_loadA (.tmp 7) 199 rfl rfl (load_run (hS _ (.tail _ (.tail _ (.tail _ (.head _))))))) hL4 ?_
    simp only [Act.put, List.setIfInBounds_toArray, List.set_cons_zero, List.set_cons_succ]
    refine take_one (i := 1) (d := some 82) (v := RunV b v) rfl rfl rfl (by kernel_rfl) (by kernel_rfl) (by kernel_rfl) (fun _ _ d _ _ h => by cases d <;> exact h) (fun W hS => ex_loadA (.tmp 8) 199 rfl rfl (load_run (hS _ (.tail _ (.tail _ (.head _)))))) hL4 ?_
    simp only [Act.put, List.setIfInBounds_toArray, List.set_cons_zero, List.set_cons_succ]
    refine take_one (i := 2) (d := some 83) (v := RunV (cc : Int) 0) rfl rfl rfl (by kernel_rfl) (by kernel_rfl) (by kernel_rfl) (fun _ _ d _ _ h => by cases d <;> exact h) (fun W hS => ex_loadA (.tmp 10) 199 rfl rfl (load_run (hS _ (.tail _ (.head _))))) hL4 ?_
    simp only [Act.put, List.setIfInBounds_toArray, List.set_cons_zero, List.set_cons_succ]
    refine take_one (i := 3) (d := some 84) (v := RunV 16 0) rfl rfl rfl (by kernel_rfl) (by kernel_rfl) (by kernel_rfl) (fun _ _ d _ _ h => by cases d <;> exact h) (fun W hS => ex_loadA (.tmp 11) 199 rfl rfl (load_run (hS _ (.head _)))) hL4 ?_
    simp only [Act.put, List.setIfInBounds_toArray, List.set_cons_zero, List.set_cons_succ]
    refine take_one (i := 4) (d := some 85) (v := .pointer (some ⟨w2.heap.size, 0, none⟩)) rfl rfl rfl (by kernel_rfl) (by kernel_rfl) (by kernel_rfl) (fun _ _ d _ _ h => by cases d <;> exact h) (fun W hS => by kernel_rfl) hL4 ?_
    simp only [Act.put, List.setIfInBounds_toArray, List.set_cons_zero, List.set_cons_succ]
    refine take_one (i := 5) (d := some 86) (v := .pointer (some ⟨w2.heap.size, 0, none⟩)) rfl rfl rfl (by kernel_rfl) (by kernel_rfl) (by kernel_rfl) (fun _ _ d _ _ h => by cases d <;> exact h) (fun W hS => by kernel_rfl) hL4 ?_
    simp only [Act.put, List.setIfInBounds_toArray, List.set_cons_zero, List.set_cons_succ]
    refine take_one (i := 6) (d := some 87) (v := .slice (some ⟨w2.heap.size, 0, none⟩) 4 4) rfl rfl rfl (by kernel_rfl) (by kernel_rfl) (by kernel_rfl) (fun _ _ d _ _ h => by cases d <;> exact h) (fun W hS => by kernel_rfl) hL4 ?_
    simp only [Act.put, List.setIfInBounds_toArray, List.set_cons_zero, List.set_cons_succ]
    refine take_one (i := 8) (d := some 89) (v := .int .u64 (pid : Nat)) rfl rfl rfl (by kernel_rfl) (by kernel_rfl) (by kernel_rfl) (fun _ _ d _ _ h => by cases d <;> exact h) (fun W hS => by kernel_rfl) hL4 ?_
    simp only [Act.put, List.setIfInBounds_toArray, List.set_cons_zero, List.set_cons_succ]
    refine take_one (i := 9) (d := some 90) (v := RunV 16 pid) rfl rfl rfl (by kernel_rfl) (by kernel_rfl) (by kernel_rfl) (fun _ _ d _ _ h => by cases d <;> exact h) (fun W hS => by kernel_rfl) hL4 ?_
    simp only [Act.put, List.setIfInBounds_toArray, List.set_cons_zero, List.set_cons_succ]
    have hby := bytes_of (cap := 4) (EdAt.of e4k e6k rfl hb4).s4 e4f (Array.getElem?_eq_some_iff.1 hb4).1 (by show l4e.length ≤ 16; omega)
    have hhd : Calls Tryz.prog 140 #[.slice (some ⟨w2.heap.size, 0, none⟩) 4 4, .int .i64 32] X4.drew fun e w' => e = .returned (RunV 32 (accN l4e 0 32 : Nat)) ∧ Below X4.drew.heap.size X4.drew w' := by
      rw [e4k] at hby
      exact head_any _ l4e 32 X4.drew hby (by omega) (by omega)
    refine all_one (i := 7) (by kernel_rfl) rfl rfl ?_
    refine wp_call (d := some 88) 140 _ rfl (by kernel_rfl) (callR hhd) ?_
    rintro _ X5 ⟨rfl, g5⟩
    have hA5 := HasAll.on hA4 g5
    have hL5 := HasAll.on hL4 g5
    have hb5 := blk_on hb4 g5
    have hB5 := hB4.trans (g5.mono hB4.size)
    refine ⟨hL5, ?_⟩
    simp only [Act.put, List.setIfInBounds_toArray, List.set_cons_zero, List.set_cons_succ]
    refine all_one (i := 10) (by kernel_rfl) rfl rfl ?_
    refine wp_newX (d := some 91) (v := fun c => .slice (some ⟨c, 0, none⟩) 6 6) (z := .cells (run6L a u6 b v cc (accN l4e 0 32) pid).toArray 199) rfl (by kernel_rfl) ?_
    intro ck X6 eck nck g6
    have hA6 := HasAll.on hA5 g6
    have hL6 := HasAll.on hL5 g6
    have hb6 := blk_on hb5 g6
    have hB6 := hB5.trans (g6.mono hB5.size)
    refine ⟨hL6, ?_⟩
    simp only [Act.put, List.setIfInBounds_toArray, List.set_cons_zero, List.set_cons_succ]
    refine all_one (i := 11) (by kernel_rfl) rfl rfl ?_
    refine wp_call (d := some 92) 141 _ rfl (by kernel_rfl) (callR (six6 nck (by omega) hu6 (by omega) hv HCC.out hx4 hvp HSO.out)) ?_
    rintro _ X7 ⟨rfl, g7⟩
    have hA7 := HasAll.on hA6 g7
    have hL7 := HasAll.on hL6 g7
    have hb7 := blk_on hb6 g7
    have hB7 := hB6.trans (g7.mono hB6.size)
    refine ⟨hL7, ?_⟩
    simp only [Act.put, List.setIfInBounds_toArray, List.set_cons_zero, List.set_cons_succ]
    refine take_one (i := 12) (d := some 93) (v := .pointer (some ⟨w2.heap.size, 25, none⟩)) rfl rfl rfl (by kernel_rfl) (by kernel_rfl) (by kernel_rfl) (fun _ _ d _ _ h => by cases d <;> exact h) (fun W hS => by kernel_rfl) hL7 ?_
    simp only [Act.put, List.setIfInBounds_toArray, List.set_cons_zero, List.set_cons_succ]
    obtain ⟨X8, hst8, hb8, hon8⟩ := box_part Tryz.sizeOf24 hb7 (b8 lwe) (by rw [b8_length, ewk]) (o := 25) (by rw [edC_length e4k e6k rfl]; omega) (b8_one _)
    rw [ed_own e4k e6k rfl lwe] at hb8
    have hA8 := HasAll.only hA7 hon8 HNE.out
    have hL8 := HasAll.only hL7 hon8 (by have := HNX.out; intro p hp; rcases hp with _ | ⟨_, _ | ⟨_, _ | ⟨_, _ | ⟨_, hp⟩⟩⟩⟩ <;> first | omega | cases hp)
    have hB8 := hB7.trans (hon8.below (by omega))
    refine all_one (i := 13) (by kernel_rfl) rfl rfl ?_
    refine wp_storeA (.tmp 93) (.tmp 92) 24 rfl rfl rfl rfl hst8 ⟨hL8, ?_⟩
    refine wpAnyH_done (by kernel_rfl) ?_ _
    obtain ⟨fin, hfin⟩ : ∃ fin, fin = edC ⟨l4e, (d : Int) + (h : Int), oo, q, (pid : Nat), l6e, (a : Int) + (b : Int), lwe⟩ := ⟨_, rfl⟩
    have hb8' : X8.heap[w2.heap.size]? = some (.cells fin.toArray 69) := by rw [hfin]; exact hb8
    have hflen : fin.length = 41 := by rw [hfin]; exact edC_length e4k e6k ewk
    have hfone : ∀ x ∈ fin, x.oneCell' = true := by rw [hfin]; exact edC_one _
    have HLE : Hid _ := agg_load (t := 69) Tryz.isAgg69 Tryz.sizeOf69 hflen (CellsAt.of_blk hb8')
    have hbR : X8.heap[w.heap.size + 1]? = some (.cells zeroEL.toArray 69) := hA8 _ (.tail _ (.tail _ (.tail _ (.head _))))
    obtain ⟨wE, hstE, bE, honE⟩ := box_store Tryz.sizeOf69 hbR rfl fin hflen hfone
    have HLV : Hid _ := agg_loadVar (t := 69) Tryz.isAgg69 Tryz.sizeOf69 hflen (CellsAt.of_blk bE)
    have HSTE : Hid _ := hstE
    have HBE : Hid (Below w.heap.size w wE) := hB8.trans (honE.below (by omega))
    have HFIN : Hid _ := hfin
    clear hstE bE honE hbR hA4 hb4 hB4 hL4 hA5 hL5 hb5 hB5 hA6 hL6 hb6 hB6 hA7 hL7 hb7 hB7 hA8 hL8 hb8 hb8' hB8 hst8 hon8 nck eck g5 g6 g7 hfin hflen hfone
    go_wp2_with first
      | ((with_reducible show wpList _ _ _ _ _ _); refine armL (.tmp 9) 69 rfl rfl rfl HLE.out ?_)
      | ((with_reducible show wpList _ _ _ _ _ _); refine armS (.tmp 4) (.tmp 94) 69 rfl rfl rfl rfl HSTE.out ?_)
    refine bodyPost_ret (res_cell1 Tryz.results100 rfl HLV.out) rfl ?_
    rw [← HQ.out]
    exact ⟨by rw [HFIN.out], HBE.out⟩


end Go.Proofs.YtaebknkjhhcneaaGreatDoor
