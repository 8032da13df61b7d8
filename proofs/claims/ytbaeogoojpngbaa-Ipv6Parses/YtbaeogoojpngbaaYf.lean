/-
  fragHead of package ipv6.
-/
import Derived.Test.YtbaeogoojpngbaaYe
namespace Go.Proofs.Ytbaeogoojpngbaa
open Go Go.RowKit
set_option linter.unusedVariables false
set_option linter.unusedSimpArgs false

section
variable {S : Nat → Prop} {W : World} {R : Nat} {rest : List Int} {at' : Nat} {c : List Value} {nx : Int} {left : Value}
set_option maxHeartbeats 2000000 in
set_option maxRecDepth 100000 in
theorem fragHead_short (h : RB S W R rest at' c nx left) (hl : rest.length < 8) : Calls Try.prog 49 #[.pointer (some ⟨R, 0, none⟩)] W fun e w' => e = .panicked [fltP at' 50] ∧ Below W.heap.size W w' := by
  obtain ⟨_, _, la, lc, e, _⟩ := h.byt.row
  subst e
  obtain ⟨nl, hnl⟩ : ∃ nl, rest.length = nl := ⟨_, rfl⟩
  rw [hnl] at h hl
  have HBX : Hid (W.heap[R]? = some (RBox (.slice la nl lc) at' c nx)) := h.box
  have hdec : decide ((8 : Int) ≤ (nl : Int)) = false := by simp; omega
  clear h hl
  go_enter Try.func49, Try.ntmps49
  go_wp2_with fail
  refine region_end (fun _ _ _ => False) (fun c b w' => c = [fltP at' 50] ∧ w' = W.drew ∧ b.defers = []) ?_ (fun _ _ h => h.elim) ?_
  · skip
    refine wp_region_held (S := fun X => X.heap[R]? = some (RBox (.slice la nl lc) at' c nx)) (by kernel_rfl) ?_
    show wpAnyH _ _ _ _ _ 13 (Array.replicate 13 false) _ _
    have hs0 : W.drew.heap[R]? = some (RBox (.slice la nl lc) at' c nx) := HBX.out
    refine take_one (i := 0) (d := some 3) (v := .pointer (some ⟨R, 0, none⟩)) rfl rfl rfl (by kernel_rfl) (by kernel_rfl) (by kernel_rfl) (fun _ _ d _ _ h => ⟨h.1, h.2.1, by cases d <;> exact h.2.2⟩) (fun W hS => by kernel_rfl) hs0 ?_
    simp only [Act.put, List.setIfInBounds_toArray, List.set_cons_zero, List.set_cons_succ]
    refine take_one (i := 1) (d := some 4) (v := .pointer (some ⟨R, 0, none⟩)) rfl rfl rfl (by kernel_rfl) (by kernel_rfl) (by kernel_rfl) (fun _ _ d _ _ h => ⟨h.1, h.2.1, by cases d <;> exact h.2.2⟩) (fun W hS => by kernel_rfl) hs0 ?_
    simp only [Act.put, List.setIfInBounds_toArray, List.set_cons_zero, List.set_cons_succ]
    refine take_one (i := 2) (d := some 5) (v := .pointer (some ⟨R, 0, none⟩)) rfl rfl rfl (by kernel_rfl) (by kernel_rfl) (by kernel_rfl) (fun _ _ d _ _ h => ⟨h.1, h.2.1, by cases d <;> exact h.2.2⟩) (fun W hS => by kernel_rfl) hs0 ?_
    simp only [Act.put, List.setIfInBounds_toArray, List.set_cons_zero, List.set_cons_succ]
    refine take_one (i := 3) (d := some 6) (v := .pointer (some ⟨R, 0, none⟩)) rfl rfl rfl (by kernel_rfl) (by kernel_rfl) (by kernel_rfl) (fun _ _ d _ _ h => ⟨h.1, h.2.1, by cases d <;> exact h.2.2⟩) (fun W hS => by kernel_rfl) hs0 ?_
    simp only [Act.put, List.setIfInBounds_toArray, List.set_cons_zero, List.set_cons_succ]
    refine take_one (i := 4) (d := some 7) (v := .slice la nl lc) rfl rfl rfl (by kernel_rfl) (by kernel_rfl) (by kernel_rfl) (fun _ _ d _ _ h => ⟨h.1, h.2.1, by cases d <;> exact h.2.2⟩) (fun W hS => ex_load 6 rfl rfl (blk_cell hS (j := 0) rfl) ⟨_, _, _, rfl⟩) hs0 ?_
    simp only [Act.put, List.setIfInBounds_toArray, List.set_cons_zero, List.set_cons_succ]
    refine take_one (i := 5) (d := some 8) (v := .int .i64 (nl : Int)) rfl rfl rfl (by kernel_rfl) (by kernel_rfl) (by kernel_rfl) (fun _ _ d _ _ h => ⟨h.1, h.2.1, by cases d <;> exact h.2.2⟩) (fun W hS => by kernel_rfl) hs0 ?_
    simp only [Act.put, List.setIfInBounds_toArray, List.set_cons_zero, List.set_cons_succ]
    refine take_one (i := 6) (d := some 9) (v := .bool false) rfl rfl rfl (by kernel_rfl) (by kernel_rfl) (by kernel_rfl) (fun _ _ d _ _ h => ⟨h.1, h.2.1, by cases d <;> exact h.2.2⟩) (fun W hS => ex_geqI (.tmp 8) (.const (.int .i64 8)) rfl rfl rfl hdec) hs0 ?_
    simp only [Act.put, List.setIfInBounds_toArray, List.set_cons_zero, List.set_cons_succ]
    refine take_one (i := 7) (d := some 10) (v := .pointer (some ⟨R, 0, none⟩)) rfl rfl rfl (by kernel_rfl) (by kernel_rfl) (by kernel_rfl) (fun _ _ d _ _ h => ⟨h.1, h.2.1, by cases d <;> exact h.2.2⟩) (fun W hS => by kernel_rfl) hs0 ?_
    simp only [Act.put, List.setIfInBounds_toArray, List.set_cons_zero, List.set_cons_succ]
    refine take_one (i := 8) (d := some 11) (v := .pointer (some ⟨R, 0, none⟩)) rfl rfl rfl (by kernel_rfl) (by kernel_rfl) (by kernel_rfl) (fun _ _ d _ _ h => ⟨h.1, h.2.1, by cases d <;> exact h.2.2⟩) (fun W hS => by kernel_rfl) hs0 ?_
    simp only [Act.put, List.setIfInBounds_toArray, List.set_cons_zero, List.set_cons_succ]
    refine take_one (i := 9) (d := some 12) (v := .pointer (some ⟨R, 0, none⟩)) rfl rfl rfl (by kernel_rfl) (by kernel_rfl) (by kernel_rfl) (fun _ _ d _ _ h => ⟨h.1, h.2.1, by cases d <;> exact h.2.2⟩) (fun W hS => by kernel_rfl) hs0 ?_
    simp only [Act.put, List.setIfInBounds_toArray, List.set_cons_zero, List.set_cons_succ]
    refine take_one (i := 10) (d := some 13) (v := .pointer (some ⟨R, 1, none⟩)) rfl rfl rfl (by kernel_rfl) (by kernel_rfl) (by kernel_rfl) (fun _ _ d _ _ h => ⟨h.1, h.2.1, by cases d <;> exact h.2.2⟩) (fun W hS => by kernel_rfl) hs0 ?_
    simp only [Act.put, List.setIfInBounds_toArray, List.set_cons_zero, List.set_cons_succ]
    refine take_one (i := 11) (d := some 14) (v := .int .i64 (at' : Int)) rfl rfl rfl (by kernel_rfl) (by kernel_rfl) (by kernel_rfl) (fun _ _ d _ _ h => ⟨h.1, h.2.1, by cases d <;> exact h.2.2⟩) (fun W hS => ex_loadA (.tmp 13) 3 rfl rfl (ld_int (blk_cell hS (j := 1) rfl))) hs0 ?_
    simp only [Act.put, List.setIfInBounds_toArray, List.set_cons_zero, List.set_cons_succ]
    refine all_one (i := 12) (by kernel_rfl) rfl rfl ?_
    refine wp_callP 32 _ (by kernel_rfl) (must_bad at' 50 _) ⟨rfl, rfl, rfl⟩
  · rintro c a' w' ⟨rfl, rfl, hd⟩
    exact ⟨hd, rfl, (Below.refl _ W).drew⟩
theorem and_one (x : Int) (h : 0 ≤ x ∧ x < 65536) : bits .and .u16 x 1 = x % 2 := by
  obtain ⟨n, rfl⟩ := Int.eq_ofNat_of_zero_le h.1
  rw [show (1 : Int) = ((1 : Nat) : Int) from rfl, u16_and_nat n 1 (by omega) (by omega), show (1 : Nat) = 2 ^ 1 - 1 from rfl, Nat.and_two_pow_sub_one_eq_mod]
  omega
variable {f : F6} {g : G6} {vh vb : Value}
theorem vC36 (x : Bool) : (vC f g vh vb).set 36 (.bool x) = vC f { g with fr := x } vh vb := vC_set 1 _
theorem vC37 (x : Int) : (vC f g vh vb).set 37 (.int .u32 x) = vC f { g with id := x } vh vb := vC_set 2 _
theorem vC38 (x : Int) : (vC f g vh vb).set 38 (.int .i64 x) = vC f { g with off := x } vh vb := vC_set 3 _
theorem vC39 (x : Bool) : (vC f g vh vb).set 39 (.bool x) = vC f { g with more := x } vh vb := vC_set 4 _
set_option maxHeartbeats 4000000 in
set_option maxRecDepth 100000 in
theorem fragHead_long (h : RB S W R rest at' (vC f g vh vb) nx left) (hl : 8 ≤ rest.length) (hlim : at' + 8 ≤ 1000000000000000) : Calls Try.prog 49 #[.pointer (some ⟨R, 0, none⟩)] W fun e w' => ∃ left', e = .returned (.tuple #[]) ∧ RB S w' R (rest.drop 8) (at' + 8) (vC f ⟨true, gz rest 4 * 16777216 + gz rest 5 * 65536 + gz rest 6 * 256 + gz rest 7, gz rest 2 * 32 + gz rest 3 / 8, decide (gz rest 3 % 2 = 1)⟩ vh vb) (gz rest 0) left' ∧ Only R W w' := by
  obtain ⟨_, _, la, lc, e, _⟩ := h.byt.row
  subst e
  have f2 := gz_fit h.byt.row.fit 2
  have f3 := gz_fit h.byt.row.fit 3
  have f0 := gz_fit h.byt.row.fit 0
  have gd : ∀ k j, gz (rest.drop k) j = gz rest (k + j) := fun k j => by unfold gz; rw [List.getElem?_drop]
  have HGD : Hid _ := gd
  obtain ⟨N2, hN2⟩ : ∃ N2, gz rest 2 * 256 + gz rest 3 = N2 := ⟨_, rfl⟩
  have hN2r : 0 ≤ N2 ∧ N2 < 65536 := by omega
  have hand := and_one N2 hN2r
  have HO8 : Hid (gz rest 2 * 32 + gz rest 3 / 8 = N2 / 8) := by show _ = _; omega
  have HMO : Hid (decide (gz rest 3 % 2 = 1) = (N2 % 2 != 0)) := by
    show _ = _
    have e : gz rest 3 % 2 = N2 % 2 := by omega
    rw [e]
    by_cases q : N2 % 2 = 1
    · simp [q]
    · have : N2 % 2 = 0 := by omega
      simp [this]
  rw [HO8.out, HMO.out]
  have HN2 : Hid _ := hN2
  obtain ⟨nl, hnl⟩ : ∃ nl, rest.length = nl := ⟨_, rfl⟩
  have HNL : Hid _ := hnl
  rw [hnl] at h hl
  have HBX : Hid (W.heap[R]? = some (RBox (.slice la nl lc) at' (vC f g vh vb) nx)) := h.box
  have HR0 : Hid (RB S W.drew R rest at' (vC f g vh vb) nx (.slice la nl lc)) := h.on ((Below.refl _ W).drew)
  have hdec : decide ((8 : Int) ≤ (nl : Int)) = true := by simp; omega
  have HL : Hid _ := hl
  have HLIM : Hid _ := hlim
  obtain ⟨K0, hK0⟩ : ∃ K, gz rest 0 = K := ⟨_, rfl⟩
  have HK0 : Hid _ := hK0
  rw [hK0]
  obtain ⟨ID, hID⟩ : ∃ K, gz rest 4 * 16777216 + gz rest 5 * 65536 + gz rest 6 * 256 + gz rest 7 = K := ⟨_, rfl⟩
  have HID : Hid _ := hID
  rw [hID]
  clear h hl gd hN2 f2 f3 f0 hnl hK0 hID hlim
  go_enter Try.func49, Try.ntmps49
  go_wp2_with fail
  refine region_end (fun a0 a' w' => a' = (((((((((((((a0.put (some 3) (.pointer (some ⟨R, 0, none⟩))).put (some 4) (.pointer (some ⟨R, 0, none⟩))).put (some 5) (.pointer (some ⟨R, 0, none⟩))).put (some 6) (.pointer (some ⟨R, 0, none⟩))).put (some 7) (.slice la nl lc)).put (some 8) (.int .i64 (nl : Int))).put (some 9) (.bool true)).put (some 10) (.pointer (some ⟨R, 0, none⟩))).put (some 11) (.pointer (some ⟨R, 0, none⟩))).put (some 12) (.pointer (some ⟨R, 0, none⟩))).put (some 13) (.pointer (some ⟨R, 1, none⟩))).put (some 14) (.int .i64 (at' : Int))).put (some 15) (.tuple #[])) ∧ w' = W.drew) (fun _ _ _ => False) ?_ ?_ (fun _ _ _ h => h.elim)
  · skip
    refine wp_region_held (S := fun X => X.heap[R]? = some (RBox (.slice la nl lc) at' (vC f g vh vb) nx)) (by kernel_rfl) ?_
    show wpAnyH _ _ _ _ _ 13 (Array.replicate 13 false) _ _
    have hs0 : W.drew.heap[R]? = some (RBox (.slice la nl lc) at' (vC f g vh vb) nx) := HBX.out
    refine take_one (i := 0) (d := some 3) (v := .pointer (some ⟨R, 0, none⟩)) rfl rfl rfl (by kernel_rfl) (by kernel_rfl) (by kernel_rfl) (fun _ _ _ _ _ h => h.elim) (fun W hS => by kernel_rfl) hs0 ?_
    simp only [Act.put, List.setIfInBounds_toArray, List.set_cons_zero, List.set_cons_succ]
    refine take_one (i := 1) (d := some 4) (v := .pointer (some ⟨R, 0, none⟩)) rfl rfl rfl (by kernel_rfl) (by kernel_rfl) (by kernel_rfl) (fun _ _ _ _ _ h => h.elim) (fun W hS => by kernel_rfl) hs0 ?_
    simp only [Act.put, List.setIfInBounds_toArray, List.set_cons_zero, List.set_cons_succ]
    refine take_one (i := 2) (d := some 5) (v := .pointer (some ⟨R, 0, none⟩)) rfl rfl rfl (by kernel_rfl) (by kernel_rfl) (by kernel_rfl) (fun _ _ _ _ _ h => h.elim) (fun W hS => by kernel_rfl) hs0 ?_
    simp only [Act.put, List.setIfInBounds_toArray, List.set_cons_zero, List.set_cons_succ]
    refine take_one (i := 3) (d := some 6) (v := .pointer (some ⟨R, 0, none⟩)) rfl rfl rfl (by kernel_rfl) (by kernel_rfl) (by kernel_rfl) (fun _ _ _ _ _ h => h.elim) (fun W hS => by kernel_rfl) hs0 ?_
    simp only [Act.put, List.setIfInBounds_toArray, List.set_cons_zero, List.set_cons_succ]
    refine take_one (i := 4) (d := some 7) (v := .slice la nl lc) rfl rfl rfl (by kernel_rfl) (by kernel_rfl) (by kernel_rfl) (fun _ _ _ _ _ h => h.elim) (fun W hS => ex_load 6 rfl rfl (blk_cell hS (j := 0) rfl) ⟨_, _, _, rfl⟩) hs0 ?_
    simp only [Act.put, List.setIfInBounds_toArray, List.set_cons_zero, List.set_cons_succ]
    refine take_one (i := 5) (d := some 8) (v := .int .i64 (nl : Int)) rfl rfl rfl (by kernel_rfl) (by kernel_rfl) (by kernel_rfl) (fun _ _ _ _ _ h => h.elim) (fun W hS => by kernel_rfl) hs0 ?_
    simp only [Act.put, List.setIfInBounds_toArray, List.set_cons_zero, List.set_cons_succ]
    refine take_one (i := 6) (d := some 9) (v := .bool true) rfl rfl rfl (by kernel_rfl) (by kernel_rfl) (by kernel_rfl) (fun _ _ _ _ _ h => h.elim) (fun W hS => ex_geqI (.tmp 8) (.const (.int .i64 8)) rfl rfl rfl hdec) hs0 ?_
    simp only [Act.put, List.setIfInBounds_toArray, List.set_cons_zero, List.set_cons_succ]
    refine take_one (i := 7) (d := some 10) (v := .pointer (some ⟨R, 0, none⟩)) rfl rfl rfl (by kernel_rfl) (by kernel_rfl) (by kernel_rfl) (fun _ _ _ _ _ h => h.elim) (fun W hS => by kernel_rfl) hs0 ?_
    simp only [Act.put, List.setIfInBounds_toArray, List.set_cons_zero, List.set_cons_succ]
    refine take_one (i := 8) (d := some 11) (v := .pointer (some ⟨R, 0, none⟩)) rfl rfl rfl (by kernel_rfl) (by kernel_rfl) (by kernel_rfl) (fun _ _ _ _ _ h => h.elim) (fun W hS => by kernel_rfl) hs0 ?_
    simp only [Act.put, List.setIfInBounds_toArray, List.set_cons_zero, List.set_cons_succ]
    refine take_one (i := 9) (d := some 12) (v := .pointer (some ⟨R, 0, none⟩)) rfl rfl rfl (by kernel_rfl) (by kernel_rfl) (by kernel_rfl) (fun _ _ _ _ _ h => h.elim) (fun W hS => by kernel_rfl) hs0 ?_
    simp only [Act.put, List.setIfInBounds_toArray, List.set_cons_zero, List.set_cons_succ]
    refine take_one (i := 10) (d := some 13) (v := .pointer (some ⟨R, 1, none⟩)) rfl rfl rfl (by kernel_rfl) (by kernel_rfl) (by kernel_rfl) (fun _ _ _ _ _ h => h.elim) (fun W hS => by kernel_rfl) hs0 ?_
    simp only [Act.put, List.setIfInBounds_toArray, List.set_cons_zero, List.set_cons_succ]
    refine take_one (i := 11) (d := some 14) (v := .int .i64 (at' : Int)) rfl rfl rfl (by kernel_rfl) (by kernel_rfl) (by kernel_rfl) (fun _ _ _ _ _ h => h.elim) (fun W hS => ex_loadA (.tmp 13) 3 rfl rfl (ld_int (blk_cell hS (j := 1) rfl))) hs0 ?_
    simp only [Act.put, List.setIfInBounds_toArray, List.set_cons_zero, List.set_cons_succ]
    refine all_one (i := 12) (by kernel_rfl) rfl rfl ?_
    refine wp_call (d := some 15) (R := fun v X => v = .tuple #[] ∧ X = W.drew) 32 _ rfl (by kernel_rfl) ((must_good at' 50 _).mono (fun e X hx => ⟨_, hx.1, rfl, hx.2⟩)) ?_
    rintro v X ⟨rfl, rfl⟩
    refine ⟨hs0, ?_⟩
    simp only [Act.put, List.setIfInBounds_toArray, List.set_cons_zero, List.set_cons_succ]
    refine wpAnyH_done (by kernel_rfl) ?_ _
    exact ⟨rfl, rfl⟩
  rintro a' w' ⟨rfl, rfl⟩
  simp only [Act.put, List.setIfInBounds_toArray, List.set_cons_zero, List.set_cons_succ]
  have HO1 : Hid _ := octet_calls HR0.out (by rw [HNL.out]; have := HL.out; omega) (by have := HLIM.out; omega)
  rw [HK0.out] at HO1
  have HWD : Hid (Only R W W.drew) := (Only.refl R W).drew
  clear hdec HR0 HBX
  obtain ⟨W1, hW1⟩ : ∃ W1, W.drew = W1 := ⟨_, rfl⟩
  rw [hW1] at HO1 HWD ⊢
  clear hW1
  go_wp2_with fail
  refine Calls.mono HO1.out ?_
  rintro e w1 ⟨l1, rfl, hr1, ho1⟩
  obtain ⟨w2, hst2, hr2, hon2⟩ : ∃ w2, (Instr.storeAt 5 (.pointer (some ⟨R, 44, none⟩)) (.int .u8 K0)).run Try.prog w1 = .ok () w2 ∧ RB S w2 R (rest.drop 1) (at' + 1) (vC f g vh vb) K0 l1 ∧ Only R w1 w2 := ⟨_, st_u8 hr1.box (j := 44) (by rw [rC_len, vC_len]; decide) K0, hr1.next K0 (n := 42) vC_len, (Only.refl _ w1).set 44 _⟩
  have HS2 : Hid _ := hst2
  have HON2 : Hid (Only R W w2) := HWD.out.trans (ho1.trans hon2)
  have HO2 : Hid _ := octet_calls hr2 (by rw [List.length_drop, HNL.out]; have := HL.out; omega) (by have := HLIM.out; omega)
  rw [List.drop_drop] at HO2
  clear hr1 ho1 hst2 hr2 hon2 HO1 HWD
  go_wp2_with first
    | ((with_reducible show wpList _ _ _ ({ dst := _, op := Op.store 5 (Operand.tmp 22) _, type := _, pos := _, after := _, guard := _ } :: _) _ _); refine armS (.tmp 22) (.tmp 20) 5 rfl rfl rfl rfl HS2.out ?_; try simp only [Act.put])
  refine Calls.mono HO2.out ?_
  rintro e w3 ⟨l3, rfl, hr3, ho3⟩
  have HON3 : Hid (Only R W w3) := HON2.out.trans ho3
  have HW3 : Hid _ := word_calls hr3 (by rw [List.length_drop, HNL.out]; have := HL.out; omega) (by have := HLIM.out; omega)
  rw [List.drop_drop, HGD.out, HGD.out, HN2.out] at HW3
  clear hr3 ho3 HO2 HON2 HS2
  go_wp2_with fail
  refine Calls.mono HW3.out ?_
  rintro e w4 ⟨l4, rfl, hr4, ho4⟩
  obtain ⟨w5, hst5, hr5, hon5⟩ : ∃ w5, (Instr.storeAt 4 (.pointer (some ⟨R, 38, none⟩)) (.bool true)).run Try.prog w4 = .ok () w5 ∧ RB S w5 R (rest.drop 4) (at' + 4) (vC f { g with fr := true } vh vb) K0 l4 ∧ Only R w4 w5 := ⟨_, st_bool hr4.box (j := 38) (by rw [rC_len, vC_len]; decide) true, by have := hr4.put (j := 36) (by rw [vC_len]; decide) (.bool true); rw [vC36] at this; exact this, (Only.refl _ w4).set 38 _⟩
  obtain ⟨w6, hst6, hr6, hon6⟩ : ∃ w6, (Instr.storeAt 3 (.pointer (some ⟨R, 40, none⟩)) (.int .i64 (N2 / 8))).run Try.prog w5 = .ok () w6 ∧ RB S w6 R (rest.drop 4) (at' + 4) (vC f { g with fr := true, off := N2 / 8 } vh vb) K0 l4 ∧ Only R w5 w6 := ⟨_, st_int hr5.box (j := 40) (by rw [rC_len, vC_len]; decide) (N2 / 8), by have := hr5.put (j := 38) (by rw [vC_len]; decide) (.int .i64 (N2 / 8)); rw [vC38] at this; exact this, (Only.refl _ w5).set 40 _⟩
  obtain ⟨w7, hst7, hr7, hon7⟩ : ∃ w7, (Instr.storeAt 4 (.pointer (some ⟨R, 41, none⟩)) (.bool (N2 % 2 != 0))).run Try.prog w6 = .ok () w7 ∧ RB S w7 R (rest.drop 4) (at' + 4) (vC f { g with fr := true, off := N2 / 8, more := (N2 % 2 != 0) } vh vb) K0 l4 ∧ Only R w6 w7 := ⟨_, st_bool hr6.box (j := 41) (by rw [rC_len, vC_len]; decide) _, by have := hr6.put (j := 39) (by rw [vC_len]; decide) (.bool (N2 % 2 != 0)); rw [vC39] at this; exact this, (Only.refl _ w6).set 41 _⟩
  have HS5 : Hid _ := hst5
  have HS6 : Hid _ := hst6
  have HS7 : Hid _ := hst7
  have HON7 : Hid (Only R W w7) := HON3.out.trans (ho4.trans (hon5.trans (hon6.trans hon7)))
  have HLG : Hid _ := long_calls hr7 (by rw [List.length_drop, HNL.out]; have := HL.out; omega) (by have := HLIM.out; omega)
  rw [List.drop_drop, HGD.out, HGD.out, HGD.out, HGD.out, HID.out] at HLG
  clear hr4 ho4 hst5 hr5 hon5 hst6 hr6 hon6 hst7 hr7 hon7 HW3 HON3
  go_wp2_with first
    | ((with_reducible show wpList _ _ _ ({ dst := _, op := Op.store 4 (Operand.tmp 42) _, type := _, pos := _, after := _, guard := _ } :: _) _ _); refine armS (.tmp 42) (.const (.bool true)) 4 rfl rfl rfl rfl HS5.out ?_; try simp only [Act.put])
    | ((with_reducible show wpList _ _ _ ({ dst := _, op := Op.store 3 (Operand.tmp 45) _, type := _, pos := _, after := _, guard := _ } :: _) _ _); refine armS (.tmp 45) (.tmp 36) 3 rfl rfl rfl rfl HS6.out ?_; try simp only [Act.put])
    | ((with_reducible show wpList _ _ _ ({ dst := _, op := Op.store 4 (Operand.tmp 48) _, type := _, pos := _, after := _, guard := _ } :: _) _ _); refine armS (.tmp 48) (.tmp 39) 4 rfl rfl rfl rfl HS7.out ?_; try simp only [Act.put])
  refine Calls.mono HLG.out ?_
  rintro e w8 ⟨l8, rfl, hr8, ho8⟩
  obtain ⟨w9, hst9, hr9, hon9⟩ : ∃ w9, (Instr.storeAt 22 (.pointer (some ⟨R, 39, none⟩)) (.int .u32 ID)).run Try.prog w8 = .ok () w9 ∧ RB S w9 R (rest.drop 8) (at' + 8) (vC f ⟨true, ID, N2 / 8, (N2 % 2 != 0)⟩ vh vb) K0 l8 ∧ Only R w8 w9 := ⟨_, st_u32 hr8.box (j := 39) (by rw [rC_len, vC_len]; decide) ID, by have := hr8.put (j := 37) (by rw [vC_len]; decide) (.int .u32 ID); rw [vC37] at this; exact this, (Only.refl _ w8).set 39 _⟩
  have HS9 : Hid _ := hst9
  have HR9 : Hid (RB S w9 R (rest.drop 8) (at' + 8) (vC f ⟨true, ID, N2 / 8, (N2 % 2 != 0)⟩ vh vb) K0 l8) := hr9
  have HON9 : Hid (Only R W w9) := HON7.out.trans (ho8.trans hon9)
  clear hr8 ho8 hst9 hr9 hon9 HLG HON7 HS5 HS6 HS7
  go_wp2_with first
    | ((with_reducible show wpList _ _ _ ({ dst := _, op := Op.store 22 (Operand.tmp 56) _, type := _, pos := _, after := _, guard := _ } :: _) _ _); refine armS (.tmp 56) (.tmp 53) 22 rfl rfl rfl rfl HS9.out ?_; try simp only [Act.put])
  go_end0
  exact ⟨l8, rfl, HR9.out, HON9.out⟩
end

end Go.Proofs.Ytbaeogoojpngbaa
