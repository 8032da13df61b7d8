/-
  The statement SplitOwn.
-/
import Derived.Test.YtackllcfnlhkpaaVe5
namespace Go.Proofs.Ytackllcfnlhkpaa
open Go Go.RowKit Go.ChangeShapes Go.WideShapes Go.ChangeAt
set_option linter.unusedVariables false
set_option linter.unusedSimpArgs false

section
variable (f : Fd) (hf : FdIn f) (mf : Bool) (off : Int) (so sb : Value) (opts body : List Int) (mtu : Int) (w : World)
include hf
set_option maxHeartbeats 8000000 in
set_option maxRecDepth 100000 in
theorem splitOwn_walk (h1 : RowC w so opts) (h2 : RowC w sb body) (hoff : -9223372036854775808 ≤ off ∧ off ≤ 9223372036854775807) (hmt : -9223372036854775808 ≤ mtu ∧ mtu ≤ 9223372036854775807) :
    Calls Try.prog 7 #[VV f mf off so sb, .int .i64 mtu] w fun e w' => e = .returned (.bool true) ∧ Below w.heap.size w w' := by
  have hb0 := blk_new w (BV f mf off so sb)
  have hB0 : Below w.heap.size w (w.alloc (BV f mf off so sb)) := (Below.refl w.heap.size w).alloc (Nat.le_refl _) (BV f mf off so sb)
  have HLD : Hid _ := vb_load hb0
  have HB0 : Hid _ := hb0
  have HBB : Hid (Below w.heap.size w (w.alloc (BV f mf off so sb))) := hB0
  have HCT : Hid _ := cut_calls f mf off so sb opts body w (w.alloc (BV f mf off so sb)) h1 h2
  have HAL : Hid (∀ X, Calls Try.prog 16 #[] X fun e w' => e = .returned (.bool true) ∧ Below X.heap.size X w') := fun X => alive_calls X
  clear hb0 hB0 h1 h2
  go_enter Try.func7, Try.ntmps7

  go_wp2_with first
    | ((with_reducible show wpList _ _ _ ({ dst := _, op := Op.load 27 (Operand.tmp 2), type := _, pos := _, after := _, guard := _ } :: _) _ _); refine armL (.tmp 2) 27 rfl rfl rfl HLD.out ?_)
  refine Calls.mono HCT.out ?_
  rintro e w1 ⟨so1, sb1, rfl, hr1, hr2, hb1⟩
  have hk1 := blk_on HB0.out hb1
  obtain ⟨w2, hst2, hbx2, hon2⟩ := box_store Try.sizeOf27 hk1 rfl (vC f mf off so1 sb1) rfl (vC_one f mf off (BS.of_row hr1).one (BS.of_row hr2).one)
  have hB2 : Below w.heap.size w w2 := (HBB.out.trans (hb1.mono HBB.out.size)).trans (hon2.below (Nat.le_refl _))
  have hww : w.heap.size < w2.heap.size := (Array.getElem?_eq_some_iff.1 hbx2).1
  have hbl : (body.take 70000).length ≤ 70000 := by rw [List.length_take]; omega
  have hol : (opts.take 100).length ≤ 100 := by rw [List.length_take]; omega
  generalize opts.take 100 = o at *
  generalize body.take 70000 = b at *
  obtain ⟨w3, hst3, hbx3, hB3, hs3⟩ := vb_new w2 f mf off (BS.of_row hr1).one (BS.of_row hr2).one
  unfold zeroV at hst3
  have HLDX : Hid _ := vb_load hbx2
  have HST : Hid _ := hst2
  have HST3 : Hid _ := hst3
  have hB03 : Below w.heap.size w w3 := hB2.trans (hB3.mono hB2.size)
  have HB03 : Hid (Below w.heap.size w w3) := hB03
  have HVB3 : Hid (w3.heap[w.heap.size]? = some (BV f mf off so1 sb1)) := blk_on hbx2 hB3
  have HOX3 : Hid (w3.heap[w2.heap.size]? = some (BV f mf off so1 sb1)) := hbx3
  have HS3 : Hid (w3.heap.size = w2.heap.size + 1) := hs3
  have HR1 : Hid (RowC w so1 o) := hr1
  have HR2 : Hid (RowC w sb1 b) := hr2
  have hso1 := (BS.of_row hr1).slc
  have hsb1 := (BS.of_row hr2).slc
  clear hr1 hr2 hbx2 hon2 hst2 hB2 hk1 hb1 HCT HLD HB0 HBB hst3 hbx3 hB3 hs3 hB03

  go_wp2_with first
    | ((with_reducible show wpList _ _ _ ({ dst := _, op := Op.store 27 (Operand.tmp 2) (Operand.tmp 13), type := _, pos := _, after := _, guard := _ } :: _) _ _); refine armS (.tmp 2) (Operand.tmp 13) 27 rfl rfl rfl rfl HST.out ?_; simp only [Act.put])
    | ((with_reducible show wpList _ _ _ ({ dst := _, op := Op.store 27 (Operand.tmp 5) (Operand.tmp 14), type := _, pos := _, after := _, guard := _ } :: _) _ _); refine armS (.tmp 5) (Operand.tmp 14) 27 rfl rfl rfl rfl HST3.out ?_; simp only [Act.put])
    | ((with_reducible show wpList _ _ _ ({ dst := _, op := Op.load 27 (Operand.tmp 2), type := _, pos := _, after := _, guard := _ } :: _) _ _); refine armL (.tmp 2) 27 rfl rfl rfl HLDX.out ?_)
  clear HST HST3 HLDX
  generalize hobe : w2.heap.size = ob at *
  clear hobe
  refine region_mid (fun a0 a' w' => ∃ b1 k1 b2 k2 x1 x2, a' = ((((((((((a0.put (some 15) (.slice (some ⟨x1, 0, none⟩) 0 0)).put (some 16) (.pointer (some ⟨w.heap.size, 16, none⟩))).put (some 17) (sb1)).put (some 18) ((.slice (some ⟨b1, 0, none⟩) b.length k1))).put (some 19) (.slice (some ⟨x2, 0, none⟩) 0 0)).put (some 20) (.pointer (some ⟨w.heap.size, 15, none⟩))).put (some 21) (so1)).put (some 22) ((.slice (some ⟨b2, 0, none⟩) o.length k2))).put (some 23) (.pointer (some ⟨ob, 16, none⟩))).put (some 24) (.pointer (some ⟨ob, 15, none⟩))) ∧ w'.heap[ob]? = some (BV f mf off (.slice (some ⟨b2, 0, none⟩) o.length k2) (.slice (some ⟨b1, 0, none⟩) b.length k1)) ∧ w'.heap[w.heap.size]? = some (BV f mf off so1 sb1) ∧ Two (ob + 1) w' b1 k1 b2 k2 b o ∧ Below w.heap.size w w' ∧ ob < w'.heap.size) ?_ ?_
  · skip
    refine wp_region_held (S := fun X => X.heap[w.heap.size]? = some (BV f mf off so1 sb1)) (by kernel_rfl) ?_
    show wpAnyH _ _ _ _ _ 12 (Array.replicate 12 false) _ _
    have hs0 : w3.drew.heap[w.heap.size]? = some (BV f mf off so1 sb1) := HVB3.out
    have hX0 : Below w3.heap.size w3 w3.drew := (Below.refl _ w3).drew
    refine take_one (i := 1) (d := some 16) (v := .pointer (some ⟨w.heap.size, 16, none⟩)) rfl rfl rfl (by kernel_rfl) (by kernel_rfl) (by kernel_rfl) (fun _ _ _ _ _ h => h.elim) (fun W hS => by kernel_rfl) hs0 ?_
    simp only [Act.put, List.setIfInBounds_toArray, List.set_cons_zero, List.set_cons_succ]
    refine take_one (i := 2) (d := some 17) (v := sb1) rfl rfl rfl (by kernel_rfl) (by kernel_rfl) (by kernel_rfl) (fun _ _ _ _ _ h => h.elim) (fun W hS => ex_load 16 rfl rfl (vb16 hS) hsb1) hs0 ?_
    simp only [Act.put, List.setIfInBounds_toArray, List.set_cons_zero, List.set_cons_succ]
    refine take_one (i := 5) (d := some 20) (v := .pointer (some ⟨w.heap.size, 15, none⟩)) rfl rfl rfl (by kernel_rfl) (by kernel_rfl) (by kernel_rfl) (fun _ _ _ _ _ h => h.elim) (fun W hS => by kernel_rfl) hs0 ?_
    simp only [Act.put, List.setIfInBounds_toArray, List.set_cons_zero, List.set_cons_succ]
    refine take_one (i := 6) (d := some 21) (v := so1) rfl rfl rfl (by kernel_rfl) (by kernel_rfl) (by kernel_rfl) (fun _ _ _ _ _ h => h.elim) (fun W hS => ex_load 20 rfl rfl (vb15 hS) hso1) hs0 ?_
    simp only [Act.put, List.setIfInBounds_toArray, List.set_cons_zero, List.set_cons_succ]
    have hs3 := HS3.out
    refine all_two (i1 := 0) (i2 := 4) (by kernel_rfl) rfl rfl rfl rfl ?_ ?_
    · have hX1 : Below w3.heap.size w3 (w3.drew.alloc (.cells #[] 5)) := hX0.alloc hX0.size _
      have hS1 := blk_on HVB3.out hX1
      have hZ1 : (w3.drew.alloc (.cells #[] 5)).heap.size = w3.drew.heap.size + 1 := by simp
      refine wp_build (d := some 15) rfl rfl ⟨hS1, ?_⟩
      simp only [Act.put, List.setIfInBounds_toArray, List.set_cons_zero, List.set_cons_succ]
      refine all_two (i1 := 3) (i2 := 4) (by kernel_rfl) rfl rfl rfl rfl ?_ ?_
      · have hBw3 : Below w.heap.size w (w3.drew.alloc (.cells #[] 5)) := HB03.out.trans (hX1.mono HB03.out.size)
        obtain ⟨b1, k1, Y1, hr3, hc3, hb3, ho3⟩ := app_run HR2.out.bytes hBw3 w3.drew.heap.size 25
        have hX2 : Below w3.heap.size w3 Y1 := hX1.trans (hb3.mono hX1.size)
        have hS2 := blk_on HVB3.out hX2
        refine wp_append (d := some 18) (.tmp 15) (.tmp 17) 25 rfl rfl rfl rfl hr3 ⟨hS2, ?_⟩
        simp only [Act.put, List.setIfInBounds_toArray, List.set_cons_zero, List.set_cons_succ]
        refine take_one (i := 8) (d := some 23) (v := .pointer (some ⟨ob, 16, none⟩)) rfl rfl rfl (by kernel_rfl) (by kernel_rfl) (by kernel_rfl) (fun _ _ _ _ _ h => h.elim) (fun W hS => by kernel_rfl) hS2 ?_
        simp only [Act.put, List.setIfInBounds_toArray, List.set_cons_zero, List.set_cons_succ]
        refine all_one (i := 4) (by kernel_rfl) rfl rfl ?_
        have hX3 : Below w3.heap.size w3 (Y1.alloc (.cells #[] 5)) := hX2.alloc hX2.size _
        have hS3 := blk_on HVB3.out hX3
        have hZ3 : (Y1.alloc (.cells #[] 5)).heap.size = Y1.heap.size + 1 := by simp
        refine wp_build (d := some 19) rfl rfl ⟨hS3, ?_⟩
        simp only [Act.put, List.setIfInBounds_toArray, List.set_cons_zero, List.set_cons_succ]
        refine all_one (i := 7) (by kernel_rfl) rfl rfl ?_
        have hBw7 : Below w.heap.size w (Y1.alloc (.cells #[] 5)) := HB03.out.trans (hX3.mono HB03.out.size)
        obtain ⟨b2, k2, Y2, hr7, hc7, hb7, ho7⟩ := app_run HR1.out.bytes hBw7 Y1.heap.size 25
        have hX4 : Below w3.heap.size w3 Y2 := hX3.trans (hb7.mono hX3.size)
        have hS4 := blk_on HVB3.out hX4
        refine wp_append (d := some 22) (.tmp 19) (.tmp 21) 25 rfl rfl rfl rfl hr7 ⟨hS4, ?_⟩
        simp only [Act.put, List.setIfInBounds_toArray, List.set_cons_zero, List.set_cons_succ]
        have hox := blk_on HOX3.out hX4
        have hvx := blk_on HVB3.out hX4
        obtain ⟨Za, hsta, hboxa, hona⟩ := put16 hox (v := (.slice (some ⟨b1, 0, none⟩) b.length k1)) ⟨_, _, _, rfl⟩
        have hva := (hona.other w.heap.size (by omega)).trans hvx
        refine all_one (i := 9) (by kernel_rfl) rfl rfl ?_
        refine wp_storeA (.tmp 23) (.tmp 18) 25 rfl rfl rfl rfl hsta ⟨hva, ?_⟩
        refine take_one (i := 10) (d := some 24) (v := .pointer (some ⟨ob, 15, none⟩)) rfl rfl rfl (by kernel_rfl) (by kernel_rfl) (by kernel_rfl) (fun _ _ _ _ _ h => h.elim) (fun W hS => by kernel_rfl) hva ?_
        simp only [Act.put, List.setIfInBounds_toArray, List.set_cons_zero, List.set_cons_succ]
        obtain ⟨Zb, hstb, hboxb, honb⟩ := put15 hboxa (v := (.slice (some ⟨b2, 0, none⟩) o.length k2)) ⟨_, _, _, rfl⟩
        have hvb := (honb.other w.heap.size (by omega)).trans hva
        refine all_one (i := 11) (by kernel_rfl) rfl rfl ?_
        refine wp_storeA (.tmp 24) (.tmp 22) 25 rfl rfl rfl rfl hstb ⟨hvb, ?_⟩
        refine wpAnyH_done (by kernel_rfl) ?_ _
        have hon := hona.trans honb
        have hbel : Below w.heap.size w Zb := (HB03.out.trans (hX4.mono HB03.out.size)).trans (hon.below (by omega))
        have hsz := hon.size
        refine ⟨b1, k1, b2, k2, w3.drew.heap.size, Y1.heap.size, rfl, hboxb, hvb, ?_, hbel, by have := hX4.size; omega⟩
        have hl3 : ob + 1 ≤ b1 ∧ b1 < Y2.heap.size ∧ (b = [] ∨ OwnG Y2 b1 b) := by
          have hup : Below Y1.heap.size Y1 Y2 := ((Below.refl Y1.heap.size Y1).alloc (Nat.le_refl _) _).trans (hb7.mono (by omega))
          rcases ho3 with ⟨e, rfl⟩ | ⟨e, ow⟩
          · refine ⟨by have q1 : w3.drew.heap.size = w3.heap.size := rfl; have q2 := hb3.size; have q3 := hb7.size; omega, by have q1 : w3.drew.heap.size = w3.heap.size := rfl; have q2 := hb3.size; have q3 := hb7.size; omega, .inl e⟩
          · exact ⟨by have q1 : w3.drew.heap.size = w3.heap.size := rfl; have q2 := hb3.size; have q3 := hb7.size; omega, Nat.lt_of_lt_of_le ow.lt hup.size, .inr (ow.kept ow.lt hup)⟩
        have hl7 : ob + 1 ≤ b2 ∧ b2 < Y2.heap.size ∧ (o = [] ∨ (OwnG Y2 b2 o ∧ b1 ≠ b2)) := by
          rcases ho7 with ⟨e, rfl⟩ | ⟨e, ow⟩
          · refine ⟨by have q1 : w3.drew.heap.size = w3.heap.size := rfl; have q2 := hb3.size; have q3 := hb7.size; omega, by have q1 : w3.drew.heap.size = w3.heap.size := rfl; have q2 := hb3.size; have q3 := hb7.size; omega, .inl e⟩
          · refine ⟨by have q1 : w3.drew.heap.size = w3.heap.size := rfl; have q2 := hb3.size; have q3 := hb7.size; omega, ow.lt, .inr ⟨ow, ?_⟩⟩
            intro ee
            rcases ho3 with ⟨e', e1'⟩ | ⟨e', ow'⟩
            · have q1 : w3.drew.heap.size = w3.heap.size := rfl; have q2 := hb3.size; have q3 := hb7.size; omega
            · have q4 := ow'.lt
              have q1 : w3.drew.heap.size = w3.heap.size := rfl; have q2 := hb3.size; have q3 := hb7.size; omega
        refine ⟨hl3.1, hl7.1, by omega, by omega, hc3, hc7, hl3.2.2.imp id (fun h => h.off hon (by omega)), hl7.2.2.imp id (fun h => h.1.off hon (by omega)), hl7.2.2.imp id (fun h => h.2)⟩
      · have hX2 : Below w3.heap.size w3 ((w3.drew.alloc (.cells #[] 5)).alloc (.cells #[] 5)) := hX1.alloc hX1.size _
        have hS2 := blk_on HVB3.out hX2
        have hZ2 : ((w3.drew.alloc (.cells #[] 5)).alloc (.cells #[] 5)).heap.size = (w3.drew.alloc (.cells #[] 5)).heap.size + 1 := by simp
        refine wp_build (d := some 19) rfl rfl ⟨hS2, ?_⟩
        simp only [Act.put, List.setIfInBounds_toArray, List.set_cons_zero, List.set_cons_succ]
        refine all_one (i := 3) (by kernel_rfl) rfl rfl ?_
        have hBw3 : Below w.heap.size w ((w3.drew.alloc (.cells #[] 5)).alloc (.cells #[] 5)) := HB03.out.trans (hX2.mono HB03.out.size)
        obtain ⟨b1, k1, Y1, hr3, hc3, hb3, ho3⟩ := app_run HR2.out.bytes hBw3 w3.drew.heap.size 25
        have hX3 : Below w3.heap.size w3 Y1 := hX2.trans (hb3.mono hX2.size)
        have hS3 := blk_on HVB3.out hX3
        refine wp_append (d := some 18) (.tmp 15) (.tmp 17) 25 rfl rfl rfl rfl hr3 ⟨hS3, ?_⟩
        simp only [Act.put, List.setIfInBounds_toArray, List.set_cons_zero, List.set_cons_succ]
        refine take_one (i := 8) (d := some 23) (v := .pointer (some ⟨ob, 16, none⟩)) rfl rfl rfl (by kernel_rfl) (by kernel_rfl) (by kernel_rfl) (fun _ _ _ _ _ h => h.elim) (fun W hS => by kernel_rfl) hS3 ?_
        simp only [Act.put, List.setIfInBounds_toArray, List.set_cons_zero, List.set_cons_succ]
        refine all_one (i := 7) (by kernel_rfl) rfl rfl ?_
        have hBw7 : Below w.heap.size w Y1 := HB03.out.trans (hX3.mono HB03.out.size)
        obtain ⟨b2, k2, Y2, hr7, hc7, hb7, ho7⟩ := app_run HR1.out.bytes hBw7 (w3.drew.alloc (.cells #[] 5)).heap.size 25
        have hX4 : Below w3.heap.size w3 Y2 := hX3.trans (hb7.mono hX3.size)
        have hS4 := blk_on HVB3.out hX4
        refine wp_append (d := some 22) (.tmp 19) (.tmp 21) 25 rfl rfl rfl rfl hr7 ⟨hS4, ?_⟩
        simp only [Act.put, List.setIfInBounds_toArray, List.set_cons_zero, List.set_cons_succ]
        have hox := blk_on HOX3.out hX4
        have hvx := blk_on HVB3.out hX4
        obtain ⟨Za, hsta, hboxa, hona⟩ := put16 hox (v := (.slice (some ⟨b1, 0, none⟩) b.length k1)) ⟨_, _, _, rfl⟩
        have hva := (hona.other w.heap.size (by omega)).trans hvx
        refine all_one (i := 9) (by kernel_rfl) rfl rfl ?_
        refine wp_storeA (.tmp 23) (.tmp 18) 25 rfl rfl rfl rfl hsta ⟨hva, ?_⟩
        refine take_one (i := 10) (d := some 24) (v := .pointer (some ⟨ob, 15, none⟩)) rfl rfl rfl (by kernel_rfl) (by kernel_rfl) (by kernel_rfl) (fun _ _ _ _ _ h => h.elim) (fun W hS => by kernel_rfl) hva ?_
        simp only [Act.put, List.setIfInBounds_toArray, List.set_cons_zero, List.set_cons_succ]
        obtain ⟨Zb, hstb, hboxb, honb⟩ := put15 hboxa (v := (.slice (some ⟨b2, 0, none⟩) o.length k2)) ⟨_, _, _, rfl⟩
        have hvb := (honb.other w.heap.size (by omega)).trans hva
        refine all_one (i := 11) (by kernel_rfl) rfl rfl ?_
        refine wp_storeA (.tmp 24) (.tmp 22) 25 rfl rfl rfl rfl hstb ⟨hvb, ?_⟩
        refine wpAnyH_done (by kernel_rfl) ?_ _
        have hon := hona.trans honb
        have hbel : Below w.heap.size w Zb := (HB03.out.trans (hX4.mono HB03.out.size)).trans (hon.below (by omega))
        have hsz := hon.size
        refine ⟨b1, k1, b2, k2, w3.drew.heap.size, (w3.drew.alloc (.cells #[] 5)).heap.size, rfl, hboxb, hvb, ?_, hbel, by have := hX4.size; omega⟩
        have hl3 : ob + 1 ≤ b1 ∧ b1 < Y2.heap.size ∧ (b = [] ∨ OwnG Y2 b1 b) := by
          have hup : Below Y1.heap.size Y1 Y2 := hb7
          rcases ho3 with ⟨e, rfl⟩ | ⟨e, ow⟩
          · refine ⟨by have q1 : w3.drew.heap.size = w3.heap.size := rfl; have q2 := hb3.size; have q3 := hb7.size; omega, by have q1 : w3.drew.heap.size = w3.heap.size := rfl; have q2 := hb3.size; have q3 := hb7.size; omega, .inl e⟩
          · exact ⟨by have q1 : w3.drew.heap.size = w3.heap.size := rfl; have q2 := hb3.size; have q3 := hb7.size; omega, Nat.lt_of_lt_of_le ow.lt hup.size, .inr (ow.kept ow.lt hup)⟩
        have hl7 : ob + 1 ≤ b2 ∧ b2 < Y2.heap.size ∧ (o = [] ∨ (OwnG Y2 b2 o ∧ b1 ≠ b2)) := by
          rcases ho7 with ⟨e, rfl⟩ | ⟨e, ow⟩
          · refine ⟨by have q1 : w3.drew.heap.size = w3.heap.size := rfl; have q2 := hb3.size; have q3 := hb7.size; omega, by have q1 : w3.drew.heap.size = w3.heap.size := rfl; have q2 := hb3.size; have q3 := hb7.size; omega, .inl e⟩
          · refine ⟨by have q1 : w3.drew.heap.size = w3.heap.size := rfl; have q2 := hb3.size; have q3 := hb7.size; omega, ow.lt, .inr ⟨ow, ?_⟩⟩
            intro ee
            rcases ho3 with ⟨e', e1'⟩ | ⟨e', ow'⟩
            · have q1 : w3.drew.heap.size = w3.heap.size := rfl; have q2 := hb3.size; have q3 := hb7.size; omega
            · have q4 := ow'.lt
              have q1 : w3.drew.heap.size = w3.heap.size := rfl; have q2 := hb3.size; have q3 := hb7.size; omega
        refine ⟨hl3.1, hl7.1, by omega, by omega, hc3, hc7, hl3.2.2.imp id (fun h => h.off hon (by omega)), hl7.2.2.imp id (fun h => h.1.off hon (by omega)), hl7.2.2.imp id (fun h => h.2)⟩
    · have hX1 : Below w3.heap.size w3 (w3.drew.alloc (.cells #[] 5)) := hX0.alloc hX0.size _
      have hS1 := blk_on HVB3.out hX1
      have hZ1 : (w3.drew.alloc (.cells #[] 5)).heap.size = w3.drew.heap.size + 1 := by simp
      refine wp_build (d := some 19) rfl rfl ⟨hS1, ?_⟩
      simp only [Act.put, List.setIfInBounds_toArray, List.set_cons_zero, List.set_cons_succ]
      refine all_one (i := 0) (by kernel_rfl) rfl rfl ?_
      have hX2 : Below w3.heap.size w3 ((w3.drew.alloc (.cells #[] 5)).alloc (.cells #[] 5)) := hX1.alloc hX1.size _
      have hS2 := blk_on HVB3.out hX2
      have hZ2 : ((w3.drew.alloc (.cells #[] 5)).alloc (.cells #[] 5)).heap.size = (w3.drew.alloc (.cells #[] 5)).heap.size + 1 := by simp
      refine wp_build (d := some 15) rfl rfl ⟨hS2, ?_⟩
      simp only [Act.put, List.setIfInBounds_toArray, List.set_cons_zero, List.set_cons_succ]
      refine all_one (i := 3) (by kernel_rfl) rfl rfl ?_
      have hBw3 : Below w.heap.size w ((w3.drew.alloc (.cells #[] 5)).alloc (.cells #[] 5)) := HB03.out.trans (hX2.mono HB03.out.size)
      obtain ⟨b1, k1, Y1, hr3, hc3, hb3, ho3⟩ := app_run HR2.out.bytes hBw3 (w3.drew.alloc (.cells #[] 5)).heap.size 25
      have hX3 : Below w3.heap.size w3 Y1 := hX2.trans (hb3.mono hX2.size)
      have hS3 := blk_on HVB3.out hX3
      refine wp_append (d := some 18) (.tmp 15) (.tmp 17) 25 rfl rfl rfl rfl hr3 ⟨hS3, ?_⟩
      simp only [Act.put, List.setIfInBounds_toArray, List.set_cons_zero, List.set_cons_succ]
      refine take_one (i := 8) (d := some 23) (v := .pointer (some ⟨ob, 16, none⟩)) rfl rfl rfl (by kernel_rfl) (by kernel_rfl) (by kernel_rfl) (fun _ _ _ _ _ h => h.elim) (fun W hS => by kernel_rfl) hS3 ?_
      simp only [Act.put, List.setIfInBounds_toArray, List.set_cons_zero, List.set_cons_succ]
      refine all_one (i := 7) (by kernel_rfl) rfl rfl ?_
      have hBw7 : Below w.heap.size w Y1 := HB03.out.trans (hX3.mono HB03.out.size)
      obtain ⟨b2, k2, Y2, hr7, hc7, hb7, ho7⟩ := app_run HR1.out.bytes hBw7 w3.drew.heap.size 25
      have hX4 : Below w3.heap.size w3 Y2 := hX3.trans (hb7.mono hX3.size)
      have hS4 := blk_on HVB3.out hX4
      refine wp_append (d := some 22) (.tmp 19) (.tmp 21) 25 rfl rfl rfl rfl hr7 ⟨hS4, ?_⟩
      simp only [Act.put, List.setIfInBounds_toArray, List.set_cons_zero, List.set_cons_succ]
      have hox := blk_on HOX3.out hX4
      have hvx := blk_on HVB3.out hX4
      obtain ⟨Za, hsta, hboxa, hona⟩ := put16 hox (v := (.slice (some ⟨b1, 0, none⟩) b.length k1)) ⟨_, _, _, rfl⟩
      have hva := (hona.other w.heap.size (by omega)).trans hvx
      refine all_one (i := 9) (by kernel_rfl) rfl rfl ?_
      refine wp_storeA (.tmp 23) (.tmp 18) 25 rfl rfl rfl rfl hsta ⟨hva, ?_⟩
      refine take_one (i := 10) (d := some 24) (v := .pointer (some ⟨ob, 15, none⟩)) rfl rfl rfl (by kernel_rfl) (by kernel_rfl) (by kernel_rfl) (fun _ _ _ _ _ h => h.elim) (fun W hS => by kernel_rfl) hva ?_
      simp only [Act.put, List.setIfInBounds_toArray, List.set_cons_zero, List.set_cons_succ]
      obtain ⟨Zb, hstb, hboxb, honb⟩ := put15 hboxa (v := (.slice (some ⟨b2, 0, none⟩) o.length k2)) ⟨_, _, _, rfl⟩
      have hvb := (honb.other w.heap.size (by omega)).trans hva
      refine all_one (i := 11) (by kernel_rfl) rfl rfl ?_
      refine wp_storeA (.tmp 24) (.tmp 22) 25 rfl rfl rfl rfl hstb ⟨hvb, ?_⟩
      refine wpAnyH_done (by kernel_rfl) ?_ _
      have hon := hona.trans honb
      have hbel : Below w.heap.size w Zb := (HB03.out.trans (hX4.mono HB03.out.size)).trans (hon.below (by omega))
      have hsz := hon.size
      refine ⟨b1, k1, b2, k2, (w3.drew.alloc (.cells #[] 5)).heap.size, w3.drew.heap.size, rfl, hboxb, hvb, ?_, hbel, by have := hX4.size; omega⟩
      have hl3 : ob + 1 ≤ b1 ∧ b1 < Y2.heap.size ∧ (b = [] ∨ OwnG Y2 b1 b) := by
        have hup : Below Y1.heap.size Y1 Y2 := hb7
        rcases ho3 with ⟨e, rfl⟩ | ⟨e, ow⟩
        · refine ⟨by have q1 : w3.drew.heap.size = w3.heap.size := rfl; have q2 := hb3.size; have q3 := hb7.size; omega, by have q1 : w3.drew.heap.size = w3.heap.size := rfl; have q2 := hb3.size; have q3 := hb7.size; omega, .inl e⟩
        · exact ⟨by have q1 : w3.drew.heap.size = w3.heap.size := rfl; have q2 := hb3.size; have q3 := hb7.size; omega, Nat.lt_of_lt_of_le ow.lt hup.size, .inr (ow.kept ow.lt hup)⟩
      have hl7 : ob + 1 ≤ b2 ∧ b2 < Y2.heap.size ∧ (o = [] ∨ (OwnG Y2 b2 o ∧ b1 ≠ b2)) := by
        rcases ho7 with ⟨e, rfl⟩ | ⟨e, ow⟩
        · refine ⟨by have q1 : w3.drew.heap.size = w3.heap.size := rfl; have q2 := hb3.size; have q3 := hb7.size; omega, by have q1 : w3.drew.heap.size = w3.heap.size := rfl; have q2 := hb3.size; have q3 := hb7.size; omega, .inl e⟩
        · refine ⟨by have q1 : w3.drew.heap.size = w3.heap.size := rfl; have q2 := hb3.size; have q3 := hb7.size; omega, ow.lt, .inr ⟨ow, ?_⟩⟩
          intro ee
          rcases ho3 with ⟨e', e1'⟩ | ⟨e', ow'⟩
          · have q1 : w3.drew.heap.size = w3.heap.size := rfl; have q2 := hb3.size; have q3 := hb7.size; omega
          · have q4 := ow'.lt
            have q1 : w3.drew.heap.size = w3.heap.size := rfl; have q2 := hb3.size; have q3 := hb7.size; omega
      refine ⟨hl3.1, hl7.1, by omega, by omega, hc3, hc7, hl3.2.2.imp id (fun h => h.off hon (by omega)), hl7.2.2.imp id (fun h => h.1.off hon (by omega)), hl7.2.2.imp id (fun h => h.2)⟩
  · rintro a' Y ⟨b1, k1, b2, k2, x1, x2, rfl, hob, hvb, htwo, hBY, hobl⟩
    simp only [Act.put, List.setIfInBounds_toArray, List.set_cons_zero, List.set_cons_succ]
    have hfo : Fit o := HR1.out.fit
    have hfb : Fit b := HR2.out.fit
    have hrb : RowC Y (.slice (some ⟨b1, 0, none⟩) b.length k1) b := ((CopyAt.mk (B := ob + 1) htwo.lo1 htwo.lt1 htwo.c1 htwo.o1).bs hfb (by omega)).row
    have hro : RowC Y (.slice (some ⟨b2, 0, none⟩) o.length k2) o := ((CopyAt.mk (B := ob + 1) htwo.lo2 htwo.lt2 htwo.c2 htwo.o2).bs hfo (by omega)).row
    have HLO : Hid _ := vb_load hob
    have K1 : Hid _ := Split_calls f mf off (.slice (some ⟨b2, 0, none⟩) o.length k2) (.slice (some ⟨b1, 0, none⟩) b.length k1) o b mtu Y hro hrb hoff hmt
    have HOB : Hid (Y.heap[ob]? = some (BV f mf off (.slice (some ⟨b2, 0, none⟩) o.length k2) (.slice (some ⟨b1, 0, none⟩) b.length k1))) := hob
    have HVB : Hid (Y.heap[w.heap.size]? = some (BV f mf off so1 sb1)) := hvb
    have HTW : Hid (Two (ob + 1) Y b1 k1 b2 k2 b o) := htwo
    have HBY : Hid (Below w.heap.size w Y) := hBY
    have HRO : Hid (RowC Y (.slice (some ⟨b2, 0, none⟩) o.length k2) o) := hro
    have HRB : Hid (RowC Y (.slice (some ⟨b1, 0, none⟩) b.length k1) b) := hrb
    have HYL : Hid (b1 < Y.heap.size ∧ b2 < Y.heap.size ∧ ob + 1 ≤ b1 ∧ ob + 1 ≤ b2 ∧ ob < Y.heap.size) := ⟨htwo.lt1, htwo.lt2, htwo.lo1, htwo.lo2, hobl⟩
    clear hob hvb htwo hBY hro hrb hfo hfb HVB3 HOX3 HB03 HS3 hobl

    go_wp2_with first
      | ((with_reducible show wpList _ _ _ ({ dst := _, op := Op.load 27 (Operand.tmp 5), type := _, pos := _, after := _, guard := _ } :: _) _ _); refine armL (.tmp 5) 27 rfl rfl rfl HLO.out ?_)
    refine Calls.mono K1.out ?_
    rintro e X1 ⟨v1, rfl, hr1, hB1⟩
    have HOB1 : Hid (X1.heap[ob]? = some (BV f mf off (.slice (some ⟨b2, 0, none⟩) o.length k2) (.slice (some ⟨b1, 0, none⟩) b.length k1))) := blk_on HOB.out hB1
    have HVB1 : Hid (X1.heap[w.heap.size]? = some (BV f mf off so1 sb1)) := blk_on HVB.out hB1
    have HBX1 : Hid (Below w.heap.size w X1) := HBY.out.trans (hB1.mono HBY.out.size)
    have HL5 : Hid _ := vb_load HOB1.out
    have HL2 : Hid _ := vb_load HVB1.out
    have HSM : Hid _ := same_v4 hf (mf := mf) (HRO.out.on hB1) (HRB.out.on hB1) (HR1.out.on HBX1.out) (HR2.out.on HBX1.out) hoff
    have hO1 : b = [] ∨ OwnG X1 b1 b := HTW.out.o1.imp id (fun h => h.kept h.lt hB1)
    have hO2 : o = [] ∨ OwnG X1 b2 o := HTW.out.o2.imp id (fun h => h.kept h.lt hB1)
    obtain ⟨av, cv, ev⟩ := hr1.slc
    subst ev
    have HR : Hid _ := hr1
    have hYX := hB1.size
    have HO1 : Hid _ := hO1
    have HO2 : Hid _ := hO2
    have HLN : Hid ((outL f.df mf off o b mtu).length ≤ 100000) := outL_len
    have HOF : Hid (∀ (j : Nat) (g : Fg), (outL f.df mf off o b mtu)[j]? = some g → -9223372036854775808 ≤ g.off ∧ g.off ≤ 9223372036854775807) := fun j g h => outL_off j g h
    have K2 : Hid (∀ X, Below w.heap.size w X → Calls Try.prog 10 #[VV f mf off so1 sb1, .int .i64 mtu] X fun e w' => RSplitP f X (refE f.df mf off o b mtu) (outL f.df mf off o b mtu) e w') := fun X hX => RSplit_calls f mf off so1 sb1 o b mtu X (HR1.out.on hX) (HR2.out.on hX) hoff hmt
    have HNE : Hid (o = [] ∨ b1 ≠ b2) := HTW.out.ne
    clear hr1 hB1 hO1 hO2 HRO HRB K1 HLO HTW HBY HOB HVB
    generalize refE f.df mf off o b mtu = E at *
    generalize outL f.df mf off o b mtu = LL at *
    generalize hLN : LL.length = LN at *
    have HLNE : Hid _ := hLN
    clear hLN

    go_wp2_with first
      | ((with_reducible show wpList _ _ _ ({ dst := _, op := Op.load 27 (Operand.tmp 5), type := _, pos := _, after := _, guard := _ } :: _) _ _); refine armL (.tmp 5) 27 rfl rfl rfl HL5.out ?_)
      | ((with_reducible show wpList _ _ _ ({ dst := _, op := Op.load 27 (Operand.tmp 2), type := _, pos := _, after := _, guard := _ } :: _) _ _); refine armL (.tmp 2) 27 rfl rfl rfl HL2.out ?_)
    refine Calls.mono HSM.out ?_
    rintro e X2 ⟨rfl, hB2⟩
    have HBX2 : Hid (Below w.heap.size w X2) := HBX1.out.trans (hB2.mono HBX1.out.size)
    have HOB2 : Hid (X2.heap[ob]? = some (BV f mf off (.slice (some ⟨b2, 0, none⟩) o.length k2) (.slice (some ⟨b1, 0, none⟩) b.length k1))) := blk_on HOB1.out hB2
    have HVB2 : Hid (X2.heap[w.heap.size]? = some (BV f mf off so1 sb1)) := blk_on HVB1.out hB2
    have HRX : Hid _ := HR.out.on hB2
    have HO1X : Hid (b = [] ∨ OwnG X2 b1 b) := HO1.out.imp id (fun h => h.kept h.lt hB2)
    have HO2X : Hid (o = [] ∨ OwnG X2 b2 o) := HO2.out.imp id (fun h => h.kept h.lt hB2)
    have hX12 : Y.heap.size ≤ X2.heap.size := Nat.le_trans hYX hB2.size
    have d16 := vb16 HOB2.out
    obtain ⟨nb, hnb⟩ : ∃ nb, b.length = nb := ⟨_, rfl⟩
    obtain ⟨no, hno⟩ : ∃ no, o.length = no := ⟨_, rfl⟩
    have HNB : Hid _ := hnb
    have HNO : Hid _ := hno
    rw [hnb] at HOB2 d16 hbl
    rw [hno] at HOB2 hol
    clear hB2 HSM HL5 HL2 HOB1 HVB1 HBX1 HR HO1 HO2 hnb hno
    rw [HNB.out, HNO.out]
    go_wp2_with fail
    go_loopw [38] (fun i wr => ∃ k : Nat, k ≤ nb ∧ i = .int .i64 k ∧ Hid (Sep (fun c => c = b1) X2 wr) ∧ Hid (k < nb → ∃ zs, zs.length = nb ∧ OwnG wr b1 zs)) (fun i _ => nb - (intOf i).toNat)
    case atStart =>
      refine ⟨0, Nat.zero_le _, rfl, Sep.refl _ _, fun h => ?_⟩
      rcases HO1X.out with e | e
      · rw [e] at HNB; have := HNB.out; simp at this; omega
      · exact ⟨b, HNB.out, e⟩
    case round =>
      obtain ⟨k, hk, rfl, hsep, hown⟩ := hrel
      have hbw : wr.heap[ob]? = some (BV f mf off (.slice (some ⟨b2, 0, none⟩) no k2) (.slice (some ⟨b1, 0, none⟩) nb k1)) := hsep.out.blk HOB2.out (fun e => by have := HYL.out; omega)
      by_cases hlt : k < nb
      · obtain ⟨zs, hzl, hog⟩ := hown.out hlt
        have hki : (k : Int) < (nb : Int) := by omega
        have HOG : Hid (OwnG wr b1 zs) := hog
        have HBW : Hid _ := hbw
        have HSEP : Hid (Sep (fun c => c = b1) X2 wr) := hsep.out
        clear hog hbw hsep hown
        go_wp2_with fail
        refine region_mid (fun a0 a' w' => a' = ((((((((((a0.put (some 41) (.pointer (some ⟨ob, 16, none⟩))).put (some 42) (.slice (some ⟨b1, 0, none⟩) nb k1)).put (some 43) (.int .i64 (k : Nat))).put (some 44) (.pointer (some ⟨ob, 16, none⟩))).put (some 45) (.slice (some ⟨b1, 0, none⟩) nb k1)).put (some 46) (.int .i64 (k : Nat))).put (some 47) (.pointer (some ⟨b1, k, none⟩))).put (some 48) (.int .u8 (zs[k]?.getD 0))).put (some 49) (.int .u8 (bits .xor .u8 (zs[k]?.getD 0) 255))).put (some 50) (.pointer (some ⟨b1, k, none⟩))) ∧ OwnG w' b1 (zs.set k (bits .xor .u8 (zs[k]?.getD 0) 255)) ∧ Only b1 wr w') ?_ ?_
        · skip
          refine wp_region_held (S := fun X => X.heap[ob]? = some (BV f mf off (.slice (some ⟨b2, 0, none⟩) no k2) (.slice (some ⟨b1, 0, none⟩) nb k1))) (by kernel_rfl) ?_
          show wpAnyH _ _ _ _ _ 11 (Array.replicate 11 false) _ _
          have hs0 : wr.drew.heap[ob]? = some (BV f mf off (.slice (some ⟨b2, 0, none⟩) no k2) (.slice (some ⟨b1, 0, none⟩) nb k1)) := HBW.out
          refine take_one (i := 0) (d := some 41) (v := .pointer (some ⟨ob, 16, none⟩)) rfl rfl rfl (by kernel_rfl) (by kernel_rfl) (by kernel_rfl) (fun _ _ _ _ _ h => h.elim) (fun W hS => by kernel_rfl) hs0 ?_
          simp only [Act.put, List.setIfInBounds_toArray, List.set_cons_zero, List.set_cons_succ]
          refine take_one (i := 1) (d := some 42) (v := .slice (some ⟨b1, 0, none⟩) nb k1) rfl rfl rfl (by kernel_rfl) (by kernel_rfl) (by kernel_rfl) (fun _ _ _ _ _ h => h.elim) (fun W hS => ex_load 41 rfl rfl (vb16 hS) ⟨_, _, _, rfl⟩) hs0 ?_
          simp only [Act.put, List.setIfInBounds_toArray, List.set_cons_zero, List.set_cons_succ]
          refine take_one (i := 2) (d := some 43) (v := .int .i64 (k : Nat)) rfl rfl rfl (by kernel_rfl) (by kernel_rfl) (by kernel_rfl) (fun _ _ _ _ _ h => h.elim) (fun W hS => by kernel_rfl) hs0 ?_
          simp only [Act.put, List.setIfInBounds_toArray, List.set_cons_zero, List.set_cons_succ]
          refine take_one (i := 3) (d := some 44) (v := .pointer (some ⟨ob, 16, none⟩)) rfl rfl rfl (by kernel_rfl) (by kernel_rfl) (by kernel_rfl) (fun _ _ _ _ _ h => h.elim) (fun W hS => by kernel_rfl) hs0 ?_
          simp only [Act.put, List.setIfInBounds_toArray, List.set_cons_zero, List.set_cons_succ]
          refine take_one (i := 4) (d := some 45) (v := .slice (some ⟨b1, 0, none⟩) nb k1) rfl rfl rfl (by kernel_rfl) (by kernel_rfl) (by kernel_rfl) (fun _ _ _ _ _ h => h.elim) (fun W hS => ex_load 44 rfl rfl (vb16 hS) ⟨_, _, _, rfl⟩) hs0 ?_
          simp only [Act.put, List.setIfInBounds_toArray, List.set_cons_zero, List.set_cons_succ]
          refine take_one (i := 5) (d := some 46) (v := .int .i64 (k : Nat)) rfl rfl rfl (by kernel_rfl) (by kernel_rfl) (by kernel_rfl) (fun _ _ _ _ _ h => h.elim) (fun W hS => by kernel_rfl) hs0 ?_
          simp only [Act.put, List.setIfInBounds_toArray, List.set_cons_zero, List.set_cons_succ]
          refine take_one (i := 6) (d := some 47) (v := .pointer (some ⟨b1, k, none⟩)) rfl rfl rfl (by kernel_rfl) (by kernel_rfl) (by kernel_rfl) (fun _ _ _ _ _ h => h.elim) (fun W hS => ex_index (.tmp 45) (.tmp 46) rfl rfl rfl hlt) hs0 ?_
          simp only [Act.put, List.setIfInBounds_toArray, List.set_cons_zero, List.set_cons_succ]
          have hog0 : OwnG wr.drew b1 zs := ⟨HOG.out.typed, HOG.out.cell⟩
          refine all_one (i := 7) (by kernel_rfl) rfl rfl ?_
          refine wp_loadA (d := some 48) (.tmp 47) 5 rfl rfl rfl (ld_u8 (hog0.cell k (by omega))) ⟨hs0, ?_⟩
          simp only [Act.put, List.setIfInBounds_toArray, List.set_cons_zero, List.set_cons_succ]
          refine take_one (i := 8) (d := some 49) (v := .int .u8 (bits .xor .u8 (zs[k]?.getD 0) 255)) rfl rfl rfl (by kernel_rfl) (by kernel_rfl) (by kernel_rfl) (fun _ _ _ _ _ h => h.elim) (fun W hS => ex_xor (.tmp 48) rfl rfl) hs0 ?_
          simp only [Act.put, List.setIfInBounds_toArray, List.set_cons_zero, List.set_cons_succ]
          refine take_one (i := 9) (d := some 50) (v := .pointer (some ⟨b1, k, none⟩)) rfl rfl rfl (by kernel_rfl) (by kernel_rfl) (by kernel_rfl) (fun _ _ _ _ _ h => h.elim) (fun W hS => ex_index (.tmp 42) (.tmp 43) rfl rfl rfl hlt) hs0 ?_
          simp only [Act.put, List.setIfInBounds_toArray, List.set_cons_zero, List.set_cons_succ]
          have hst := st_u8 hog0 (i := k) (by omega) (bits .xor .u8 (zs[k]?.getD 0) 255)
          refine all_one (i := 10) (by kernel_rfl) rfl rfl ?_
          refine wp_storeA (.tmp 50) (.tmp 49) 5 rfl rfl rfl rfl hst ⟨blk_set_other hs0 (by have := HYL.out; omega) _ _, ?_⟩
          refine wpAnyH_done (by kernel_rfl) ?_ _
          exact ⟨rfl, hog0.set k (by omega) _, ((Only.refl b1 wr).drew).set k _⟩
        · rintro a' wr' ⟨rfl, hog', hon'⟩
          simp only [Act.put, List.setIfInBounds_toArray, List.set_cons_zero, List.set_cons_succ]
          have HOGN : Hid (k + 1 < nb → ∃ zs, zs.length = nb ∧ OwnG wr' b1 zs) := fun _ => ⟨_, by rw [List.length_set]; exact hzl, hog'⟩
          have HSEPN : Hid (Sep (fun c => c = b1) X2 wr') := HSEP.out.trans (Sep.of_only hon' rfl)
          clear hog' hon' HOG HSEP HBW
          go_wp2_with fail
          exact ⟨⟨k + 1, by omega, by simp, HSEPN.out, HOGN.out⟩, by simp [intOf]; omega⟩
      · have hNk : ¬ k < nb := hlt
        have HSEP1 : Hid (Sep (fun c => c = b1) X2 wr) := hsep.out
        have e15 := vb15 hbw
        have HO2W : Hid (o = [] ∨ OwnG wr b2 o) := by
          rcases HO2X.out with e | e
          · exact .inl e
          · rcases HNE.out with e' | hne
            · exact .inl e'
            · refine .inr ⟨?_, fun j hj => ?_⟩
              · obtain ⟨cs, t, hc⟩ := e.typed
                exact ⟨cs, t, hsep.out.blk hc (fun ee => hne ee.symm)⟩
              · rw [← e.cell j hj]
                have := hsep.out.same b2 e.lt (fun ee => hne ee.symm)
                simp [World.cell?, this]
        have HOBW : Hid (wr.heap[ob]? = some (BV f mf off (.slice (some ⟨b2, 0, none⟩) no k2) (.slice (some ⟨b1, 0, none⟩) nb k1))) := hbw
        clear hbw hsep hown hlt
        obtain ⟨wa, hwa⟩ : ∃ wa, wa = wr := ⟨_, rfl⟩
        rw [← hwa] at HSEP1 HOBW HO2W
        have HWA : Hid _ := hwa
        clear hwa
        go_wp2_with fail
        go_loopw [55] (fun i wr => ∃ k : Nat, k ≤ no ∧ i = .int .i64 k ∧ Hid (Sep (fun c => c = b2) wa wr) ∧ Hid (k < no → ∃ zs, zs.length = no ∧ OwnG wr b2 zs)) (fun i _ => no - (intOf i).toNat)
        case atStart =>
          refine ⟨0, Nat.zero_le _, rfl, by show Sep _ _ _; rw [← HWA.out]; exact Sep.refl _ _, fun h => ?_⟩
          rcases HO2W.out with e | e
          · rw [e] at HNO; have := HNO.out; simp at this; omega
          · exact ⟨o, HNO.out, by rw [← HWA.out]; exact e⟩
        case round =>
          obtain ⟨k, hk, rfl, hsep, hown⟩ := hrel
          have hbw : wr.heap[ob]? = some (BV f mf off (.slice (some ⟨b2, 0, none⟩) no k2) (.slice (some ⟨b1, 0, none⟩) nb k1)) := hsep.out.blk HOBW.out (fun e => by have := HYL.out; omega)
          by_cases hlt : k < no
          · obtain ⟨zs, hzl, hog⟩ := hown.out hlt
            have hki : (k : Int) < (no : Int) := by omega
            have HOG : Hid (OwnG wr b2 zs) := hog
            have HBW : Hid _ := hbw
            have HSEP : Hid (Sep (fun c => c = b2) wa wr) := hsep.out
            clear hog hbw hsep hown
            go_wp2_with fail
            refine region_mid (fun a0 a' w' => a' = ((((((((((a0.put (some 58) (.pointer (some ⟨ob, 15, none⟩))).put (some 59) (.slice (some ⟨b2, 0, none⟩) no k2)).put (some 60) (.int .i64 (k : Nat))).put (some 61) (.pointer (some ⟨ob, 15, none⟩))).put (some 62) (.slice (some ⟨b2, 0, none⟩) no k2)).put (some 63) (.int .i64 (k : Nat))).put (some 64) (.pointer (some ⟨b2, k, none⟩))).put (some 65) (.int .u8 (zs[k]?.getD 0))).put (some 66) (.int .u8 (bits .xor .u8 (zs[k]?.getD 0) 255))).put (some 67) (.pointer (some ⟨b2, k, none⟩))) ∧ OwnG w' b2 (zs.set k (bits .xor .u8 (zs[k]?.getD 0) 255)) ∧ Only b2 wr w') ?_ ?_
            · skip
              refine wp_region_held (S := fun X => X.heap[ob]? = some (BV f mf off (.slice (some ⟨b2, 0, none⟩) no k2) (.slice (some ⟨b1, 0, none⟩) nb k1))) (by kernel_rfl) ?_
              show wpAnyH _ _ _ _ _ 11 (Array.replicate 11 false) _ _
              have hs0 : wr.drew.heap[ob]? = some (BV f mf off (.slice (some ⟨b2, 0, none⟩) no k2) (.slice (some ⟨b1, 0, none⟩) nb k1)) := HBW.out
              refine take_one (i := 0) (d := some 58) (v := .pointer (some ⟨ob, 15, none⟩)) rfl rfl rfl (by kernel_rfl) (by kernel_rfl) (by kernel_rfl) (fun _ _ _ _ _ h => h.elim) (fun W hS => by kernel_rfl) hs0 ?_
              simp only [Act.put, List.setIfInBounds_toArray, List.set_cons_zero, List.set_cons_succ]
              refine take_one (i := 1) (d := some 59) (v := .slice (some ⟨b2, 0, none⟩) no k2) rfl rfl rfl (by kernel_rfl) (by kernel_rfl) (by kernel_rfl) (fun _ _ _ _ _ h => h.elim) (fun W hS => ex_load 58 rfl rfl (vb15 hS) ⟨_, _, _, rfl⟩) hs0 ?_
              simp only [Act.put, List.setIfInBounds_toArray, List.set_cons_zero, List.set_cons_succ]
              refine take_one (i := 2) (d := some 60) (v := .int .i64 (k : Nat)) rfl rfl rfl (by kernel_rfl) (by kernel_rfl) (by kernel_rfl) (fun _ _ _ _ _ h => h.elim) (fun W hS => by kernel_rfl) hs0 ?_
              simp only [Act.put, List.setIfInBounds_toArray, List.set_cons_zero, List.set_cons_succ]
              refine take_one (i := 3) (d := some 61) (v := .pointer (some ⟨ob, 15, none⟩)) rfl rfl rfl (by kernel_rfl) (by kernel_rfl) (by kernel_rfl) (fun _ _ _ _ _ h => h.elim) (fun W hS => by kernel_rfl) hs0 ?_
              simp only [Act.put, List.setIfInBounds_toArray, List.set_cons_zero, List.set_cons_succ]
              refine take_one (i := 4) (d := some 62) (v := .slice (some ⟨b2, 0, none⟩) no k2) rfl rfl rfl (by kernel_rfl) (by kernel_rfl) (by kernel_rfl) (fun _ _ _ _ _ h => h.elim) (fun W hS => ex_load 61 rfl rfl (vb15 hS) ⟨_, _, _, rfl⟩) hs0 ?_
              simp only [Act.put, List.setIfInBounds_toArray, List.set_cons_zero, List.set_cons_succ]
              refine take_one (i := 5) (d := some 63) (v := .int .i64 (k : Nat)) rfl rfl rfl (by kernel_rfl) (by kernel_rfl) (by kernel_rfl) (fun _ _ _ _ _ h => h.elim) (fun W hS => by kernel_rfl) hs0 ?_
              simp only [Act.put, List.setIfInBounds_toArray, List.set_cons_zero, List.set_cons_succ]
              refine take_one (i := 6) (d := some 64) (v := .pointer (some ⟨b2, k, none⟩)) rfl rfl rfl (by kernel_rfl) (by kernel_rfl) (by kernel_rfl) (fun _ _ _ _ _ h => h.elim) (fun W hS => ex_index (.tmp 62) (.tmp 63) rfl rfl rfl hlt) hs0 ?_
              simp only [Act.put, List.setIfInBounds_toArray, List.set_cons_zero, List.set_cons_succ]
              have hog0 : OwnG wr.drew b2 zs := ⟨HOG.out.typed, HOG.out.cell⟩
              refine all_one (i := 7) (by kernel_rfl) rfl rfl ?_
              refine wp_loadA (d := some 65) (.tmp 64) 5 rfl rfl rfl (ld_u8 (hog0.cell k (by omega))) ⟨hs0, ?_⟩
              simp only [Act.put, List.setIfInBounds_toArray, List.set_cons_zero, List.set_cons_succ]
              refine take_one (i := 8) (d := some 66) (v := .int .u8 (bits .xor .u8 (zs[k]?.getD 0) 255)) rfl rfl rfl (by kernel_rfl) (by kernel_rfl) (by kernel_rfl) (fun _ _ _ _ _ h => h.elim) (fun W hS => ex_xor (.tmp 65) rfl rfl) hs0 ?_
              simp only [Act.put, List.setIfInBounds_toArray, List.set_cons_zero, List.set_cons_succ]
              refine take_one (i := 9) (d := some 67) (v := .pointer (some ⟨b2, k, none⟩)) rfl rfl rfl (by kernel_rfl) (by kernel_rfl) (by kernel_rfl) (fun _ _ _ _ _ h => h.elim) (fun W hS => ex_index (.tmp 59) (.tmp 60) rfl rfl rfl hlt) hs0 ?_
              simp only [Act.put, List.setIfInBounds_toArray, List.set_cons_zero, List.set_cons_succ]
              have hst := st_u8 hog0 (i := k) (by omega) (bits .xor .u8 (zs[k]?.getD 0) 255)
              refine all_one (i := 10) (by kernel_rfl) rfl rfl ?_
              refine wp_storeA (.tmp 67) (.tmp 66) 5 rfl rfl rfl rfl hst ⟨blk_set_other hs0 (by have := HYL.out; omega) _ _, ?_⟩
              refine wpAnyH_done (by kernel_rfl) ?_ _
              exact ⟨rfl, hog0.set k (by omega) _, ((Only.refl b2 wr).drew).set k _⟩
            · rintro a' wr' ⟨rfl, hog', hon'⟩
              simp only [Act.put, List.setIfInBounds_toArray, List.set_cons_zero, List.set_cons_succ]
              have HOGN : Hid (k + 1 < no → ∃ zs, zs.length = no ∧ OwnG wr' b2 zs) := fun _ => ⟨_, by rw [List.length_set]; exact hzl, hog'⟩
              have HSEPN : Hid (Sep (fun c => c = b2) wa wr') := HSEP.out.trans (Sep.of_only hon' rfl)
              clear hog' hon' HOG HSEP HBW
              go_wp2_with fail
              exact ⟨⟨k + 1, by omega, by simp, HSEPN.out, HOGN.out⟩, by simp [intOf]; omega⟩
          · have hNk2 : ¬ k < no := hlt
            have hS : Sep (fun c => c = b1 ∨ c = b2) X2 wr := (HSEP1.out.mono (fun c _ h => .inl h)).trans (hsep.out.mono (fun c _ h => .inr h))
            have hyl := HYL.out
            have HLV : Hid _ := vb_load (hS.blk HVB2.out (fun e => by rcases e with e | e <;> omega))
            have HBW : Hid (Below w.heap.size w wr) := HBX2.out.trans (hS.below HBX2.out.size (fun c hc e => by rcases e with e | e <;> omega))
            have HRW : Hid _ := HRX.out.sep hS (fun c hc e => by rcases e with e | e <;> omega) (fun c hc e => by have := (HRX.out.lt hc).1; rcases e with e | e <;> omega)
            have K2W : Hid _ := K2.out wr HBW.out
            clear hbw hsep hown hlt hS hyl HSEP1 HOBW HO2W HWA

            go_wp2_with first
              | ((with_reducible show wpList _ _ _ ({ dst := _, op := Op.load 27 (Operand.tmp 2), type := _, pos := _, after := _, guard := _ } :: _) _ _); refine armL (.tmp 2) 27 rfl rfl rfl HLV.out ?_)
            refine Calls.mono K2W.out ?_
            rintro e X5 ⟨v2, rfl, hr2, hb5⟩
            obtain ⟨a5, c5, e5⟩ := hr2.slc
            subst e5
            have HSR : Hid _ := rows_same hf (HRW.out.on hb5) hr2 HOF.out (by rw [HLNE.out]; exact HLN.out)
            have HB5 : Hid (Below w.heap.size w X5) := HBW.out.trans (hb5.mono HBW.out.size)
            rw [HLNE.out] at HSR
            rw [HLNE.out]
            clear hr2 hb5 HRW K2W HLV HBW
            go_wp2_with fail
            refine Calls.mono HSR.out ?_
            rintro e X7 ⟨rfl, hb7⟩
            have HB7 : Hid (Below w.heap.size w X7) := HB5.out.trans (hb7.mono HB5.out.size)
            clear hb7 HSR
            go_wp2_with fail
            refine Calls.mono (HAL.out _) ?_
            rintro e X8 ⟨rfl, hb8⟩
            have HB8 : Hid (Below w.heap.size w X8) := HB7.out.trans (hb8.mono HB7.out.size)
            clear hb8
            go_wp2
            go_ret
            exact ⟨rfl, HB8.out⟩
end

theorem splitOwn_open {H : Type} {enc : TypeId × Value → H} {W : World} {base : Nat} (v0 v1 : Value) {d0 d1 : DataW H} {p0 p1 : List MemPlace}
    (o0 : Value.okWide Try.prog W .any base 27 v0) (h0 : DataW.Trod enc Try.prog W 0 (fun _ => true) true 27 v0 d0 p0) (z0 : ∀ k ∈ d0.weights Try.prog 27, k ≤ reachBytes)
    (o1 : Value.okWide Try.prog W .any base 3 v1) (h1 : DataW.Trod enc Try.prog W 0 (fun _ => true) true 3 v1 d1 p1) (z1 : ∀ k ∈ d1.weights Try.prog 3, k ≤ reachBytes) :
    Calls Try.prog 7 #[v0, v1] W fun e w' => e = .returned (.bool true) ∧ Below W.heap.size W w' := by
  obtain ⟨f, mf, off, so, sb, opts, body, rfl, hf, hr1, hr2, ho⟩ := open_dg h0 z0
  obtain ⟨k, rfl, _, _, wk⟩ := open_int Try.underlying3 o1 h1
  exact splitOwn_walk f hf mf off so sb opts body k W hr1 hr2 ho (bounds_i64 wk)

end Go.Proofs.Ytackllcfnlhkpaa
