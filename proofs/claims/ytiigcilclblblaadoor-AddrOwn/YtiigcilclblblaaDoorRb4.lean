/-
  The document's own text of every IPv6 address.
-/
import Derived.Test.YtiigcilclblblaaDoorRb3
namespace Go.Proofs.YtiigcilclblblaaDoor
open Go Go.RowKit
set_option linter.unusedVariables false
set_option linter.unusedSimpArgs false

def intsL (xs : List Int) : List Value := xs.map (fun z => .int .i64 z)
/-- One number more. -/
theorem own_num {w : World} {base : Nat} {v : Value} {xs : List Int} (h : w.ownsRow base 3 1 v xs.length (intsL xs)) (hb : base ≤ w.heap.size) (hn : xs.length ≤ 1000) (z : Int) (ty : TypeId) :
    ∃ v' w1, (Builtin.append_ #[87, 87] ty #[v, .slice (some ⟨w.heap.size, 0, none⟩) 1 1]).run Tryd.prog (w.alloc (.cells #[.int .i64 z] 3)) = .ok v' w1 ∧ w1.ownsRow base 3 1 v' (xs ++ [z]).length (intsL (xs ++ [z])) ∧ w.grownBy w1 v.ownBlock := by
  obtain ⟨v', w1, hrun, hown', hgrow, _⟩ := own_lit elem_int h hb (by omega) (by decide) [.int .i64 z] 1 rfl (by decide) (fun u hu => by simp at hu; subst hu; rfl) ty #[.int .i64 z] rfl
  have e : intsL xs ++ [.int .i64 z] = intsL (xs ++ [z]) := by simp [intsL]
  have e2 : xs.length + 1 = (xs ++ [z]).length := by simp
  rw [e, e2] at hown'
  exact ⟨v', w1, hrun, hown', hgrow⟩
theorem below_grown {B : Nat} {u w w1 : World} {v : Value} {n : Nat} {xs : List Value} {e : TypeId} (hB : Below B u w) (hown : w.ownsRow B e 1 v n xs) (hg : w.grownBy w1 v.ownBlock) (hb : B ≤ w.heap.size) : Below B u w1 :=
  hB.grown hg hb (fun j hj => (hown.lt j hj).1)
theorem hexText_len (z : Int) : (hexText z).length ≤ 4 := by
  unfold hexText
  split
  · simp
  · split
    · simp
    · split <;> simp

set_option maxHeartbeats 4000000 in
set_option maxRecDepth 100000 in
theorem rtext6_all (a0 a1 a2 a3 a4 a5 a6 a7 a8 a9 a10 a11 a12 a13 a14 a15 : Int) (h0 : 0 ≤ a0 ∧ a0 < 256) (h1 : 0 ≤ a1 ∧ a1 < 256) (h2 : 0 ≤ a2 ∧ a2 < 256) (h3 : 0 ≤ a3 ∧ a3 < 256) (h4 : 0 ≤ a4 ∧ a4 < 256) (h5 : 0 ≤ a5 ∧ a5 < 256) (h6 : 0 ≤ a6 ∧ a6 < 256) (h7 : 0 ≤ a7 ∧ a7 < 256) (h8 : 0 ≤ a8 ∧ a8 < 256) (h9 : 0 ≤ a9 ∧ a9 < 256) (h10 : 0 ≤ a10 ∧ a10 < 256) (h11 : 0 ≤ a11 ∧ a11 < 256) (h12 : 0 ≤ a12 ∧ a12 < 256) (h13 : 0 ≤ a13 ∧ a13 < 256) (h14 : 0 ≤ a14 ∧ a14 < 256) (h15 : 0 ≤ a15 ∧ a15 < 256) (w : World) (ht : Tz w) : Calls Tryd.prog 21 #[.agg #[.int .u8 a0, .int .u8 a1, .int .u8 a2, .int .u8 a3, .int .u8 a4, .int .u8 a5, .int .u8 a6, .int .u8 a7, .int .u8 a8, .int .u8 a9, .int .u8 a10, .int .u8 a11, .int .u8 a12, .int .u8 a13, .int .u8 a14, .int .u8 a15]] w fun e w' => e = .returned (strV (own6 [a0 * 256 + a1, a2 * 256 + a3, a4 * 256 + a5, a6 * 256 + a7, a8 * 256 + a9, a10 * 256 + a11, a12 * 256 + a13, a14 * 256 + a15])) ∧ Below w.heap.size w w' := by
  have hb0 := blk_new w (.cells #[.int .u8 a0, .int .u8 a1, .int .u8 a2, .int .u8 a3, .int .u8 a4, .int .u8 a5, .int .u8 a6, .int .u8 a7, .int .u8 a8, .int .u8 a9, .int .u8 a10, .int .u8 a11, .int .u8 a12, .int .u8 a13, .int .u8 a14, .int .u8 a15] 31)
  have hB0 := (Below.refl w.heap.size w).alloc (Nat.le_refl _) (.cells #[.int .u8 a0, .int .u8 a1, .int .u8 a2, .int .u8 a3, .int .u8 a4, .int .u8 a5, .int .u8 a6, .int .u8 a7, .int .u8 a8, .int .u8 a9, .int .u8 a10, .int .u8 a11, .int .u8 a12, .int .u8 a13, .int .u8 a14, .int .u8 a15] 31)
  have hz0 : (w.alloc (.cells #[.int .u8 a0, .int .u8 a1, .int .u8 a2, .int .u8 a3, .int .u8 a4, .int .u8 a5, .int .u8 a6, .int .u8 a7, .int .u8 a8, .int .u8 a9, .int .u8 a10, .int .u8 a11, .int .u8 a12, .int .u8 a13, .int .u8 a14, .int .u8 a15] 31)).heap.size = w.heap.size + 1 := by simp
  have HZ0 : Hid _ := hz0
  clear hz0
  have hG : ∀ x ∈ [a0 * 256 + a1, a2 * 256 + a3, a4 * 256 + a5, a6 * 256 + a7, a8 * 256 + a9, a10 * 256 + a11, a12 * 256 + a13, a14 * 256 + a15], 0 ≤ x ∧ x < 65536 := by
    intro x hx
    simp only [List.mem_cons, List.not_mem_nil, or_false] at hx
    rcases hx with rfl | rfl | rfl | rfl | rfl | rfl | rfl | rfl <;> omega
  obtain ⟨G, hGe⟩ : ∃ G, G = [a0 * 256 + a1, a2 * 256 + a3, a4 * 256 + a5, a6 * 256 + a7, a8 * 256 + a9, a10 * 256 + a11, a12 * 256 + a13, a14 * 256 + a15] := ⟨_, rfl⟩
  have hGl : G.length = 8 := by rw [hGe]; rfl
  rw [← hGe] at hG ⊢
  have hO := own_doc G hG hGl
  generalize own6 G = OW at *
  have HO : Hid _ := hO
  clear hO
  have HGE : Hid _ := hGe
  have HG : Hid _ := hG
  clear hGe hG
  have T0 : Hid (G.take 0 ++ [a0 * 256 + a1] = G.take 1) := by rw [HGE.out]; rfl
  have T1 : Hid (G.take 1 ++ [a2 * 256 + a3] = G.take 2) := by rw [HGE.out]; rfl
  have T2 : Hid (G.take 2 ++ [a4 * 256 + a5] = G.take 3) := by rw [HGE.out]; rfl
  have T3 : Hid (G.take 3 ++ [a6 * 256 + a7] = G.take 4) := by rw [HGE.out]; rfl
  have T4 : Hid (G.take 4 ++ [a8 * 256 + a9] = G.take 5) := by rw [HGE.out]; rfl
  have T5 : Hid (G.take 5 ++ [a10 * 256 + a11] = G.take 6) := by rw [HGE.out]; rfl
  have T6 : Hid (G.take 6 ++ [a12 * 256 + a13] = G.take 7) := by rw [HGE.out]; rfl
  have T7 : Hid (G.take 7 ++ [a14 * 256 + a15] = G.take 8) := by rw [HGE.out]; rfl
  go_enter Tryd.func21, Tryd.ntmps21
  generalize hW0 : w.alloc (.cells #[.int .u8 a0, .int .u8 a1, .int .u8 a2, .int .u8 a3, .int .u8 a4, .int .u8 a5, .int .u8 a6, .int .u8 a7, .int .u8 a8, .int .u8 a9, .int .u8 a10, .int .u8 a11, .int .u8 a12, .int .u8 a13, .int .u8 a14, .int .u8 a15] 31) = W0 at *
  have htw : Tz W0 := ht.on hB0
  have HW0 : Hid _ := hW0
  clear hW0
  go_wp2
  go_loopw [3, 4] (fun v i wr => ∃ k : Nat, k ≤ 8 ∧ i = .int .i64 k ∧ wr.ownsRow W0.heap.size 3 1 v (G.take k).length (intsL (G.take k)) ∧ Below W0.heap.size W0 wr) (fun _ i _ => 8 - (intOf i).toNat)
  case atStart => exact ⟨0, Nat.zero_le _, rfl, World.ownsRow_nil _ _ _ _, by rw [HW0.out]; exact Below.refl _ _⟩
  case round =>
    obtain ⟨k, hk, rfl, hown, hB⟩ := hrel
    by_cases hlt : k < 8
    · have hszr := hB.size
      have hbx : wr.heap[w.heap.size]? = _ := (hB.block _ (by have := HZ0.out; omega)).trans hb0
      have hkk : k = 0 ∨ k = 1 ∨ k = 2 ∨ k = 3 ∨ k = 4 ∨ k = 5 ∨ k = 6 ∨ k = 7 := by omega
      rcases hkk with rfl | rfl | rfl | rfl | rfl | rfl | rfl | rfl
      · have r1 := blk_cell hbx (j := 0) rfl
        have r2 := blk_cell hbx (j := 1) rfl
        obtain ⟨v', w1, hrun, hown', hgrow⟩ := own_num (w := wr.drew) (xs := G.take 0) hown hszr (by rw [List.length_take]; omega) (a0 * 256 + a1) 87
        have hB1 : Below W0.heap.size W0 w1 := below_grown (w := wr.drew) hB.drew hown hgrow hszr
        rw [T0.out] at hown'
        have HR1 : Hid _ := hrun
        have HO1 : Hid (w1.ownsRow W0.heap.size 3 1 v' (G.take 1).length (intsL (G.take 1))) := hown'
        have HB1 : Hid _ := hB1
        obtain ⟨v0, cap0, hv0, _⟩ := own_form hown
        obtain ⟨v1, cap1, hv1, _⟩ := own_form HO1.out
        have l0 : (G.take 0).length = 0 := by rw [List.length_take]; omega
        have l1 : (G.take 1).length = 1 := by rw [List.length_take]; omega
        rw [l0] at hv0
        rw [l1] at hv1
        have x0 : IntKind.i64.wrap 0 = 0 := by decide
        have x1 : IntKind.i64.wrap 1 = 1 := by decide
        have x2 : IntKind.i64.wrap 2 = 2 := by decide
        have x256 : IntKind.i64.wrap 256 = 256 := by decide
        have y1 : IntKind.i64.wrap a0 = a0 := by unfold IntKind.wrap; simp [IntKind.signed, IntKind.bits]; omega
        have y2 : IntKind.i64.wrap a1 = a1 := by unfold IntKind.wrap; simp [IntKind.signed, IntKind.bits]; omega
        have y3 : IntKind.i64.wrap (a0 * 256) = a0 * 256 := by unfold IntKind.wrap; simp [IntKind.signed, IntKind.bits]; omega
        have y4 : IntKind.i64.wrap (a0 * 256 + a1) = a0 * 256 + a1 := by unfold IntKind.wrap; simp [IntKind.signed, IntKind.bits]; omega
        subst hv0 hv1
        have r3 : ∀ o, (wr.drew.alloc o).cell? ⟨w.heap.size, 0, none⟩ = _ := fun o => (World.cell?_alloc_lt _ _ _ (Array.getElem?_eq_some_iff.1 hbx).1).trans r1
        have r4 : ∀ o, (wr.drew.alloc o).cell? ⟨w.heap.size, 1, none⟩ = _ := fun o => (World.cell?_alloc_lt _ _ _ (Array.getElem?_eq_some_iff.1 hbx).1).trans r2
        clear hrun hown' hown hgrow hbx hb0 hB0 hB1 l0 l1 hGl T0 T1 T2 T3 T4 T5 T6 T7 h2 h3 h4 h5 h6 h7 h8 h9 h10 h11 h12 h13 h14 h15
        go_wp2_with fail
        go_region_law (refine step_append_ex (R := fun v w2 => v = .slice v1 1 cap1 ∧ w2 = w1) rfl _ _ _ _ rfl rfl rfl ⟨_, _, HR1.out, rfl, rfl⟩ ?_; rintro _ _ ⟨rfl, rfl⟩)
        all_goals
          go_wp2
          exact ⟨⟨1, by decide, by simp, HO1.out, HB1.out⟩, by simp [intOf]⟩
      · have r1 := blk_cell hbx (j := 2) rfl
        have r2 := blk_cell hbx (j := 3) rfl
        obtain ⟨v', w1, hrun, hown', hgrow⟩ := own_num (w := wr.drew) (xs := G.take 1) hown hszr (by rw [List.length_take]; omega) (a2 * 256 + a3) 87
        have hB1 : Below W0.heap.size W0 w1 := below_grown (w := wr.drew) hB.drew hown hgrow hszr
        rw [T1.out] at hown'
        have HR1 : Hid _ := hrun
        have HO1 : Hid (w1.ownsRow W0.heap.size 3 1 v' (G.take 2).length (intsL (G.take 2))) := hown'
        have HB1 : Hid _ := hB1
        obtain ⟨v0, cap0, hv0, _⟩ := own_form hown
        obtain ⟨v1, cap1, hv1, _⟩ := own_form HO1.out
        have l0 : (G.take 1).length = 1 := by rw [List.length_take]; omega
        have l1 : (G.take 2).length = 2 := by rw [List.length_take]; omega
        rw [l0] at hv0
        rw [l1] at hv1
        have x0 : IntKind.i64.wrap 0 = 0 := by decide
        have x1 : IntKind.i64.wrap 1 = 1 := by decide
        have x2 : IntKind.i64.wrap 2 = 2 := by decide
        have x3 : IntKind.i64.wrap 3 = 3 := by decide
        have x256 : IntKind.i64.wrap 256 = 256 := by decide
        have y1 : IntKind.i64.wrap a2 = a2 := by unfold IntKind.wrap; simp [IntKind.signed, IntKind.bits]; omega
        have y2 : IntKind.i64.wrap a3 = a3 := by unfold IntKind.wrap; simp [IntKind.signed, IntKind.bits]; omega
        have y3 : IntKind.i64.wrap (a2 * 256) = a2 * 256 := by unfold IntKind.wrap; simp [IntKind.signed, IntKind.bits]; omega
        have y4 : IntKind.i64.wrap (a2 * 256 + a3) = a2 * 256 + a3 := by unfold IntKind.wrap; simp [IntKind.signed, IntKind.bits]; omega
        subst hv0 hv1
        have r3 : ∀ o, (wr.drew.alloc o).cell? ⟨w.heap.size, 2, none⟩ = _ := fun o => (World.cell?_alloc_lt _ _ _ (Array.getElem?_eq_some_iff.1 hbx).1).trans r1
        have r4 : ∀ o, (wr.drew.alloc o).cell? ⟨w.heap.size, 3, none⟩ = _ := fun o => (World.cell?_alloc_lt _ _ _ (Array.getElem?_eq_some_iff.1 hbx).1).trans r2
        clear hrun hown' hown hgrow hbx hb0 hB0 hB1 l0 l1 hGl T0 T1 T2 T3 T4 T5 T6 T7 h0 h1 h4 h5 h6 h7 h8 h9 h10 h11 h12 h13 h14 h15
        go_wp2_with fail
        go_region_law (refine step_append_ex (R := fun v w2 => v = .slice v1 2 cap1 ∧ w2 = w1) rfl _ _ _ _ rfl rfl rfl ⟨_, _, HR1.out, rfl, rfl⟩ ?_; rintro _ _ ⟨rfl, rfl⟩)
        all_goals
          go_wp2
          exact ⟨⟨2, by decide, by simp, HO1.out, HB1.out⟩, by simp [intOf]⟩
      · have r1 := blk_cell hbx (j := 4) rfl
        have r2 := blk_cell hbx (j := 5) rfl
        obtain ⟨v', w1, hrun, hown', hgrow⟩ := own_num (w := wr.drew) (xs := G.take 2) hown hszr (by rw [List.length_take]; omega) (a4 * 256 + a5) 87
        have hB1 : Below W0.heap.size W0 w1 := below_grown (w := wr.drew) hB.drew hown hgrow hszr
        rw [T2.out] at hown'
        have HR1 : Hid _ := hrun
        have HO1 : Hid (w1.ownsRow W0.heap.size 3 1 v' (G.take 3).length (intsL (G.take 3))) := hown'
        have HB1 : Hid _ := hB1
        obtain ⟨v0, cap0, hv0, _⟩ := own_form hown
        obtain ⟨v1, cap1, hv1, _⟩ := own_form HO1.out
        have l0 : (G.take 2).length = 2 := by rw [List.length_take]; omega
        have l1 : (G.take 3).length = 3 := by rw [List.length_take]; omega
        rw [l0] at hv0
        rw [l1] at hv1
        have x0 : IntKind.i64.wrap 0 = 0 := by decide
        have x1 : IntKind.i64.wrap 1 = 1 := by decide
        have x2 : IntKind.i64.wrap 2 = 2 := by decide
        have x4 : IntKind.i64.wrap 4 = 4 := by decide
        have x5 : IntKind.i64.wrap 5 = 5 := by decide
        have x256 : IntKind.i64.wrap 256 = 256 := by decide
        have y1 : IntKind.i64.wrap a4 = a4 := by unfold IntKind.wrap; simp [IntKind.signed, IntKind.bits]; omega
        have y2 : IntKind.i64.wrap a5 = a5 := by unfold IntKind.wrap; simp [IntKind.signed, IntKind.bits]; omega
        have y3 : IntKind.i64.wrap (a4 * 256) = a4 * 256 := by unfold IntKind.wrap; simp [IntKind.signed, IntKind.bits]; omega
        have y4 : IntKind.i64.wrap (a4 * 256 + a5) = a4 * 256 + a5 := by unfold IntKind.wrap; simp [IntKind.signed, IntKind.bits]; omega
        subst hv0 hv1
        have r3 : ∀ o, (wr.drew.alloc o).cell? ⟨w.heap.size, 4, none⟩ = _ := fun o => (World.cell?_alloc_lt _ _ _ (Array.getElem?_eq_some_iff.1 hbx).1).trans r1
        have r4 : ∀ o, (wr.drew.alloc o).cell? ⟨w.heap.size, 5, none⟩ = _ := fun o => (World.cell?_alloc_lt _ _ _ (Array.getElem?_eq_some_iff.1 hbx).1).trans r2
        clear hrun hown' hown hgrow hbx hb0 hB0 hB1 l0 l1 hGl T0 T1 T2 T3 T4 T5 T6 T7 h0 h1 h2 h3 h6 h7 h8 h9 h10 h11 h12 h13 h14 h15
        go_wp2_with fail
        go_region_law (refine step_append_ex (R := fun v w2 => v = .slice v1 3 cap1 ∧ w2 = w1) rfl _ _ _ _ rfl rfl rfl ⟨_, _, HR1.out, rfl, rfl⟩ ?_; rintro _ _ ⟨rfl, rfl⟩)
        all_goals
          go_wp2
          exact ⟨⟨3, by decide, by simp, HO1.out, HB1.out⟩, by simp [intOf]⟩
      · have r1 := blk_cell hbx (j := 6) rfl
        have r2 := blk_cell hbx (j := 7) rfl
        obtain ⟨v', w1, hrun, hown', hgrow⟩ := own_num (w := wr.drew) (xs := G.take 3) hown hszr (by rw [List.length_take]; omega) (a6 * 256 + a7) 87
        have hB1 : Below W0.heap.size W0 w1 := below_grown (w := wr.drew) hB.drew hown hgrow hszr
        rw [T3.out] at hown'
        have HR1 : Hid _ := hrun
        have HO1 : Hid (w1.ownsRow W0.heap.size 3 1 v' (G.take 4).length (intsL (G.take 4))) := hown'
        have HB1 : Hid _ := hB1
        obtain ⟨v0, cap0, hv0, _⟩ := own_form hown
        obtain ⟨v1, cap1, hv1, _⟩ := own_form HO1.out
        have l0 : (G.take 3).length = 3 := by rw [List.length_take]; omega
        have l1 : (G.take 4).length = 4 := by rw [List.length_take]; omega
        rw [l0] at hv0
        rw [l1] at hv1
        have x0 : IntKind.i64.wrap 0 = 0 := by decide
        have x1 : IntKind.i64.wrap 1 = 1 := by decide
        have x2 : IntKind.i64.wrap 2 = 2 := by decide
        have x3 : IntKind.i64.wrap 3 = 3 := by decide
        have x6 : IntKind.i64.wrap 6 = 6 := by decide
        have x7 : IntKind.i64.wrap 7 = 7 := by decide
        have x256 : IntKind.i64.wrap 256 = 256 := by decide
        have y1 : IntKind.i64.wrap a6 = a6 := by unfold IntKind.wrap; simp [IntKind.signed, IntKind.bits]; omega
        have y2 : IntKind.i64.wrap a7 = a7 := by unfold IntKind.wrap; simp [IntKind.signed, IntKind.bits]; omega
        have y3 : IntKind.i64.wrap (a6 * 256) = a6 * 256 := by unfold IntKind.wrap; simp [IntKind.signed, IntKind.bits]; omega
        have y4 : IntKind.i64.wrap (a6 * 256 + a7) = a6 * 256 + a7 := by unfold IntKind.wrap; simp [IntKind.signed, IntKind.bits]; omega
        subst hv0 hv1
        have r3 : ∀ o, (wr.drew.alloc o).cell? ⟨w.heap.size, 6, none⟩ = _ := fun o => (World.cell?_alloc_lt _ _ _ (Array.getElem?_eq_some_iff.1 hbx).1).trans r1
        have r4 : ∀ o, (wr.drew.alloc o).cell? ⟨w.heap.size, 7, none⟩ = _ := fun o => (World.cell?_alloc_lt _ _ _ (Array.getElem?_eq_some_iff.1 hbx).1).trans r2
        clear hrun hown' hown hgrow hbx hb0 hB0 hB1 l0 l1 hGl T0 T1 T2 T3 T4 T5 T6 T7 h0 h1 h2 h3 h4 h5 h8 h9 h10 h11 h12 h13 h14 h15
        go_wp2_with fail
        go_region_law (refine step_append_ex (R := fun v w2 => v = .slice v1 4 cap1 ∧ w2 = w1) rfl _ _ _ _ rfl rfl rfl ⟨_, _, HR1.out, rfl, rfl⟩ ?_; rintro _ _ ⟨rfl, rfl⟩)
        all_goals
          go_wp2
          exact ⟨⟨4, by decide, by simp, HO1.out, HB1.out⟩, by simp [intOf]⟩
      · have r1 := blk_cell hbx (j := 8) rfl
        have r2 := blk_cell hbx (j := 9) rfl
        obtain ⟨v', w1, hrun, hown', hgrow⟩ := own_num (w := wr.drew) (xs := G.take 4) hown hszr (by rw [List.length_take]; omega) (a8 * 256 + a9) 87
        have hB1 : Below W0.heap.size W0 w1 := below_grown (w := wr.drew) hB.drew hown hgrow hszr
        rw [T4.out] at hown'
        have HR1 : Hid _ := hrun
        have HO1 : Hid (w1.ownsRow W0.heap.size 3 1 v' (G.take 5).length (intsL (G.take 5))) := hown'
        have HB1 : Hid _ := hB1
        obtain ⟨v0, cap0, hv0, _⟩ := own_form hown
        obtain ⟨v1, cap1, hv1, _⟩ := own_form HO1.out
        have l0 : (G.take 4).length = 4 := by rw [List.length_take]; omega
        have l1 : (G.take 5).length = 5 := by rw [List.length_take]; omega
        rw [l0] at hv0
        rw [l1] at hv1
        have x0 : IntKind.i64.wrap 0 = 0 := by decide
        have x1 : IntKind.i64.wrap 1 = 1 := by decide
        have x2 : IntKind.i64.wrap 2 = 2 := by decide
        have x4 : IntKind.i64.wrap 4 = 4 := by decide
        have x8 : IntKind.i64.wrap 8 = 8 := by decide
        have x9 : IntKind.i64.wrap 9 = 9 := by decide
        have x256 : IntKind.i64.wrap 256 = 256 := by decide
        have y1 : IntKind.i64.wrap a8 = a8 := by unfold IntKind.wrap; simp [IntKind.signed, IntKind.bits]; omega
        have y2 : IntKind.i64.wrap a9 = a9 := by unfold IntKind.wrap; simp [IntKind.signed, IntKind.bits]; omega
        have y3 : IntKind.i64.wrap (a8 * 256) = a8 * 256 := by unfold IntKind.wrap; simp [IntKind.signed, IntKind.bits]; omega
        have y4 : IntKind.i64.wrap (a8 * 256 + a9) = a8 * 256 + a9 := by unfold IntKind.wrap; simp [IntKind.signed, IntKind.bits]; omega
        subst hv0 hv1
        have r3 : ∀ o, (wr.drew.alloc o).cell? ⟨w.heap.size, 8, none⟩ = _ := fun o => (World.cell?_alloc_lt _ _ _ (Array.getElem?_eq_some_iff.1 hbx).1).trans r1
        have r4 : ∀ o, (wr.drew.alloc o).cell? ⟨w.heap.size, 9, none⟩ = _ := fun o => (World.cell?_alloc_lt _ _ _ (Array.getElem?_eq_some_iff.1 hbx).1).trans r2
        clear hrun hown' hown hgrow hbx hb0 hB0 hB1 l0 l1 hGl T0 T1 T2 T3 T4 T5 T6 T7 h0 h1 h2 h3 h4 h5 h6 h7 h10 h11 h12 h13 h14 h15
        go_wp2_with fail
        go_region_law (refine step_append_ex (R := fun v w2 => v = .slice v1 5 cap1 ∧ w2 = w1) rfl _ _ _ _ rfl rfl rfl ⟨_, _, HR1.out, rfl, rfl⟩ ?_; rintro _ _ ⟨rfl, rfl⟩)
        all_goals
          go_wp2
          exact ⟨⟨5, by decide, by simp, HO1.out, HB1.out⟩, by simp [intOf]⟩
      · have r1 := blk_cell hbx (j := 10) rfl
        have r2 := blk_cell hbx (j := 11) rfl
        obtain ⟨v', w1, hrun, hown', hgrow⟩ := own_num (w := wr.drew) (xs := G.take 5) hown hszr (by rw [List.length_take]; omega) (a10 * 256 + a11) 87
        have hB1 : Below W0.heap.size W0 w1 := below_grown (w := wr.drew) hB.drew hown hgrow hszr
        rw [T5.out] at hown'
        have HR1 : Hid _ := hrun
        have HO1 : Hid (w1.ownsRow W0.heap.size 3 1 v' (G.take 6).length (intsL (G.take 6))) := hown'
        have HB1 : Hid _ := hB1
        obtain ⟨v0, cap0, hv0, _⟩ := own_form hown
        obtain ⟨v1, cap1, hv1, _⟩ := own_form HO1.out
        have l0 : (G.take 5).length = 5 := by rw [List.length_take]; omega
        have l1 : (G.take 6).length = 6 := by rw [List.length_take]; omega
        rw [l0] at hv0
        rw [l1] at hv1
        have x0 : IntKind.i64.wrap 0 = 0 := by decide
        have x1 : IntKind.i64.wrap 1 = 1 := by decide
        have x2 : IntKind.i64.wrap 2 = 2 := by decide
        have x5 : IntKind.i64.wrap 5 = 5 := by decide
        have x10 : IntKind.i64.wrap 10 = 10 := by decide
        have x11 : IntKind.i64.wrap 11 = 11 := by decide
        have x256 : IntKind.i64.wrap 256 = 256 := by decide
        have y1 : IntKind.i64.wrap a10 = a10 := by unfold IntKind.wrap; simp [IntKind.signed, IntKind.bits]; omega
        have y2 : IntKind.i64.wrap a11 = a11 := by unfold IntKind.wrap; simp [IntKind.signed, IntKind.bits]; omega
        have y3 : IntKind.i64.wrap (a10 * 256) = a10 * 256 := by unfold IntKind.wrap; simp [IntKind.signed, IntKind.bits]; omega
        have y4 : IntKind.i64.wrap (a10 * 256 + a11) = a10 * 256 + a11 := by unfold IntKind.wrap; simp [IntKind.signed, IntKind.bits]; omega
        subst hv0 hv1
        have r3 : ∀ o, (wr.drew.alloc o).cell? ⟨w.heap.size, 10, none⟩ = _ := fun o => (World.cell?_alloc_lt _ _ _ (Array.getElem?_eq_some_iff.1 hbx).1).trans r1
        have r4 : ∀ o, (wr.drew.alloc o).cell? ⟨w.heap.size, 11, none⟩ = _ := fun o => (World.cell?_alloc_lt _ _ _ (Array.getElem?_eq_some_iff.1 hbx).1).trans r2
        clear hrun hown' hown hgrow hbx hb0 hB0 hB1 l0 l1 hGl T0 T1 T2 T3 T4 T5 T6 T7 h0 h1 h2 h3 h4 h5 h6 h7 h8 h9 h12 h13 h14 h15
        go_wp2_with fail
        go_region_law (refine step_append_ex (R := fun v w2 => v = .slice v1 6 cap1 ∧ w2 = w1) rfl _ _ _ _ rfl rfl rfl ⟨_, _, HR1.out, rfl, rfl⟩ ?_; rintro _ _ ⟨rfl, rfl⟩)
        all_goals
          go_wp2
          exact ⟨⟨6, by decide, by simp, HO1.out, HB1.out⟩, by simp [intOf]⟩
      · have r1 := blk_cell hbx (j := 12) rfl
        have r2 := blk_cell hbx (j := 13) rfl
        obtain ⟨v', w1, hrun, hown', hgrow⟩ := own_num (w := wr.drew) (xs := G.take 6) hown hszr (by rw [List.length_take]; omega) (a12 * 256 + a13) 87
        have hB1 : Below W0.heap.size W0 w1 := below_grown (w := wr.drew) hB.drew hown hgrow hszr
        rw [T6.out] at hown'
        have HR1 : Hid _ := hrun
        have HO1 : Hid (w1.ownsRow W0.heap.size 3 1 v' (G.take 7).length (intsL (G.take 7))) := hown'
        have HB1 : Hid _ := hB1
        obtain ⟨v0, cap0, hv0, _⟩ := own_form hown
        obtain ⟨v1, cap1, hv1, _⟩ := own_form HO1.out
        have l0 : (G.take 6).length = 6 := by rw [List.length_take]; omega
        have l1 : (G.take 7).length = 7 := by rw [List.length_take]; omega
        rw [l0] at hv0
        rw [l1] at hv1
        have x0 : IntKind.i64.wrap 0 = 0 := by decide
        have x1 : IntKind.i64.wrap 1 = 1 := by decide
        have x2 : IntKind.i64.wrap 2 = 2 := by decide
        have x6 : IntKind.i64.wrap 6 = 6 := by decide
        have x12 : IntKind.i64.wrap 12 = 12 := by decide
        have x13 : IntKind.i64.wrap 13 = 13 := by decide
        have x256 : IntKind.i64.wrap 256 = 256 := by decide
        have y1 : IntKind.i64.wrap a12 = a12 := by unfold IntKind.wrap; simp [IntKind.signed, IntKind.bits]; omega
        have y2 : IntKind.i64.wrap a13 = a13 := by unfold IntKind.wrap; simp [IntKind.signed, IntKind.bits]; omega
        have y3 : IntKind.i64.wrap (a12 * 256) = a12 * 256 := by unfold IntKind.wrap; simp [IntKind.signed, IntKind.bits]; omega
        have y4 : IntKind.i64.wrap (a12 * 256 + a13) = a12 * 256 + a13 := by unfold IntKind.wrap; simp [IntKind.signed, IntKind.bits]; omega
        subst hv0 hv1
        have r3 : ∀ o, (wr.drew.alloc o).cell? ⟨w.heap.size, 12, none⟩ = _ := fun o => (World.cell?_alloc_lt _ _ _ (Array.getElem?_eq_some_iff.1 hbx).1).trans r1
        have r4 : ∀ o, (wr.drew.alloc o).cell? ⟨w.heap.size, 13, none⟩ = _ := fun o => (World.cell?_alloc_lt _ _ _ (Array.getElem?_eq_some_iff.1 hbx).1).trans r2
        clear hrun hown' hown hgrow hbx hb0 hB0 hB1 l0 l1 hGl T0 T1 T2 T3 T4 T5 T6 T7 h0 h1 h2 h3 h4 h5 h6 h7 h8 h9 h10 h11 h14 h15
        go_wp2_with fail
        go_region_law (refine step_append_ex (R := fun v w2 => v = .slice v1 7 cap1 ∧ w2 = w1) rfl _ _ _ _ rfl rfl rfl ⟨_, _, HR1.out, rfl, rfl⟩ ?_; rintro _ _ ⟨rfl, rfl⟩)
        all_goals
          go_wp2
          exact ⟨⟨7, by decide, by simp, HO1.out, HB1.out⟩, by simp [intOf]⟩
      · have r1 := blk_cell hbx (j := 14) rfl
        have r2 := blk_cell hbx (j := 15) rfl
        obtain ⟨v', w1, hrun, hown', hgrow⟩ := own_num (w := wr.drew) (xs := G.take 7) hown hszr (by rw [List.length_take]; omega) (a14 * 256 + a15) 87
        have hB1 : Below W0.heap.size W0 w1 := below_grown (w := wr.drew) hB.drew hown hgrow hszr
        rw [T7.out] at hown'
        have HR1 : Hid _ := hrun
        have HO1 : Hid (w1.ownsRow W0.heap.size 3 1 v' (G.take 8).length (intsL (G.take 8))) := hown'
        have HB1 : Hid _ := hB1
        obtain ⟨v0, cap0, hv0, _⟩ := own_form hown
        obtain ⟨v1, cap1, hv1, _⟩ := own_form HO1.out
        have l0 : (G.take 7).length = 7 := by rw [List.length_take]; omega
        have l1 : (G.take 8).length = 8 := by rw [List.length_take]; omega
        rw [l0] at hv0
        rw [l1] at hv1
        have x0 : IntKind.i64.wrap 0 = 0 := by decide
        have x1 : IntKind.i64.wrap 1 = 1 := by decide
        have x2 : IntKind.i64.wrap 2 = 2 := by decide
        have x7 : IntKind.i64.wrap 7 = 7 := by decide
        have x14 : IntKind.i64.wrap 14 = 14 := by decide
        have x15 : IntKind.i64.wrap 15 = 15 := by decide
        have x256 : IntKind.i64.wrap 256 = 256 := by decide
        have y1 : IntKind.i64.wrap a14 = a14 := by unfold IntKind.wrap; simp [IntKind.signed, IntKind.bits]; omega
        have y2 : IntKind.i64.wrap a15 = a15 := by unfold IntKind.wrap; simp [IntKind.signed, IntKind.bits]; omega
        have y3 : IntKind.i64.wrap (a14 * 256) = a14 * 256 := by unfold IntKind.wrap; simp [IntKind.signed, IntKind.bits]; omega
        have y4 : IntKind.i64.wrap (a14 * 256 + a15) = a14 * 256 + a15 := by unfold IntKind.wrap; simp [IntKind.signed, IntKind.bits]; omega
        subst hv0 hv1
        have r3 : ∀ o, (wr.drew.alloc o).cell? ⟨w.heap.size, 14, none⟩ = _ := fun o => (World.cell?_alloc_lt _ _ _ (Array.getElem?_eq_some_iff.1 hbx).1).trans r1
        have r4 : ∀ o, (wr.drew.alloc o).cell? ⟨w.heap.size, 15, none⟩ = _ := fun o => (World.cell?_alloc_lt _ _ _ (Array.getElem?_eq_some_iff.1 hbx).1).trans r2
        clear hrun hown' hown hgrow hbx hb0 hB0 hB1 l0 l1 hGl T0 T1 T2 T3 T4 T5 T6 T7 h0 h1 h2 h3 h4 h5 h6 h7 h8 h9 h10 h11 h12 h13
        go_wp2_with fail
        go_region_law (refine step_append_ex (R := fun v w2 => v = .slice v1 8 cap1 ∧ w2 = w1) rfl _ _ _ _ rfl rfl rfl ⟨_, _, HR1.out, rfl, rfl⟩ ?_; rintro _ _ ⟨rfl, rfl⟩)
        all_goals
          go_wp2
          exact ⟨⟨8, by decide, by simp, HO1.out, HB1.out⟩, by simp [intOf]⟩
    · obtain rfl : k = 8 := by omega
      have e8 : G.take 8 = G := List.take_of_length_le (by omega)
      rw [e8, hGl] at hown
      obtain ⟨a, cap, rfl, _, hz⟩ := own_form hown
      rcases hz with hz | ⟨g, rfl, _, hg, hc⟩
      · exact absurd hz (by decide)
      have hBw : Below w.heap.size w wr := hB0.trans (hB.mono (by have := HZ0.out; omega))
      have htr : Tz wr := ht.on hBw
      have hcz : ∀ y : Hi wr, ∀ (j : Nat) z, G[j]? = some z → y.W.cell? ⟨g, j, none⟩ = some (.int .i64 z) := fun y j z hj => (y.below.cell (p := ⟨g, j, none⟩) hg).trans (hc j _ (by rw [intsL, List.getElem?_map, hj]; rfl))
      have hze : ∀ (fr : Nat), fr ≤ 8 → Calls Tryd.prog 62 #[.slice (some ⟨g, 0, none⟩) 8 cap, .int .i64 fr] wr fun e w' => e = .returned (.int .i64 (zerB ((zb G).drop fr) : Nat)) ∧ w' = wr := fun fr hf => by
        have h := zeros_ref g cap G fr wr (by omega) (by omega) HG.out (hcz (Hi.refl _))
        rw [hGl] at h
        have e : zerC (G.drop fr) = zerB ((zb G).drop fr) := by simp [zerC, zb, List.map_drop]
        rw [e] at h
        exact h
      have HZE : Hid _ := hze
      have HCZ : Hid _ := hcz
      have HTR : Hid _ := htr
      have hzl : (zb G).length = 8 := by simp [zb, hGl]
      clear hown hc hcz hze htr e8 hb0 hB0 ht htw hk hlt hB T0 T1 T2 T3 T4 T5 T6 T7 h0 h1 h2 h3 h4 h5 h6 h7 h8 h9 h10 h11 h12 h13 h14 h15
      rw [show ((8 : Nat) : Int) = 8 from rfl]
      go_wp2
      go_loopw [5, 6, 7] (fun at_ most i wq => ∃ k : Nat, k ≤ 8 ∧ i = .int .i64 k ∧ at_ = .int .i64 (bestK (zb G) k).1 ∧ most = .int .i64 ((bestK (zb G) k).2 : Nat) ∧ wq = wr) (fun _ _ i _ => 8 - (intOf i).toNat)
      case atStart => exact ⟨0, Nat.zero_le _, rfl, rfl, rfl, rfl⟩
      case round =>
        obtain ⟨k, hk, rfl, rfl, rfl, rfl⟩ := hrel
        obtain ⟨i1, i2, i3, i4⟩ := bestK_ok (zb G) hzl k hk
        by_cases hlt : k < 8
        · have hs : bestK (zb G) (k + 1) = if (bestK (zb G) k).2 < zerB ((zb G).drop k) then ((k : Int), zerB ((zb G).drop k)) else bestK (zb G) k := rfl
          have HZK : Hid _ := HZE.out k (by omega)
          have hzz := zerB_le ((zb G).drop k)
          rw [List.length_drop, hzl] at hzz
          generalize zerB ((zb G).drop k) = zz at *
          have HS : Hid _ := hs
          clear hs
          generalize bestK (zb G) k = bk at *
          obtain ⟨bat, bm⟩ := bk
          simp only at i1 i2 i3 i4 HS ⊢
          by_cases hc : bm < zz
          · have hi : (bm : Int) < (zz : Int) := by omega
            have HS2 : Hid _ := HS.out.trans (if_pos hc)
            clear HS hc
            go_wp2_with fail
            refine Calls.mono HZK.out ?_
            rintro e w' ⟨rfl, rfl⟩
            go_wp2_with fail
            refine Calls.mono HZK.out ?_
            rintro e w' ⟨rfl, rfl⟩
            go_wp2
            exact ⟨⟨k + 1, by omega, by simp, by rw [HS2.out], by rw [HS2.out], trivial⟩, by simp [intOf]; omega⟩
          · have hi : ¬ (bm : Int) < (zz : Int) := by omega
            have HS2 : Hid _ := HS.out.trans (if_neg hc)
            clear HS hc
            go_wp2_with fail
            refine Calls.mono HZK.out ?_
            rintro e w' ⟨rfl, rfl⟩
            go_wp2
            exact ⟨⟨k + 1, by omega, by simp, by rw [HS2.out], by rw [HS2.out], trivial⟩, by simp [intOf]; omega⟩
        · obtain rfl : k = 8 := by omega
          clear HZE
          rw [show ((8 : Nat) : Int) = 8 from rfl]
          generalize bestK (zb G) 8 = bk at *
          obtain ⟨bat, bm⟩ := bk
          simp only at i1 i2 i3 i4 HO ⊢
          go_wp2
          go_loopw [8, 9] (fun sv i wq => ∃ (n k : Nat) (s : List UInt8), k ≤ 16 ∧ 8 ≤ k + n ∧ i = .int .i64 k ∧ sv = strV s ∧ s.length ≤ 10 * k ∧ docR G bat bm n k s = OW ∧ Below wr.heap.size wr wq) (fun _ i _ => 8 - (intOf i).toNat)
          case atStart => exact ⟨8, 0, [], by omega, by omega, rfl, rfl, by simp, HO.out, Below.refl _ _⟩
          case round =>
            obtain ⟨n, k, s, hk, hn, rfl, rfl, hsl, hdoc, hBq⟩ := hrel
            have HBQ : Hid _ := hBq
            by_cases hlt : k < 8
            · obtain ⟨n, rfl⟩ : ∃ m, n = m + 1 := ⟨n - 1, by omega⟩
              rw [docR, if_neg (by omega)] at hdoc
              by_cases hka : (k : Int) = bat
              · rw [if_pos hka] at hdoc
                have HD : Hid _ := hdoc
                subst hka
                clear hdoc hBq HCZ
                have l2 : ([58, 58] : List UInt8).length = 2 := rfl
                go_wp2
                exact ⟨⟨n, k + bm, s ++ [58, 58], by omega, by omega, by congr 1, congrArg Value.string (str_app s [58, 58]), by rw [List.length_append, l2]; omega, HD.out, HBQ.out⟩, by simp [intOf]; omega⟩
              · rw [if_neg hka] at hdoc
                have q1 : ((k : Int) == bat) = false := beq_eq_false_iff_ne.2 hka
                have hx : G[k]? = some (G[k]'(by omega)) := by simp
                have r1 := HCZ.out ⟨_, hBq⟩ k _ hx
                simp only at r1
                have hr := HG.out _ (List.mem_of_getElem? hx)
                rw [hx, Option.getD_some] at hdoc
                generalize G[k]'(by omega) = z at *
                have HF : Hid _ := formatInt16 z hr _ (Tz.on HTR.out hBq)
                have hhl := hexText_len z
                generalize hexText z = hx2 at *
                clear hBq HCZ hka hx
                by_cases hs0 : s = []
                · have hse : sep s = [] := by rw [hs0]; rfl
                  rw [hse, List.nil_append] at hdoc
                  have HD : Hid _ := hdoc
                  subst hs0
                  clear hdoc hse
                  go_wp2_with fail
                  refine Calls.mono HF.out ?_
                  rintro e w' ⟨rfl, hBf⟩
                  go_wp2
                  exact ⟨⟨n, k + 1, hx2, by omega, by omega, by simp, congrArg Value.string (str_app [] hx2), by omega, HD.out, HBQ.out.trans (hBf.mono HBQ.out.size)⟩, by simp [intOf]; omega⟩
                · have hb : s.length - 1 < (⟨s.toArray⟩ : ByteArray).size := by
                    have : s.length ≠ 0 := by simpa using hs0
                    show s.length - 1 < s.toArray.size
                    simp
                    omega
                  have hb2 : 0 < s.length := by
                    have : s.length ≠ 0 := by simpa using hs0
                    omega
                  have h1 : s.isEmpty = false := by simpa using hs0
                  have hgl : some ((⟨s.toArray⟩ : ByteArray)[s.length - 1]'hb) = s.getLast? := by
                    rw [List.getLast?_eq_getElem?, List.getElem?_eq_getElem (by omega)]
                    rfl
                  by_cases h58 : s.getLast? = some 58
                  · have hse : sep s = s := by unfold sep; rw [if_neg hs0, if_pos h58]
                    have h3 : (⟨s.toArray⟩ : ByteArray)[s.length - 1]'hb = 58 := Option.some.inj (hgl.trans h58)
                    rw [hse] at hdoc
                    have HD : Hid _ := hdoc
                    clear hdoc hse hgl h58 hs0
                    go_wp2_with fail
                    refine Calls.mono HF.out ?_
                    rintro e w' ⟨rfl, hBf⟩
                    go_wp2
                    exact ⟨⟨n, k + 1, s ++ hx2, by omega, by omega, by simp, congrArg Value.string (str_app s hx2), by rw [List.length_append]; omega, HD.out, HBQ.out.trans (hBf.mono HBQ.out.size)⟩, by simp [intOf]; omega⟩
                  · have hse : sep s = s ++ [58] := by unfold sep; rw [if_neg hs0, if_neg h58]
                    obtain ⟨c, h3⟩ : ∃ c, (⟨s.toArray⟩ : ByteArray)[s.length - 1]'hb = c := ⟨_, rfl⟩
                    have hc : c ≠ 58 := fun e => h58 (by rw [← hgl, h3, e])
                    have h4 : ((c.toNat : Int) != 58) = true := by
                      rw [bne_iff_ne]
                      intro e
                      exact hc (UInt8.toNat_inj.1 (by show c.toNat = 58; omega))
                    rw [hse] at hdoc
                    have HD : Hid _ := hdoc
                    clear hdoc hse hgl h58 hs0 hc
                    go_wp2_with fail
                    refine Calls.mono HF.out ?_
                    rintro e w' ⟨rfl, hBf⟩
                    go_wp2
                    exact ⟨⟨n, k + 1, s ++ [58] ++ hx2, by omega, by omega, by simp, congrArg Value.string ((congrArg (· ++ (⟨hx2.toArray⟩ : ByteArray)) (str_app s [58])).trans (str_app (s ++ [58]) hx2)), by rw [List.length_append, List.length_append, List.length_singleton]; omega, HD.out, HBQ.out.trans (hBf.mono HBQ.out.size)⟩, by simp [intOf]; omega⟩
            · rw [docR_end _ _ _ _ _ _ (by omega)] at hdoc
              subst hdoc
              go_wp2
              go_ret
              exact ⟨rfl, hBw.trans (HBQ.out.mono hBw.size)⟩

end Go.Proofs.YtiigcilclblblaaDoor
