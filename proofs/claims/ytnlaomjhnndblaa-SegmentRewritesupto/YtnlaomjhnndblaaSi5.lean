/-
  The document's Pseudo.
-/
import Derived.Test.YtnlaomjhnndblaaSi4
namespace Go.Proofs.Ytnlaomjhnndblaa
open Go Go.RowKit Go.Shelf
set_option linter.unusedVariables false
set_option linter.unusedSimpArgs false

/-- Two addresses as the document's functions take them: slices of so many bytes, of which Pseudo makes the pseudo header. -/
structure EndV (w : World) (sv dv : Value) (N : Nat) (ph : Int → Int → List Int) : Prop where
  sval : ∃ a c, sv = .slice a N c
  dval : ∃ a c, dv = .slice a N c
  even : ∀ p n, (ph p n).length ≤ 40 ∧ (ph p n).length % 2 = 0
  tells : ∀ W, Below w.heap.size w W → ∀ p n : Int, 0 ≤ p ∧ p < 256 → 0 ≤ n ∧ n ≤ 65535 → Calls Try.prog 40 #[sv, dv, .int .u8 p, .int .i64 n] W fun e w' => ∃ u, e = .returned u ∧ (BytesAt w'.heap.size w' u (ph p n) ∧ Below W.heap.size W w')
theorem EndV.later {w W : World} {sv dv : Value} {N : Nat} {ph : Int → Int → List Int} (h : EndV w sv dv N ph) (hb : Below w.heap.size w W) : EndV W sv dv N ph :=
  ⟨h.sval, h.dval, h.even, fun X hX => h.tells X (hb.trans (hX.mono hb.size))⟩


def z4 : List Int := List.replicate 4 0
theorem z4_lit : (u8L z4).toArray = #[.int .u8 0, .int .u8 0, .int .u8 0, .int .u8 0] := rfl
set_option maxHeartbeats 2000000 in
set_option maxRecDepth 100000 in
theorem Pseudo4_calls (sv dv : Value) (A B : List Int) (hA : A.length = 4) (hB : B.length = 4) (w : World) (ha : BytesAt w.heap.size w sv A) (hb : BytesAt w.heap.size w dv B) (p n : Int) (hp : 0 ≤ p ∧ p < 256) (hn : 0 ≤ n ∧ n ≤ 65535) :
    Calls Try.prog 40 #[sv, dv, .int .u8 p, .int .i64 n] w fun e w' => ∃ u, e = .returned u ∧ (BytesAt w'.heap.size w' u (ph4 A B p n) ∧ Below w.heap.size w w') := by
  have fa := ha.fit
  have fb := hb.fit
  obtain ⟨W0, hW0⟩ : ∃ W0, (w.alloc (.cells (u8L z4).toArray 22)).alloc (.cells (u8L z4).toArray 22) = W0 := ⟨_, rfl⟩
  have b0 := blk_alloc (blk_new w (.cells (u8L z4).toArray 22)) (.cells (u8L z4).toArray 22)
  have b1 := blk_new (w.alloc (.cells (u8L z4).toArray 22)) (.cells (u8L z4).toArray 22)
  have hBl : Below w.heap.size w ((w.alloc (.cells (u8L z4).toArray 22)).alloc (.cells (u8L z4).toArray 22)) := ((Below.refl _ w).alloc (Nat.le_refl _) _).alloc (by simp) _
  have s1 : (w.alloc (.cells (u8L z4).toArray 22)).heap.size = w.heap.size + 1 := by simp
  rw [hW0] at b0 b1 hBl
  rw [s1] at b1
  have g0 := OwnG.of_u8L b0
  have g1 := OwnG.of_u8L b1
  have ha0 := ha.later hBl
  have hcp := g0.copy ha0 0 4 4 (by simp [z4]) (by omega) 3
  have eL : z4.take 0 ++ A ++ z4.drop (0 + A.length) = A := by simp [z4, hA]
  rw [eL] at hcp
  obtain ⟨r1, w1, hr1, hg1, ho1⟩ := hcp
  have hbl1 : Below w.heap.size w w1 := hBl.trans (ho1.below (Nat.le_refl _))
  have g1' := g1.off ho1 (by omega)
  have hcp2 := g1'.copy (hb.later hbl1) 0 4 4 (by simp [z4]) (by omega) 3
  have eL2 : z4.take 0 ++ B ++ z4.drop (0 + B.length) = B := by simp [z4, hB]
  rw [eL2] at hcp2
  obtain ⟨r2, w2, hr2, hg2, ho2⟩ := hcp2
  have hbl2 : Below w.heap.size w w2 := hbl1.trans (ho2.below (by omega))
  have hg1' := hg1.off ho2 (by omega)
  have HA : Hid _ := agg_load (t := 22) Try.isAgg22 Try.sizeOf22 (by simp [u8L, hA]) hg1'.cellsAt
  have HB : Hid _ := agg_load (t := 22) Try.isAgg22 Try.sizeOf22 (by simp [u8L, hB]) hg2.cellsAt
  have HP : Hid _ := pseudo4_list_ref A B hA hB fa fb p n hp hn w2
  have HR1 : Hid _ := hr1
  have HR2 : Hid _ := hr2
  have HBL : Hid _ := hbl2
  obtain ⟨asv, csv, rfl, _⟩ := ha.val
  obtain ⟨adv, cdv, rfl, _⟩ := hb.val
  simp only [hA, hB] at HR1 HR2 ⊢
  have hAl : (u8L A).length = 4 := by simp [u8L, hA]
  have hBl' : (u8L B).length = 4 := by simp [u8L, hB]
  rw [z4_lit] at hW0
  clear hr1 hr2 hbl1 hbl2 hg1 hg1' hg2 g0 g1 g1' ha0 eL eL2 ho1 ho2 ha hb b0 b1 s1 hBl fa fb
  generalize u8L A = xA at *
  generalize u8L B = xB at *
  go_enter Try.func40, Try.ntmps40
  go_wp2_with first
    | ((with_reducible show wpList _ _ _ _ _ _); refine arm_copy rfl (.tmp 20) (.tmp 21) _ _ rfl rfl rfl ⟨_, _, HR1.out, rfl⟩ ?_; rintro v5 w5 rfl)
    | ((with_reducible show wpList _ _ _ _ _ _); refine arm_copy rfl (.tmp 23) (.tmp 24) _ _ rfl rfl rfl ⟨_, _, HR2.out, rfl⟩ ?_; rintro v6 w6 rfl)
    | ((with_reducible show wpList _ _ _ _ _ _); refine arm_load rfl (.tmp 9) 22 rfl rfl HA.out ?_)
    | ((with_reducible show wpList _ _ _ _ _ _); refine arm_load rfl (.tmp 10) 22 rfl rfl HB.out ?_)
  refine Calls.mono HP.out ?_
  rintro _ w7 ⟨u, rfl, hu, hb7⟩
  have HU : Hid _ := hu
  have H7 : Hid _ := HBL.out.trans (hb7.mono HBL.out.size)
  clear hu hb7
  go_wp2
  go_ret
  exact ⟨_, rfl, HU.out, H7.out⟩
theorem EndV.of4 {w : World} {sv dv : Value} {A B : List Int} (ha : BytesAt w.heap.size w sv A) (hb : BytesAt w.heap.size w dv B) (hA : A.length = 4) (hB : B.length = 4) : EndV w sv dv 4 (ph4 A B) := by
  refine ⟨?_, ?_, fun p n => by simp [ph4, hA, hB], fun W hW p n hp hn => Pseudo4_calls sv dv A B hA hB W (ha.later hW) (hb.later hW) p n hp hn⟩
  · obtain ⟨a, c, rfl, _⟩ := ha.val
    exact ⟨a, c, by rw [hA]⟩
  · obtain ⟨a, c, rfl, _⟩ := hb.val
    exact ⟨a, c, by rw [hB]⟩


def z16 : List Int := List.replicate 16 0
theorem z16_lit : (u8L z16).toArray = #[.int .u8 0, .int .u8 0, .int .u8 0, .int .u8 0, .int .u8 0, .int .u8 0, .int .u8 0, .int .u8 0, .int .u8 0, .int .u8 0, .int .u8 0, .int .u8 0, .int .u8 0, .int .u8 0, .int .u8 0, .int .u8 0] := rfl
set_option maxHeartbeats 2000000 in
set_option maxRecDepth 100000 in
theorem Pseudo6_calls (sv dv : Value) (A B : List Int) (hA : A.length = 16) (hB : B.length = 16) (w : World) (ha : BytesAt w.heap.size w sv A) (hb : BytesAt w.heap.size w dv B) (p n : Int) (hp : 0 ≤ p ∧ p < 256) (hn : 0 ≤ n ∧ n ≤ 65535) :
    Calls Try.prog 40 #[sv, dv, .int .u8 p, .int .i64 n] w fun e w' => ∃ u, e = .returned u ∧ (BytesAt w'.heap.size w' u (ph6 A B p n) ∧ Below w.heap.size w w') := by
  have fa := ha.fit
  have fb := hb.fit
  obtain ⟨W0, hW0⟩ : ∃ W0, (w.alloc (.cells (u8L z16).toArray 24)).alloc (.cells (u8L z16).toArray 24) = W0 := ⟨_, rfl⟩
  have b0 := blk_alloc (blk_new w (.cells (u8L z16).toArray 24)) (.cells (u8L z16).toArray 24)
  have b1 := blk_new (w.alloc (.cells (u8L z16).toArray 24)) (.cells (u8L z16).toArray 24)
  have hBl : Below w.heap.size w ((w.alloc (.cells (u8L z16).toArray 24)).alloc (.cells (u8L z16).toArray 24)) := ((Below.refl _ w).alloc (Nat.le_refl _) _).alloc (by simp) _
  have s1 : (w.alloc (.cells (u8L z16).toArray 24)).heap.size = w.heap.size + 1 := by simp
  rw [hW0] at b0 b1 hBl
  rw [s1] at b1
  have g0 := OwnG.of_u8L b0
  have g1 := OwnG.of_u8L b1
  have ha0 := ha.later hBl
  have hcp := g0.copy ha0 0 16 16 (by simp [z16]) (by omega) 3
  have eL : z16.take 0 ++ A ++ z16.drop (0 + A.length) = A := by simp [z16, hA]
  rw [eL] at hcp
  obtain ⟨r1, w1, hr1, hg1, ho1⟩ := hcp
  have hbl1 : Below w.heap.size w w1 := hBl.trans (ho1.below (Nat.le_refl _))
  have g1' := g1.off ho1 (by omega)
  have hcp2 := g1'.copy (hb.later hbl1) 0 16 16 (by simp [z16]) (by omega) 3
  have eL2 : z16.take 0 ++ B ++ z16.drop (0 + B.length) = B := by simp [z16, hB]
  rw [eL2] at hcp2
  obtain ⟨r2, w2, hr2, hg2, ho2⟩ := hcp2
  have hbl2 : Below w.heap.size w w2 := hbl1.trans (ho2.below (by omega))
  have hg1' := hg1.off ho2 (by omega)
  have HA : Hid _ := agg_load (t := 24) Try.isAgg24 Try.sizeOf24 (by simp [u8L, hA]) hg1'.cellsAt
  have HB : Hid _ := agg_load (t := 24) Try.isAgg24 Try.sizeOf24 (by simp [u8L, hB]) hg2.cellsAt
  have HP : Hid _ := pseudo6_list_ref A B hA hB fa fb p n hp hn w2
  have HR1 : Hid _ := hr1
  have HR2 : Hid _ := hr2
  have HBL : Hid _ := hbl2
  obtain ⟨asv, csv, rfl, _⟩ := ha.val
  obtain ⟨adv, cdv, rfl, _⟩ := hb.val
  simp only [hA, hB] at HR1 HR2 ⊢
  have hAl : (u8L A).length = 16 := by simp [u8L, hA]
  have hBl' : (u8L B).length = 16 := by simp [u8L, hB]
  rw [z16_lit] at hW0
  clear hr1 hr2 hbl1 hbl2 hg1 hg1' hg2 g0 g1 g1' ha0 eL eL2 ho1 ho2 ha hb b0 b1 s1 hBl fa fb
  generalize u8L A = xA at *
  generalize u8L B = xB at *
  go_enter Try.func40, Try.ntmps40
  go_wp2_with first
    | ((with_reducible show wpList _ _ _ _ _ _); refine arm_copy rfl (.tmp 35) (.tmp 36) _ _ rfl rfl rfl ⟨_, _, HR1.out, rfl⟩ ?_; rintro v5 w5 rfl)
    | ((with_reducible show wpList _ _ _ _ _ _); refine arm_copy rfl (.tmp 38) (.tmp 39) _ _ rfl rfl rfl ⟨_, _, HR2.out, rfl⟩ ?_; rintro v6 w6 rfl)
    | ((with_reducible show wpList _ _ _ _ _ _); refine arm_load rfl (.tmp 13) 24 rfl rfl HA.out ?_)
    | ((with_reducible show wpList _ _ _ _ _ _); refine arm_load rfl (.tmp 14) 24 rfl rfl HB.out ?_)
  refine Calls.mono HP.out ?_
  rintro _ w7 ⟨u, rfl, hu, hb7⟩
  have HU : Hid _ := hu
  have H7 : Hid _ := HBL.out.trans (hb7.mono HBL.out.size)
  clear hu hb7
  go_wp2
  go_ret
  exact ⟨_, rfl, HU.out, H7.out⟩
theorem EndV.of6 {w : World} {sv dv : Value} {A B : List Int} (ha : BytesAt w.heap.size w sv A) (hb : BytesAt w.heap.size w dv B) (hA : A.length = 16) (hB : B.length = 16) : EndV w sv dv 16 (ph6 A B) := by
  refine ⟨?_, ?_, fun p n => by simp [ph6, hA, hB], fun W hW p n hp hn => Pseudo6_calls sv dv A B hA hB W (ha.later hW) (hb.later hW) p n hp hn⟩
  · obtain ⟨a, c, rfl, _⟩ := ha.val
    exact ⟨a, c, by rw [hA]⟩
  · obtain ⟨a, c, rfl, _⟩ := hb.val
    exact ⟨a, c, by rw [hB]⟩

end Go.Proofs.Ytnlaomjhnndblaa
