/-
  The walk of the statement AddrSets out of contracts.
-/
import Derived.Test.YthejkiocndoflaaDoorASetW
namespace Go.Proofs.YthejkiocndoflaaDoor
open Go Go.RowKit
set_option linter.unusedVariables false
set_option linter.unusedSimpArgs false

set_option maxHeartbeats 4000000 in
set_option maxRecDepth 100000 in
/-- Where all of them may be. -/
theorem sets_good (a0 a1 a2 a3 n b0 b1 b2 b3 m c0 c1 c2 c3 k d0 d1 d2 d3 : Int) (x y z u inn too own back : Bool) (w : World) (hf : FitB [a0, a1, a2, a3])
    (k1 : inn = true → too = true → x = false → y = true) (k2 : x = true → y = true → b0 = a0 ∧ b1 = a1 ∧ b2 = a2 ∧ b3 = a3 ∧ m = n) (k3 : x = true → z = true → u = true) (k4 : (x || y) = (own || back))
    (h1 : One 32 #[P4 a0 a1 a2 a3 n, P4 b0 b1 b2 b3 m] (.tuple #[.bool x, .int .i64 0]))
    (h2 : One 32 #[P4 b0 b1 b2 b3 m, P4 a0 a1 a2 a3 n] (.tuple #[.bool y, .int .i64 0]))
    (h3 : One 32 #[P4 b0 b1 b2 b3 m, P4 c0 c1 c2 c3 k] (.tuple #[.bool z, .int .i64 0]))
    (h4 : One 32 #[P4 a0 a1 a2 a3 n, P4 c0 c1 c2 c3 k] (.tuple #[.bool u, .int .i64 0]))
    (g1 : One 30 #[P4 a0 a1 a2 a3 n, A4 d0 d1 d2 d3] (.tuple #[.bool inn, .int .i64 0]))
    (g2 : One 30 #[P4 b0 b1 b2 b3 m, A4 d0 d1 d2 d3] (.tuple #[.bool too, .int .i64 0]))
    (g3 : One 30 #[P4 a0 a1 a2 a3 n, A4 b0 b1 b2 b3] (.tuple #[.bool own, .int .i64 0]))
    (g4 : One 30 #[P4 b0 b1 b2 b3 m, A4 a0 a1 a2 a3] (.tuple #[.bool back, .int .i64 0]))
    (h6 : ∀ w' : World, Below w.heap.size w w' → Calls Tryd.prog 17 #[] w' fun e w'' => e = .returned (.bool true) ∧ Below w'.heap.size w' w'') :
    Calls Tryd.prog 11 #[P4 a0 a1 a2 a3 n, P4 b0 b1 b2 b3 m, P4 c0 c1 c2 c3 k, A4 d0 d1 d2 d3] w fun e w' => e = .returned (.bool true) ∧ Below w.heap.size w w' := by
  have G1 : Hid _ := g1
  have G2 : Hid _ := g2
  have G3 : Hid _ := g3
  have G4 : Hid _ := g4
  have K1 : Hid _ := k1
  have K2 : Hid _ := k2
  have K3 : Hid _ := k3
  have K4 : Hid _ := k4
  clear g1 g2 g3 g4 k1 k2 k3 k4
  have eqa : ∀ W, (Op.equalIn 9999 23 (.agg #[.int .u8 a0, .int .u8 a1, .int .u8 a2, .int .u8 a3]) (.agg #[.int .u8 a0, .int .u8 a1, .int .u8 a2, .int .u8 a3])).run Tryd.prog W = .ok true W := fun W => by
    have := eq_arr4 9997 [a0, a1, a2, a3] [a0, a1, a2, a3] hf hf rfl rfl W
    rwa [decide_eq_true rfl] at this
  have H6 : Hid _ := h6
  have HB0 : Hid (Below w.heap.size w ((((w.alloc (.cells #[.int .u8 a0, .int .u8 a1, .int .u8 a2, .int .u8 a3, .int .i64 n] 38)).alloc (.cells #[.int .u8 b0, .int .u8 b1, .int .u8 b2, .int .u8 b3, .int .i64 m] 38)).alloc (.cells #[.int .u8 c0, .int .u8 c1, .int .u8 c2, .int .u8 c3, .int .i64 k] 38)).alloc (.cells #[.int .u8 d0, .int .u8 d1, .int .u8 d2, .int .u8 d3] 23))) := ((((Below.refl _ w).alloc (Nat.le_refl _) _).alloc (by simp) _).alloc (by simp; omega) _).alloc (by simp; omega) _
  have hbx := sets_boxes a0 a1 a2 a3 n b0 b1 b2 b3 m c0 c1 c2 c3 k d0 d1 d2 d3 w
  have HBX : Hid _ := hbx
  clear h6 hbx
  go_enter Tryd.func11, Tryd.ntmps11
  go_wp2_with fail
  refine Calls.mono (H6.out _ HB0.out) ?_
  rintro e0 w1 ⟨rfl, hb⟩
  obtain ⟨hbl, bp, bq, br, ba⟩ := HBX.out w1 hb
  clear HBX HB0 H6 hb
  obtain ⟨ap0, ap1, ap2, ap3, ap4⟩ := cell5_of bp
  obtain ⟨aq0, aq1, aq2, aq3, aq4⟩ := cell5_of bq
  obtain ⟨kp0, kp1, kp2, kp3, kp4⟩ := Hi.cell5 bp
  obtain ⟨kq0, kq1, kq2, kq3, kq4⟩ := Hi.cell5 bq
  obtain ⟨kr0, kr1, kr2, kr3, kr4⟩ := Hi.cell5 br
  obtain ⟨kd0, kd1, kd2, kd3⟩ := Hi.cell4 ba
  clear bp bq br ba
  go_wp2_with fail
  refine Calls.mono (h1 _) ?_
  rintro e1 w2 ⟨rfl, hb⟩
  obtain ⟨x2, rfl⟩ : ∃ x : Hi w1, w2 = x.W := ⟨⟨w2, hb⟩, rfl⟩
  clear hb ap0 ap1 ap2 ap3 ap4 aq0 aq1 aq2 aq3 aq4
  go_wp2_with fail
  refine Calls.mono (Hi.calls (h2 _)) ?_
  rintro e2 w3 ⟨rfl, x3, rfl⟩
  go_wp2_with fail
  refine Calls.mono (Hi.calls (h3 _)) ?_
  rintro e3 w4 ⟨rfl, x4, rfl⟩
  go_wp2_with fail
  refine Calls.mono (Hi.calls (h4 _)) ?_
  rintro e4 w5 ⟨rfl, x5, rfl⟩
  go_wp2_with fail
  refine Calls.mono (Hi.calls (G1.out _)) ?_
  rintro e5 w6 ⟨rfl, x6, rfl⟩
  go_wp2_with fail
  refine Calls.mono (Hi.calls (G2.out _)) ?_
  rintro e6 w7 ⟨rfl, x7, rfl⟩
  go_wp2_with fail
  refine Calls.mono (Hi.calls (G3.out _)) ?_
  rintro e7 w8 ⟨rfl, x8, rfl⟩
  go_wp2_with fail
  refine Calls.mono (Hi.calls (G4.out _)) ?_
  rintro e8 w9 ⟨rfl, x9, rfl⟩
  clear h1 h2 h3 h4 G1 G2 G3 G4
  have hend := hbl.trans (x9.below.mono hbl.size)
  clear hbl
  have HE : Hid _ := hend
  clear hend
  cases x
  · cases y
    · cases inn
      · cases own
        · cases back
          · go_wp2
            go_ret
            exact ⟨rfl, HE.out⟩
          · exact absurd (K4.out) (by decide)
        · exact absurd K4.out (by simp)
      · cases too
        · cases own
          · cases back
            · go_wp2
              go_ret
              exact ⟨rfl, HE.out⟩
            · exact absurd (K4.out) (by decide)
          · exact absurd K4.out (by simp)
        · exact absurd (K1.out rfl rfl rfl) (by decide)
    · cases inn
      · cases own
        · cases back
          · exact absurd (K4.out) (by decide)
          · go_wp2
            go_ret
            exact ⟨rfl, HE.out⟩
        · go_wp2
          go_ret
          exact ⟨rfl, HE.out⟩
      · cases too
        · cases own
          · cases back
            · exact absurd (K4.out) (by decide)
            · go_wp2
              go_ret
              exact ⟨rfl, HE.out⟩
          · go_wp2
            go_ret
            exact ⟨rfl, HE.out⟩
        · cases own
          · cases back
            · exact absurd (K4.out) (by decide)
            · go_wp2
              go_ret
              exact ⟨rfl, HE.out⟩
          · go_wp2
            go_ret
            exact ⟨rfl, HE.out⟩
  · cases y
    · cases inn
      · cases z
        · cases own
          · cases back
            · exact absurd (K4.out) (by decide)
            · go_wp2
              go_ret
              exact ⟨rfl, HE.out⟩
          · go_wp2
            go_ret
            exact ⟨rfl, HE.out⟩
        · cases u
          · exact absurd (K3.out rfl rfl) (by decide)
          · cases own
            · cases back
              · exact absurd (K4.out) (by decide)
              · go_wp2
                go_ret
                exact ⟨rfl, HE.out⟩
            · go_wp2
              go_ret
              exact ⟨rfl, HE.out⟩
      · cases too
        · cases z
          · cases own
            · cases back
              · exact absurd (K4.out) (by decide)
              · go_wp2
                go_ret
                exact ⟨rfl, HE.out⟩
            · go_wp2
              go_ret
              exact ⟨rfl, HE.out⟩
          · cases u
            · exact absurd (K3.out rfl rfl) (by decide)
            · cases own
              · cases back
                · exact absurd (K4.out) (by decide)
                · go_wp2
                  go_ret
                  exact ⟨rfl, HE.out⟩
              · go_wp2
                go_ret
                exact ⟨rfl, HE.out⟩
        · cases z
          · cases own
            · cases back
              · exact absurd (K4.out) (by decide)
              · go_wp2
                go_ret
                exact ⟨rfl, HE.out⟩
            · go_wp2
              go_ret
              exact ⟨rfl, HE.out⟩
          · cases u
            · exact absurd (K3.out rfl rfl) (by decide)
            · cases own
              · cases back
                · exact absurd (K4.out) (by decide)
                · go_wp2
                  go_ret
                  exact ⟨rfl, HE.out⟩
              · go_wp2
                go_ret
                exact ⟨rfl, HE.out⟩
    · obtain ⟨rfl, rfl, rfl, rfl, rfl⟩ := K2.out rfl rfl
      cases inn
      · cases z
        · cases own
          · cases back
            · exact absurd (K4.out) (by decide)
            · go_wp2
              go_ret
              exact ⟨rfl, HE.out⟩
          · go_wp2
            go_ret
            exact ⟨rfl, HE.out⟩
        · cases u
          · exact absurd (K3.out rfl rfl) (by decide)
          · cases own
            · cases back
              · exact absurd (K4.out) (by decide)
              · go_wp2
                go_ret
                exact ⟨rfl, HE.out⟩
            · go_wp2
              go_ret
              exact ⟨rfl, HE.out⟩
      · cases too
        · cases z
          · cases own
            · cases back
              · exact absurd (K4.out) (by decide)
              · go_wp2
                go_ret
                exact ⟨rfl, HE.out⟩
            · go_wp2
              go_ret
              exact ⟨rfl, HE.out⟩
          · cases u
            · exact absurd (K3.out rfl rfl) (by decide)
            · cases own
              · cases back
                · exact absurd (K4.out) (by decide)
                · go_wp2
                  go_ret
                  exact ⟨rfl, HE.out⟩
              · go_wp2
                go_ret
                exact ⟨rfl, HE.out⟩
        · cases z
          · cases own
            · cases back
              · exact absurd (K4.out) (by decide)
              · go_wp2
                go_ret
                exact ⟨rfl, HE.out⟩
            · go_wp2
              go_ret
              exact ⟨rfl, HE.out⟩
          · cases u
            · exact absurd (K3.out rfl rfl) (by decide)
            · cases own
              · cases back
                · exact absurd (K4.out) (by decide)
                · go_wp2
                  go_ret
                  exact ⟨rfl, HE.out⟩
              · go_wp2
                go_ret
                exact ⟨rfl, HE.out⟩

end Go.Proofs.YthejkiocndoflaaDoor
