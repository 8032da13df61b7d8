/-
  The walk of the statement AddrSetsSix out of contracts, where all prefixes may be.
-/
import Derived.Test.YthejkiocndoflaaDoorSixSw
namespace Go.Proofs.YthejkiocndoflaaDoor
open Go Go.RowKit
set_option linter.unusedVariables false
set_option linter.unusedSimpArgs false


set_option maxHeartbeats 4000000 in
set_option maxRecDepth 100000 in
theorem setsSix_good (a b c d : List Int) (n m k : Int) (x y z u inn too own back : Bool) (w : World) (hf : FitB a) (la : a.length = 16) (lb : b.length = 16) (lc : c.length = 16) (ld : d.length = 16)
    (k1 : inn = true → too = true → x = false → y = true) (k2 : x = true → y = true → b = a ∧ m = n) (k3 : x = true → z = true → u = true) (k4 : (x || y) = (own || back))
    (h1 : Lone 42 #[P6 a n, P6 b m] (.tuple #[.bool x, .int .i64 0]))
    (h2 : Lone 42 #[P6 b m, P6 a n] (.tuple #[.bool y, .int .i64 0]))
    (h3 : Lone 42 #[P6 b m, P6 c k] (.tuple #[.bool z, .int .i64 0]))
    (h4 : Lone 42 #[P6 a n, P6 c k] (.tuple #[.bool u, .int .i64 0]))
    (g1 : Lone 40 #[P6 a n, A6 d] (.tuple #[.bool inn, .int .i64 0]))
    (g2 : Lone 40 #[P6 b m, A6 d] (.tuple #[.bool too, .int .i64 0]))
    (g3 : Lone 40 #[P6 a n, A6 b] (.tuple #[.bool own, .int .i64 0]))
    (g4 : Lone 40 #[P6 b m, A6 a] (.tuple #[.bool back, .int .i64 0]))
    (h6 : ∀ w' : World, Below w.heap.size w w' → Calls Tryd.prog 17 #[] w' fun e w'' => e = .returned (.bool true) ∧ Below w'.heap.size w' w'') :
    Calls Tryd.prog 12 #[P6 a n, P6 b m, P6 c k, A6 d] w fun e w' => e = .returned (.bool true) ∧ Below w.heap.size w w' := by
  have G1 : Hid _ := g1
  have G2 : Hid _ := g2
  have G3 : Hid _ := g3
  have G4 : Hid _ := g4
  have K1 : Hid _ := k1
  have K2 : Hid _ := k2
  have K3 : Hid _ := k3
  have K4 : Hid _ := k4
  clear g1 g2 g3 g4 k1 k2 k3 k4
  have heq : ∀ W, (Op.equalIn 9999 31 (.agg (u8s a).toArray) (.agg (u8s a).toArray)).run Tryd.prog W = .ok true W := fun W => by
    have := eq_arr16 9997 a a hf hf la la W
    rwa [decide_eq_true rfl] at this
  have tk := cp6_take a n la
  have sn := cp6_get a n la
  have H6 : Hid _ := h6
  have b0 := four_new w (.cells (cp6 a n).toArray 40) (.cells (cp6 b m).toArray 40) (.cells (cp6 c k).toArray 40) (.cells (u8s d).toArray 31) (Below.refl _ _)
  have hbl := b0.1
  have HLP : Hid _ := (Hi.pfx la b0.2.1).1
  have HLQ : Hid _ := (Hi.pfx lb b0.2.2.1).1
  have HLR : Hid _ := (Hi.pfx lc b0.2.2.2.1).1
  have HLD : Hid _ := Hi.adr ld b0.2.2.2.2
  have HPA : Hid _ := (Hi.pfx la b0.2.1).2.1
  have HQA : Hid _ := (Hi.pfx lb b0.2.2.1).2.1
  clear b0 h6
  go_enter Tryd.func12, Tryd.ntmps12
  go_wp2_with fail
  refine Calls.mono (H6.out _ hbl) ?_
  rintro e0 w1 ⟨rfl, hb⟩
  obtain ⟨x1, rfl⟩ : ∃ x : Hi ((((w.alloc (.cells (cp6 a n).toArray 40)).alloc (.cells (cp6 b m).toArray 40)).alloc (.cells (cp6 c k).toArray 40)).alloc (.cells (u8s d).toArray 31)), w1 = x.W := ⟨⟨w1, hb⟩, rfl⟩
  clear hb H6
  go_wp2_with first
    | ((with_reducible show wpList _ _ _ _ _ _); refine arm_load rfl (.tmp 4) 40 rfl rfl (HLP.out _) ?_)
    | ((with_reducible show wpList _ _ _ _ _ _); refine arm_load rfl (.tmp 5) 40 rfl rfl (HLQ.out _) ?_)
    | ((with_reducible show wpList _ _ _ _ _ _); refine arm_load rfl (.tmp 6) 40 rfl rfl (HLR.out _) ?_)
    | ((with_reducible show wpList _ _ _ _ _ _); refine arm_load rfl (.tmp 7) 31 rfl rfl (HLD.out _) ?_)
  refine Calls.mono (Hi.calls (h1 _)) ?_
  rintro e1 w2 ⟨rfl, x2, rfl⟩
  go_wp2_with first
    | ((with_reducible show wpList _ _ _ _ _ _); refine arm_load rfl (.tmp 4) 40 rfl rfl (HLP.out _) ?_)
    | ((with_reducible show wpList _ _ _ _ _ _); refine arm_load rfl (.tmp 5) 40 rfl rfl (HLQ.out _) ?_)
    | ((with_reducible show wpList _ _ _ _ _ _); refine arm_load rfl (.tmp 6) 40 rfl rfl (HLR.out _) ?_)
    | ((with_reducible show wpList _ _ _ _ _ _); refine arm_load rfl (.tmp 7) 31 rfl rfl (HLD.out _) ?_)
  refine Calls.mono (Hi.calls (h2 _)) ?_
  rintro e2 w3 ⟨rfl, x3, rfl⟩
  go_wp2_with first
    | ((with_reducible show wpList _ _ _ _ _ _); refine arm_load rfl (.tmp 4) 40 rfl rfl (HLP.out _) ?_)
    | ((with_reducible show wpList _ _ _ _ _ _); refine arm_load rfl (.tmp 5) 40 rfl rfl (HLQ.out _) ?_)
    | ((with_reducible show wpList _ _ _ _ _ _); refine arm_load rfl (.tmp 6) 40 rfl rfl (HLR.out _) ?_)
    | ((with_reducible show wpList _ _ _ _ _ _); refine arm_load rfl (.tmp 7) 31 rfl rfl (HLD.out _) ?_)
  refine Calls.mono (Hi.calls (h3 _)) ?_
  rintro e3 w4 ⟨rfl, x4, rfl⟩
  go_wp2_with first
    | ((with_reducible show wpList _ _ _ _ _ _); refine arm_load rfl (.tmp 4) 40 rfl rfl (HLP.out _) ?_)
    | ((with_reducible show wpList _ _ _ _ _ _); refine arm_load rfl (.tmp 5) 40 rfl rfl (HLQ.out _) ?_)
    | ((with_reducible show wpList _ _ _ _ _ _); refine arm_load rfl (.tmp 6) 40 rfl rfl (HLR.out _) ?_)
    | ((with_reducible show wpList _ _ _ _ _ _); refine arm_load rfl (.tmp 7) 31 rfl rfl (HLD.out _) ?_)
  refine Calls.mono (Hi.calls (h4 _)) ?_
  rintro e4 w5 ⟨rfl, x5, rfl⟩
  go_wp2_with first
    | ((with_reducible show wpList _ _ _ _ _ _); refine arm_load rfl (.tmp 4) 40 rfl rfl (HLP.out _) ?_)
    | ((with_reducible show wpList _ _ _ _ _ _); refine arm_load rfl (.tmp 5) 40 rfl rfl (HLQ.out _) ?_)
    | ((with_reducible show wpList _ _ _ _ _ _); refine arm_load rfl (.tmp 6) 40 rfl rfl (HLR.out _) ?_)
    | ((with_reducible show wpList _ _ _ _ _ _); refine arm_load rfl (.tmp 7) 31 rfl rfl (HLD.out _) ?_)
  refine Calls.mono (Hi.calls (G1.out _)) ?_
  rintro e5 w6 ⟨rfl, x6, rfl⟩
  go_wp2_with first
    | ((with_reducible show wpList _ _ _ _ _ _); refine arm_load rfl (.tmp 4) 40 rfl rfl (HLP.out _) ?_)
    | ((with_reducible show wpList _ _ _ _ _ _); refine arm_load rfl (.tmp 5) 40 rfl rfl (HLQ.out _) ?_)
    | ((with_reducible show wpList _ _ _ _ _ _); refine arm_load rfl (.tmp 6) 40 rfl rfl (HLR.out _) ?_)
    | ((with_reducible show wpList _ _ _ _ _ _); refine arm_load rfl (.tmp 7) 31 rfl rfl (HLD.out _) ?_)
  refine Calls.mono (Hi.calls (G2.out _)) ?_
  rintro e6 w7 ⟨rfl, x7, rfl⟩
  go_wp2_with first
    | ((with_reducible show wpList _ _ _ _ _ _); refine arm_load rfl (.tmp 4) 40 rfl rfl (HLP.out _) ?_)
    | ((with_reducible show wpList _ _ _ _ _ _); refine arm_load rfl _ 31 rfl rfl (HQA.out _) ?_)
  refine Calls.mono (Hi.calls (G3.out _)) ?_
  rintro e7 w8 ⟨rfl, x8, rfl⟩
  go_wp2_with first
    | ((with_reducible show wpList _ _ _ _ _ _); refine arm_load rfl (.tmp 5) 40 rfl rfl (HLQ.out _) ?_)
    | ((with_reducible show wpList _ _ _ _ _ _); refine arm_load rfl _ 31 rfl rfl (HPA.out _) ?_)
  refine Calls.mono (Hi.calls (G4.out _)) ?_
  rintro e8 w9 ⟨rfl, x9, rfl⟩
  clear h1 h2 h3 h4 G1 G2 G3 G4 HLR HLD HPA HQA
  have hend := hbl.trans (x9.below.mono hbl.size)
  clear hbl
  have HE : Hid _ := hend
  clear hend
  cases x
  · cases y
    · cases inn
      · cases own
        · cases back
          · go_wp2
            go_ret
            exact ⟨rfl, HE.out⟩
          · exact absurd (K4.out) (by decide)
        · exact absurd K4.out (by simp)
      · cases too
        · cases own
          · cases back
            · go_wp2
              go_ret
              exact ⟨rfl, HE.out⟩
            · exact absurd (K4.out) (by decide)
          · exact absurd K4.out (by simp)
        · exact absurd (K1.out rfl rfl rfl) (by decide)
    · cases inn
      · cases own
        · cases back
          · exact absurd (K4.out) (by decide)
          · go_wp2
            go_ret
            exact ⟨rfl, HE.out⟩
        · go_wp2
          go_ret
          exact ⟨rfl, HE.out⟩
      · cases too
        · cases own
          · cases back
            · exact absurd (K4.out) (by decide)
            · go_wp2
              go_ret
              exact ⟨rfl, HE.out⟩
          · go_wp2
            go_ret
            exact ⟨rfl, HE.out⟩
        · cases own
          · cases back
            · exact absurd (K4.out) (by decide)
            · go_wp2
              go_ret
              exact ⟨rfl, HE.out⟩
          · go_wp2
            go_ret
            exact ⟨rfl, HE.out⟩
  · cases y
    · cases inn
      · cases z
        · cases own
          · cases back
            · exact absurd (K4.out) (by decide)
            · go_wp2
              go_ret
              exact ⟨rfl, HE.out⟩
          · go_wp2
            go_ret
            exact ⟨rfl, HE.out⟩
        · cases u
          · exact absurd (K3.out rfl rfl) (by decide)
          · cases own
            · cases back
              · exact absurd (K4.out) (by decide)
              · go_wp2
                go_ret
                exact ⟨rfl, HE.out⟩
            · go_wp2
              go_ret
              exact ⟨rfl, HE.out⟩
      · cases too
        · cases z
          · cases own
            · cases back
              · exact absurd (K4.out) (by decide)
              · go_wp2
                go_ret
                exact ⟨rfl, HE.out⟩
            · go_wp2
              go_ret
              exact ⟨rfl, HE.out⟩
          · cases u
            · exact absurd (K3.out rfl rfl) (by decide)
            · cases own
              · cases back
                · exact absurd (K4.out) (by decide)
                · go_wp2
                  go_ret
                  exact ⟨rfl, HE.out⟩
              · go_wp2
                go_ret
                exact ⟨rfl, HE.out⟩
        · cases z
          · cases own
            · cases back
              · exact absurd (K4.out) (by decide)
              · go_wp2
                go_ret
                exact ⟨rfl, HE.out⟩
            · go_wp2
              go_ret
              exact ⟨rfl, HE.out⟩
          · cases u
            · exact absurd (K3.out rfl rfl) (by decide)
            · cases own
              · cases back
                · exact absurd (K4.out) (by decide)
                · go_wp2
                  go_ret
                  exact ⟨rfl, HE.out⟩
              · go_wp2
                go_ret
                exact ⟨rfl, HE.out⟩
    · obtain ⟨rfl, rfl⟩ := K2.out rfl rfl
      cases inn
      · cases z
        · cases own
          · cases back
            · exact absurd (K4.out) (by decide)
            · go_wp2_with first
                | ((with_reducible show wpList _ _ _ _ _ _); refine arm_load rfl (.tmp 4) 40 rfl rfl (HLP.out _) ?_)
                | ((with_reducible show wpList _ _ _ _ _ _); refine arm_load rfl (.tmp 5) 40 rfl rfl (HLQ.out _) ?_)
              go_ret
              exact ⟨rfl, HE.out⟩
          · go_wp2_with first
              | ((with_reducible show wpList _ _ _ _ _ _); refine arm_load rfl (.tmp 4) 40 rfl rfl (HLP.out _) ?_)
              | ((with_reducible show wpList _ _ _ _ _ _); refine arm_load rfl (.tmp 5) 40 rfl rfl (HLQ.out _) ?_)
            go_ret
            exact ⟨rfl, HE.out⟩
        · cases u
          · exact absurd (K3.out rfl rfl) (by decide)
          · cases own
            · cases back
              · exact absurd (K4.out) (by decide)
              · go_wp2_with first
                  | ((with_reducible show wpList _ _ _ _ _ _); refine arm_load rfl (.tmp 4) 40 rfl rfl (HLP.out _) ?_)
                  | ((with_reducible show wpList _ _ _ _ _ _); refine arm_load rfl (.tmp 5) 40 rfl rfl (HLQ.out _) ?_)
                go_ret
                exact ⟨rfl, HE.out⟩
            · go_wp2_with first
                | ((with_reducible show wpList _ _ _ _ _ _); refine arm_load rfl (.tmp 4) 40 rfl rfl (HLP.out _) ?_)
                | ((with_reducible show wpList _ _ _ _ _ _); refine arm_load rfl (.tmp 5) 40 rfl rfl (HLQ.out _) ?_)
              go_ret
              exact ⟨rfl, HE.out⟩
      · cases too
        · cases z
          · cases own
            · cases back
              · exact absurd (K4.out) (by decide)
              · go_wp2_with first
                  | ((with_reducible show wpList _ _ _ _ _ _); refine arm_load rfl (.tmp 4) 40 rfl rfl (HLP.out _) ?_)
                  | ((with_reducible show wpList _ _ _ _ _ _); refine arm_load rfl (.tmp 5) 40 rfl rfl (HLQ.out _) ?_)
                go_ret
                exact ⟨rfl, HE.out⟩
            · go_wp2_with first
                | ((with_reducible show wpList _ _ _ _ _ _); refine arm_load rfl (.tmp 4) 40 rfl rfl (HLP.out _) ?_)
                | ((with_reducible show wpList _ _ _ _ _ _); refine arm_load rfl (.tmp 5) 40 rfl rfl (HLQ.out _) ?_)
              go_ret
              exact ⟨rfl, HE.out⟩
          · cases u
            · exact absurd (K3.out rfl rfl) (by decide)
            · cases own
              · cases back
                · exact absurd (K4.out) (by decide)
                · go_wp2_with first
                    | ((with_reducible show wpList _ _ _ _ _ _); refine arm_load rfl (.tmp 4) 40 rfl rfl (HLP.out _) ?_)
                    | ((with_reducible show wpList _ _ _ _ _ _); refine arm_load rfl (.tmp 5) 40 rfl rfl (HLQ.out _) ?_)
                  go_ret
                  exact ⟨rfl, HE.out⟩
              · go_wp2_with first
                  | ((with_reducible show wpList _ _ _ _ _ _); refine arm_load rfl (.tmp 4) 40 rfl rfl (HLP.out _) ?_)
                  | ((with_reducible show wpList _ _ _ _ _ _); refine arm_load rfl (.tmp 5) 40 rfl rfl (HLQ.out _) ?_)
                go_ret
                exact ⟨rfl, HE.out⟩
        · cases z
          · cases own
            · cases back
              · exact absurd (K4.out) (by decide)
              · go_wp2_with first
                  | ((with_reducible show wpList _ _ _ _ _ _); refine arm_load rfl (.tmp 4) 40 rfl rfl (HLP.out _) ?_)
                  | ((with_reducible show wpList _ _ _ _ _ _); refine arm_load rfl (.tmp 5) 40 rfl rfl (HLQ.out _) ?_)
                go_ret
                exact ⟨rfl, HE.out⟩
            · go_wp2_with first
                | ((with_reducible show wpList _ _ _ _ _ _); refine arm_load rfl (.tmp 4) 40 rfl rfl (HLP.out _) ?_)
                | ((with_reducible show wpList _ _ _ _ _ _); refine arm_load rfl (.tmp 5) 40 rfl rfl (HLQ.out _) ?_)
              go_ret
              exact ⟨rfl, HE.out⟩
          · cases u
            · exact absurd (K3.out rfl rfl) (by decide)
            · cases own
              · cases back
                · exact absurd (K4.out) (by decide)
                · go_wp2_with first
                    | ((with_reducible show wpList _ _ _ _ _ _); refine arm_load rfl (.tmp 4) 40 rfl rfl (HLP.out _) ?_)
                    | ((with_reducible show wpList _ _ _ _ _ _); refine arm_load rfl (.tmp 5) 40 rfl rfl (HLQ.out _) ?_)
                  go_ret
                  exact ⟨rfl, HE.out⟩
              · go_wp2_with first
                  | ((with_reducible show wpList _ _ _ _ _ _); refine arm_load rfl (.tmp 4) 40 rfl rfl (HLP.out _) ?_)
                  | ((with_reducible show wpList _ _ _ _ _ _); refine arm_load rfl (.tmp 5) 40 rfl rfl (HLQ.out _) ?_)
                go_ret
                exact ⟨rfl, HE.out⟩

end Go.Proofs.YthejkiocndoflaaDoor
