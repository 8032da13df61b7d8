/-
  The gap, and the text of every IPv6 address.
-/
import Derived.Test.YtiigcilclblblaaDoorRb1
import Derived.Test.YtiigcilclblblaaDoorRa3
import Derived.Test.YtiigcilclblblaaDoorAgg
namespace Go.Proofs.YtiigcilclblblaaDoor
open Go Go.RowKit
set_option linter.unusedVariables false
set_option linter.unusedSimpArgs false

/-- Where the longest row of zeros begins and ends, and where the last one began, k groups on. -/
def gapK (z : List Bool) : Nat → Nat × Nat × Nat
  | 0 => (0, 0, 0)
  | k + 1 => if z[k]?.getD false = false then ((gapK z k).1, (gapK z k).2.1, k + 1)
    else if 1 < k + 1 - (gapK z k).2.2 ∧ (gapK z k).2.1 - (gapK z k).1 < k + 1 - (gapK z k).2.2 then ((gapK z k).2.2, k + 1, (gapK z k).2.2) else gapK z k
theorem gapK_ok (z : List Bool) : ∀ k, (gapK z k).1 ≤ (gapK z k).2.1 ∧ (gapK z k).2.1 ≤ k ∧ (gapK z k).2.2 ≤ k
  | 0 => by simp [gapK]
  | k + 1 => by
    have ih := gapK_ok z k
    rw [gapK]
    split
    · simp; omega
    · split
      · simp; omega
      · omega
def zb (G : List Int) : List Bool := G.map (fun x => x == 0)

set_option maxHeartbeats 2000000 in
theorem gap_calls (G : List Int) (hG : ∀ x ∈ G, 0 ≤ x ∧ x < 65536) (hl : G.length = 8) (b c : Nat) (w : World) (hc : ∀ (j : Nat) x, G[j]? = some x → w.cell? ⟨b, j, none⟩ = some (.int .u16 x)) :
    Calls Tryd.prog 60 #[.slice (some ⟨b, 0, none⟩) 8 c] w fun e w' => e = .returned (.tuple #[.int .i64 ((gapK (zb G) 8).1 : Nat), .int .i64 ((gapK (zb G) 8).2.1 : Nat)]) ∧ w' = w := by
  have HC : Hid _ := hc
  clear hc
  go_enter Tryd.func60, Tryd.ntmps60
  go_wp2
  go_loopw [2, 3, 4, 10] (fun f t s i wr => ∃ k : Nat, k ≤ 8 ∧ i = .int .i64 k ∧ f = .int .i64 ((gapK (zb G) k).1 : Nat) ∧ t = .int .i64 ((gapK (zb G) k).2.1 : Nat) ∧ s = .int .i64 ((gapK (zb G) k).2.2 : Nat) ∧ wr = w) (fun _ _ _ i _ => 8 - (intOf i).toNat)
  case atStart => exact ⟨0, by omega, rfl, rfl, rfl, rfl, rfl⟩
  case round =>
    obtain ⟨k, hk, rfl, rfl, rfl, rfl, rfl⟩ := hrel
    obtain ⟨i1, i2, i3⟩ := gapK_ok (zb G) k
    by_cases hlt : k < 8
    · have hx : G[k]? = some (G[k]'(by omega)) := by simp
      have hck := HC.out k _ hx
      have hzk : (zb G)[k]?.getD false = (G[k]'(by omega) == 0) := by simp [zb, hx]
      have hr := hG _ (List.mem_of_getElem? hx)
      have hs : gapK (zb G) (k + 1) = if (zb G)[k]?.getD false = false then ((gapK (zb G) k).1, (gapK (zb G) k).2.1, k + 1) else if 1 < k + 1 - (gapK (zb G) k).2.2 ∧ (gapK (zb G) k).2.1 - (gapK (zb G) k).1 < k + 1 - (gapK (zb G) k).2.2 then ((gapK (zb G) k).2.2, k + 1, (gapK (zb G) k).2.2) else gapK (zb G) k := rfl
      rw [hzk] at hs
      generalize G[k]'(by omega) = x at *
      have hlt2 : (k : Int) < 8 := by omega
      by_cases hx0 : x = 0
      · have h0 : (x == 0) = true := beq_iff_eq.2 hx0
        rw [h0, if_neg (by decide)] at hs
        have hn : (x != 0) = false := by simpa using hx0
        by_cases hcond : 1 < k + 1 - (gapK (zb G) k).2.2 ∧ (gapK (zb G) k).2.1 - (gapK (zb G) k).1 < k + 1 - (gapK (zb G) k).2.2
        · rw [if_pos hcond] at hs
          have HS : Hid _ := hs
          clear hs hzk hx h0 hx0 HC
          generalize hgk : gapK (zb G) k = g at *
          clear hgk
          obtain ⟨f, t, s⟩ := g
          simp only at i1 i2 i3 hcond HS ⊢
          obtain ⟨q1, q2⟩ := hcond
          have q3 : (1 : Int) < (k : Int) + 1 - (s : Int) := by omega
          have q4 : (t : Int) - (f : Int) < (k : Int) + 1 - (s : Int) := by omega
          go_wp2
          all_goals first
            | (exfalso; omega)
            | exact ⟨⟨k + 1, by omega, by simp, by rw [HS.out], by rw [HS.out]; simp, by rw [HS.out], trivial⟩, by simp [intOf]; omega⟩
        · rw [if_neg hcond] at hs
          have HS : Hid _ := hs
          clear hs hzk hx h0 hx0 HC
          generalize hgk : gapK (zb G) k = g at *
          clear hgk
          obtain ⟨f, t, s⟩ := g
          simp only at i1 i2 i3 hcond HS ⊢
          go_wp2
          all_goals first
            | (exfalso; omega)
            | exact ⟨⟨k + 1, by omega, by simp, by rw [HS.out], by rw [HS.out], by rw [HS.out], trivial⟩, by simp [intOf]; omega⟩
      · have h0 : (x == 0) = false := beq_eq_false_iff_ne.2 hx0
        rw [h0, if_pos rfl] at hs
        have hn : (x != 0) = true := by simpa using hx0
        have HS : Hid _ := hs
        clear hs hzk hx h0 hx0 HC
        generalize hgk : gapK (zb G) k = g at *
        clear hgk
        obtain ⟨f, t, s⟩ := g
        simp only at i1 i2 i3 HS ⊢
        go_wp2
        all_goals first
          | (exfalso; omega)
          | exact ⟨⟨k + 1, by omega, by simp, by rw [HS.out], by rw [HS.out], by rw [HS.out]; simp, trivial⟩, by simp [intOf]; omega⟩
    · obtain rfl : k = 8 := by omega
      go_wp2
      go_ret2
      exact ⟨rfl, rfl⟩

/-- A text's groups in hex digits. -/
def jn (l : List Int) : List UInt8 := Lib.join (l.map hexText) [58]
/-- The own text of an address, by its groups. -/
def own6 (G : List Int) : List UInt8 := if (gapK (zb G) 8).2.1 = 0 then jn G else jn (G.take (gapK (zb G) 8).1) ++ [58, 58] ++ jn (G.drop (gapK (zb G) 8).2.1)
theorem jn_len (l : List Int) (h : l.length ≤ 8) : (jn l).length ≤ 100 := by
  unfold jn
  have h5 : ∀ z : Int, (hexText z).length ≤ 4 := by
    intro z
    unfold hexText
    split
    · simp
    · split
      · simp
      · split <;> simp
  have : ∀ l : List (List UInt8), (∀ x ∈ l, x.length ≤ 4) → (Lib.join l [58]).length ≤ 5 * l.length := by
    intro l hx
    cases l with
    | nil => simp [Lib.join_nil]
    | cons x r =>
      rw [Lib.join_cons]
      have ht : ∀ r : List (List UInt8), (∀ y ∈ r, y.length ≤ 4) → (Lib.joinTail [58] r).length ≤ 5 * r.length := by
        intro r
        induction r with
        | nil => intro _; simp [Lib.joinTail]
        | cons y r ih =>
          intro hy
          have h1 := hy y (by simp)
          have h2 := ih (fun z hz => hy z (by simp [hz]))
          simp only [Lib.joinTail, List.map_cons, List.flatten_cons, List.length_append, List.length_cons, List.length_nil] at h2 ⊢
          omega
      have h1 := hx x (by simp)
      have h2 := ht r (fun z hz => hx z (by simp [hz]))
      simp
      omega
  have h2 := this (l.map hexText) (by intro x hx; simp at hx; obtain ⟨z, _, rfl⟩ := hx; exact h5 z)
  simp at h2
  omega

set_option maxHeartbeats 4000000 in
set_option maxRecDepth 100000 in
theorem text6_all (a0 a1 a2 a3 a4 a5 a6 a7 a8 a9 a10 a11 a12 a13 a14 a15 : Int) (h0 : 0 ≤ a0 ∧ a0 < 256) (h1 : 0 ≤ a1 ∧ a1 < 256) (h2 : 0 ≤ a2 ∧ a2 < 256) (h3 : 0 ≤ a3 ∧ a3 < 256) (h4 : 0 ≤ a4 ∧ a4 < 256) (h5 : 0 ≤ a5 ∧ a5 < 256) (h6 : 0 ≤ a6 ∧ a6 < 256) (h7 : 0 ≤ a7 ∧ a7 < 256) (h8 : 0 ≤ a8 ∧ a8 < 256) (h9 : 0 ≤ a9 ∧ a9 < 256) (h10 : 0 ≤ a10 ∧ a10 < 256) (h11 : 0 ≤ a11 ∧ a11 < 256) (h12 : 0 ≤ a12 ∧ a12 < 256) (h13 : 0 ≤ a13 ∧ a13 < 256) (h14 : 0 ≤ a14 ∧ a14 < 256) (h15 : 0 ≤ a15 ∧ a15 < 256) (w : World) (ht : Tz w) : Calls Tryd.prog 20 #[.agg #[.int .u8 a0, .int .u8 a1, .int .u8 a2, .int .u8 a3, .int .u8 a4, .int .u8 a5, .int .u8 a6, .int .u8 a7, .int .u8 a8, .int .u8 a9, .int .u8 a10, .int .u8 a11, .int .u8 a12, .int .u8 a13, .int .u8 a14, .int .u8 a15]] w fun e w' => e = .returned (strV (own6 [a0 * 256 + a1, a2 * 256 + a3, a4 * 256 + a5, a6 * 256 + a7, a8 * 256 + a9, a10 * 256 + a11, a12 * 256 + a13, a14 * 256 + a15])) ∧ Below w.heap.size w w' := by
  have HT : Hid _ := ht
  clear ht
  have HGC : Hid _ := fun W => groups_calls a0 a1 a2 a3 a4 a5 a6 a7 a8 a9 a10 a11 a12 a13 a14 a15 h0 h1 h2 h3 h4 h5 h6 h7 h8 h9 h10 h11 h12 h13 h14 h15 W
  have hG : ∀ x ∈ [a0 * 256 + a1, a2 * 256 + a3, a4 * 256 + a5, a6 * 256 + a7, a8 * 256 + a9, a10 * 256 + a11, a12 * 256 + a13, a14 * 256 + a15], 0 ≤ x ∧ x < 65536 := by
    intro x hx
    simp only [List.mem_cons, List.not_mem_nil, or_false] at hx
    rcases hx with rfl | rfl | rfl | rfl | rfl | rfl | rfl | rfl <;> omega
  have hB0 := (Below.refl w.heap.size w).alloc (Nat.le_refl _) (.cells #[.int .u8 a0, .int .u8 a1, .int .u8 a2, .int .u8 a3, .int .u8 a4, .int .u8 a5, .int .u8 a6, .int .u8 a7, .int .u8 a8, .int .u8 a9, .int .u8 a10, .int .u8 a11, .int .u8 a12, .int .u8 a13, .int .u8 a14, .int .u8 a15] 31)
  obtain ⟨G, hGe⟩ : ∃ G, G = [a0 * 256 + a1, a2 * 256 + a3, a4 * 256 + a5, a6 * 256 + a7, a8 * 256 + a9, a10 * 256 + a11, a12 * 256 + a13, a14 * 256 + a15] := ⟨_, rfl⟩
  have hGl : G.length = 8 := by rw [hGe]; rfl
  rw [← hGe] at hG ⊢
  have HGE : Hid _ := hGe
  clear hGe
  generalize hO : own6 G = OW
  have HO : Hid _ := hO
  clear hO
  go_enter Tryd.func20, Tryd.ntmps20
  go_wp2_with fail
  refine (HGC.out _).mono ?_
  rintro e w1 ⟨rfl, hB1⟩
  have hB := hB0.trans (hB1.mono hB0.size)
  have hB2 := hB.alloc hB.size (.cells #[.int .u16 (a0 * 256 + a1), .int .u16 (a2 * 256 + a3), .int .u16 (a4 * 256 + a5), .int .u16 (a6 * 256 + a7), .int .u16 (a8 * 256 + a9), .int .u16 (a10 * 256 + a11), .int .u16 (a12 * 256 + a13), .int .u16 (a14 * 256 + a15)] 94)
  have hg : w1.heap.size < (w1.alloc (.cells #[.int .u16 (a0 * 256 + a1), .int .u16 (a2 * 256 + a3), .int .u16 (a4 * 256 + a5), .int .u16 (a6 * 256 + a7), .int .u16 (a8 * 256 + a9), .int .u16 (a10 * 256 + a11), .int .u16 (a12 * 256 + a13), .int .u16 (a14 * 256 + a15)] 94)).heap.size := by simp
  have hc : ∀ (j : Nat) x, G[j]? = some x → (w1.alloc (.cells #[.int .u16 (a0 * 256 + a1), .int .u16 (a2 * 256 + a3), .int .u16 (a4 * 256 + a5), .int .u16 (a6 * 256 + a7), .int .u16 (a8 * 256 + a9), .int .u16 (a10 * 256 + a11), .int .u16 (a12 * 256 + a13), .int .u16 (a14 * 256 + a15)] 94)).cell? ⟨w1.heap.size, j, none⟩ = some (.int .u16 x) := by
    intro j x hj
    rw [World.cell?_alloc_new]
    rw [HGE.out] at hj
    have : (([a0 * 256 + a1, a2 * 256 + a3, a4 * 256 + a5, a6 * 256 + a7, a8 * 256 + a9, a10 * 256 + a11, a12 * 256 + a13, a14 * 256 + a15]).map (fun z => Value.int .u16 z))[j]? = some (.int .u16 x) := by rw [List.getElem?_map, hj]; rfl
    simpa using this
  go_wp2_with fail
  generalize w1.alloc (.cells #[.int .u16 (a0 * 256 + a1), .int .u16 (a2 * 256 + a3), .int .u16 (a4 * 256 + a5), .int .u16 (a6 * 256 + a7), .int .u16 (a8 * 256 + a9), .int .u16 (a10 * 256 + a11), .int .u16 (a12 * 256 + a13), .int .u16 (a14 * 256 + a15)] 94) = w2 at *
  generalize w1.heap.size = g at *
  have HGAP : Hid _ := gap_calls G hG hGl g 8 w2 hc
  have hTz : Tz w2 := Tz.on HT.out hB2
  have hex : ∀ (o n : Nat) (c : Nat) W, o + n ≤ 8 → Below w2.heap.size w2 W → Calls Tryd.prog 61 #[.slice (some ⟨g, o, none⟩) n c] W fun e w' => e = .returned (strV (jn ((G.drop o).take n))) ∧ Below W.heap.size W w' := by
    intro o n c W hon hW
    have hl2 : ((G.drop o).take n).length = n := by simp; omega
    have h := hexes_calls ((G.drop o).take n) (fun z hz => hG z (List.mem_of_mem_drop (List.mem_of_mem_take hz))) (by rw [hl2]; omega) g o c W (hTz.on hW).2 (hTz.on hW).1 (Nat.lt_of_lt_of_le hg hW.size) (fun j z hj => by
      have hjn : j < n := by
        have := (List.getElem?_eq_some_iff.1 hj).1
        omega
      rw [List.getElem?_take_of_lt hjn, List.getElem?_drop] at hj
      exact (hW.cell (p := ⟨g, o + j, none⟩) hg).trans (hc (o + j) z hj))
    rw [hl2] at h
    exact h
  have HX : Hid _ := hex
  obtain ⟨i1, i2, _⟩ := gapK_ok (zb G) 8
  clear hex hc hTz hg hB HGC
  refine Calls.mono HGAP.out ?_
  rintro e w3 ⟨rfl, rfl⟩
  clear HGAP
  have hOW : OW = if (gapK (zb G) 8).2.1 = 0 then jn G else jn (G.take (gapK (zb G) 8).1) ++ [58, 58] ++ jn (G.drop (gapK (zb G) 8).2.1) := HO.out.symm
  generalize gapK (zb G) 8 = gp at *
  obtain ⟨f, t, s⟩ := gp
  simp only at i1 i2 hOW
  by_cases h0 : t = 0
  · rw [if_pos h0] at hOW
    have q : ((t : Int) == 0) = true := beq_iff_eq.2 (by omega)
    have HA : Hid (Calls Tryd.prog 61 #[.slice (some ⟨g, 0, none⟩) 8 8] w3 fun e w' => e = .returned (strV OW) ∧ Below w3.heap.size w3 w') := by
      have h := HX.out 0 8 8 w3 (by omega) (Below.refl _ _)
      rw [List.drop_zero, List.take_of_length_le (by omega), ← hOW] at h
      exact h
    clear HX hOW h0
    go_wp2_with fail
    refine Calls.mono HA.out ?_
    rintro e w4 ⟨rfl, hB4⟩
    go_wp2
    go_ret
    exact ⟨rfl, hB2.trans (hB4.mono hB2.size)⟩
  · rw [if_neg h0] at hOW
    have q : ((t : Int) == 0) = false := beq_eq_false_iff_ne.2 (by omega)
    have HA : Hid (∀ W, Below w3.heap.size w3 W → Calls Tryd.prog 61 #[.slice (some ⟨g, 0, none⟩) f 8] W fun e w' => e = .returned (strV (jn (G.take f))) ∧ Below W.heap.size W w') := fun W hW => by
      have h := HX.out 0 f 8 W (by omega) hW
      rw [List.drop_zero] at h
      exact h
    have HD : Hid (∀ c W, Below w3.heap.size w3 W → Calls Tryd.prog 61 #[.slice (some ⟨g, t, none⟩) (8 - t) c] W fun e w' => e = .returned (strV (jn (G.drop t))) ∧ Below W.heap.size W w') := fun c W hW => by
      have h := HX.out t (8 - t) c W (by omega) hW
      rw [List.take_of_length_le (by simp; omega)] at h
      exact h
    have l1 := jn_len (G.take f) (by simp; omega)
    have l2 := jn_len (G.drop t) (by simp; omega)
    have hY8 : 8 ≤ t → jn [] = jn (G.drop t) := fun h => by rw [List.drop_eq_nil_of_le (by omega)]
    generalize jn (G.take f) = X at *
    generalize jn (G.drop t) = Y at *
    by_cases ht8 : t < 8
    · have HE : Hid (∀ W, Below w3.heap.size w3 W → Calls Tryd.prog 61 #[.slice (some ⟨g, t, none⟩) (8 - t) (8 - t)] W fun e w' => e = .returned (strV Y) ∧ Below W.heap.size W w') := fun W hW => HD.out _ W hW
      have q2 : (t : Int) ≤ 8 := by omega
      have q3 : (f : Int) ≤ 8 := by omega
      have q4 : ¬ (8 - t = 0) := by omega
      clear HD
      go_wp2_with fail
      refine wp_region_hi (by kernel_rfl) (by kernel_rfl) ?_
      repeat (go_big_quiet_step (first | (go_at_call_of 61 (Value.slice (some { block := g, off := 0 }) f 8); exact Hi.calls (HA.out _ (Hi.below _))) | (go_at_call 61; exact Hi.calls (HE.out _ (Hi.below _)))))
      refine wpQuiet_nil ?_
      intro _ hw
      obtain ⟨y, rfl⟩ := hw
      go_wp2
      go_ret
      refine ⟨?_, hB2.trans (y.below.mono hB2.size)⟩
      rw [hOW]
      exact congrArg (fun x => Ending.returned (Value.string x)) ((congrArg (· ++ (⟨Y.toArray⟩ : ByteArray)) (str_app X [58, 58])).trans (str_app (X ++ [58, 58]) Y))
    · obtain rfl : t = 8 := by omega
      have HE : Hid (∀ W, Below w3.heap.size w3 W → Calls Tryd.prog 61 #[.slice (some ⟨g, 0, none⟩) 0 0] W fun e w' => e = .returned (strV Y) ∧ Below W.heap.size W w') := fun W hW => by
        have h := HX.out 0 0 0 W (by omega) hW
        have e : jn ((G.drop 0).take 0) = Y := by rw [← hY8 (by omega)]; simp
        rw [e] at h
        exact h
      have q3 : (f : Int) ≤ 8 := by omega
      clear HD HX
      go_wp2_with fail
      refine wp_region_hi (by kernel_rfl) (by kernel_rfl) ?_
      repeat (go_big_quiet_step (first | (go_at_call_of 61 (Value.slice (some { block := g, off := 0 }) f 8); exact Hi.calls (HA.out _ (Hi.below _))) | (go_at_call 61; exact Hi.calls (HE.out _ (Hi.below _)))))
      refine wpQuiet_nil ?_
      intro _ hw
      obtain ⟨y, rfl⟩ := hw
      go_wp2
      go_ret
      refine ⟨?_, hB2.trans (y.below.mono hB2.size)⟩
      rw [hOW]
      exact congrArg (fun x => Ending.returned (Value.string x)) ((congrArg (· ++ (⟨Y.toArray⟩ : ByteArray)) (str_app X [58, 58])).trans (str_app (X ++ [58, 58]) Y))

end Go.Proofs.YtiigcilclblblaaDoor
