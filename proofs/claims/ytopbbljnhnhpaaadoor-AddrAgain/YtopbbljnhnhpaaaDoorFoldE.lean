/-
  An address as groups.
  The gap, and the text of every IPv6 address.
  The own texts are parsed as what they are texts of.
-/
import Derived.Test.YtopbbljnhnhpaaaDoorFoldC
import Derived.Test.YtopbbljnhnhpaaaDoorFoldA
import Derived.Laws.BitsAllLaws
import Derived.Test.YtopbbljnhnhpaaaDoorFoldD
import Derived.Test.YtopbbljnhnhpaaaDoorAgg
namespace Go.Proofs.YtopbbljnhnhpaaaDoor
open Go Go.RowKit
set_option linter.unusedVariables false
set_option linter.unusedSimpArgs false

theorem or8 (a b : Int) (ha : 0 ≤ a ∧ a < 256) (hb : 0 ≤ b ∧ b < 256) : bits .or .u16 (a * 256) b = a * 256 + b := by
  obtain ⟨x, rfl⟩ := Int.eq_ofNat_of_zero_le ha.1
  obtain ⟨y, rfl⟩ := Int.eq_ofNat_of_zero_le hb.1
  rw [u16_or _ _ (by omega) (by omega) (by omega) (by omega)]
  have e1 : ((x : Int) * 256).toNat = 2 ^ 8 * x := by omega
  have e2 : (y : Int).toNat = y := by omega
  rw [e1, e2, ← Nat.two_pow_add_eq_or_of_lt (by omega) x]
  omega

set_option maxHeartbeats 8000000 in
set_option maxRecDepth 100000 in
theorem groups_calls (a0 a1 a2 a3 a4 a5 a6 a7 a8 a9 a10 a11 a12 a13 a14 a15 : Int) (h0 : 0 ≤ a0 ∧ a0 < 256) (h1 : 0 ≤ a1 ∧ a1 < 256) (h2 : 0 ≤ a2 ∧ a2 < 256) (h3 : 0 ≤ a3 ∧ a3 < 256) (h4 : 0 ≤ a4 ∧ a4 < 256) (h5 : 0 ≤ a5 ∧ a5 < 256) (h6 : 0 ≤ a6 ∧ a6 < 256) (h7 : 0 ≤ a7 ∧ a7 < 256) (h8 : 0 ≤ a8 ∧ a8 < 256) (h9 : 0 ≤ a9 ∧ a9 < 256) (h10 : 0 ≤ a10 ∧ a10 < 256) (h11 : 0 ≤ a11 ∧ a11 < 256) (h12 : 0 ≤ a12 ∧ a12 < 256) (h13 : 0 ≤ a13 ∧ a13 < 256) (h14 : 0 ≤ a14 ∧ a14 < 256) (h15 : 0 ≤ a15 ∧ a15 < 256) (w : World) : Calls Tryd.prog 59 #[.agg #[.int .u8 a0, .int .u8 a1, .int .u8 a2, .int .u8 a3, .int .u8 a4, .int .u8 a5, .int .u8 a6, .int .u8 a7, .int .u8 a8, .int .u8 a9, .int .u8 a10, .int .u8 a11, .int .u8 a12, .int .u8 a13, .int .u8 a14, .int .u8 a15]] w fun e w' => e = .returned (.agg #[.int .u16 (a0 * 256 + a1), .int .u16 (a2 * 256 + a3), .int .u16 (a4 * 256 + a5), .int .u16 (a6 * 256 + a7), .int .u16 (a8 * 256 + a9), .int .u16 (a10 * 256 + a11), .int .u16 (a12 * 256 + a13), .int .u16 (a14 * 256 + a15)]) ∧ Below w.heap.size w w' := by
  have o0 := or8 a0 a1 h0 h1
  have o1 := or8 a2 a3 h2 h3
  have o2 := or8 a4 a5 h4 h5
  have o3 := or8 a6 a7 h6 h7
  have o4 := or8 a8 a9 h8 h9
  have o5 := or8 a10 a11 h10 h11
  have o6 := or8 a12 a13 h12 h13
  have o7 := or8 a14 a15 h14 h15
  go_enter Tryd.func59, Tryd.ntmps59
  go_wp2
  refine wp_loop_rounds 9 ?_
  iterate 8 (rw [rounds_succ]; go_wp2; go_region; go_wp2)
  rw [rounds_succ]
  go_wp2
  go_returns
  refine ⟨by first | rfl | kernel_rfl, ?_⟩
  go_grown

end Go.Proofs.YtopbbljnhnhpaaaDoor

namespace Go.Proofs.YtopbbljnhnhpaaaDoor
open Go Go.RowKit
set_option linter.unusedVariables false
set_option linter.unusedSimpArgs false

/-- Where the longest row of zeros begins and ends, and where the last one began, k groups on. -/
def gapK (z : List Bool) : Nat → Nat × Nat × Nat
  | 0 => (0, 0, 0)
  | k + 1 => if z[k]?.getD false = false then ((gapK z k).1, (gapK z k).2.1, k + 1)
    else if 1 < k + 1 - (gapK z k).2.2 ∧ (gapK z k).2.1 - (gapK z k).1 < k + 1 - (gapK z k).2.2 then ((gapK z k).2.2, k + 1, (gapK z k).2.2) else gapK z k
theorem gapK_ok (z : List Bool) : ∀ k, (gapK z k).1 ≤ (gapK z k).2.1 ∧ (gapK z k).2.1 ≤ k ∧ (gapK z k).2.2 ≤ k
  | 0 => by simp [gapK]
  | k + 1 => by
    have ih := gapK_ok z k
    rw [gapK]
    split
    · simp; omega
    · split
      · simp; omega
      · omega
def zb (G : List Int) : List Bool := G.map (fun x => x == 0)

set_option maxHeartbeats 2000000 in
theorem gap_calls (G : List Int) (hG : ∀ x ∈ G, 0 ≤ x ∧ x < 65536) (hl : G.length = 8) (b c : Nat) (w : World) (hc : ∀ (j : Nat) x, G[j]? = some x → w.cell? ⟨b, j, none⟩ = some (.int .u16 x)) :
    Calls Tryd.prog 60 #[.slice (some ⟨b, 0, none⟩) 8 c] w fun e w' => e = .returned (.tuple #[.int .i64 ((gapK (zb G) 8).1 : Nat), .int .i64 ((gapK (zb G) 8).2.1 : Nat)]) ∧ w' = w := by
  have HC : Hid _ := hc
  clear hc
  go_enter Tryd.func60, Tryd.ntmps60
  go_wp2
  go_loopw [2, 3, 4, 10] (fun f t s i wr => ∃ k : Nat, k ≤ 8 ∧ i = .int .i64 k ∧ f = .int .i64 ((gapK (zb G) k).1 : Nat) ∧ t = .int .i64 ((gapK (zb G) k).2.1 : Nat) ∧ s = .int .i64 ((gapK (zb G) k).2.2 : Nat) ∧ wr = w) (fun _ _ _ i _ => 8 - (intOf i).toNat)
  case atStart => exact ⟨0, by omega, rfl, rfl, rfl, rfl, rfl⟩
  case round =>
    obtain ⟨k, hk, rfl, rfl, rfl, rfl, rfl⟩ := hrel
    obtain ⟨i1, i2, i3⟩ := gapK_ok (zb G) k
    by_cases hlt : k < 8
    · have hx : G[k]? = some (G[k]'(by omega)) := by simp
      have hck := HC.out k _ hx
      have hzk : (zb G)[k]?.getD false = (G[k]'(by omega) == 0) := by simp [zb, hx]
      have hr := hG _ (List.mem_of_getElem? hx)
      have hs : gapK (zb G) (k + 1) = if (zb G)[k]?.getD false = false then ((gapK (zb G) k).1, (gapK (zb G) k).2.1, k + 1) else if 1 < k + 1 - (gapK (zb G) k).2.2 ∧ (gapK (zb G) k).2.1 - (gapK (zb G) k).1 < k + 1 - (gapK (zb G) k).2.2 then ((gapK (zb G) k).2.2, k + 1, (gapK (zb G) k).2.2) else gapK (zb G) k := rfl
      rw [hzk] at hs
      generalize G[k]'(by omega) = x at *
      have hlt2 : (k : Int) < 8 := by omega
      by_cases hx0 : x = 0
      · have h0 : (x == 0) = true := beq_iff_eq.2 hx0
        rw [h0, if_neg (by decide)] at hs
        have hn : (x != 0) = false := by simpa using hx0
        by_cases hcond : 1 < k + 1 - (gapK (zb G) k).2.2 ∧ (gapK (zb G) k).2.1 - (gapK (zb G) k).1 < k + 1 - (gapK (zb G) k).2.2
        · rw [if_pos hcond] at hs
          have HS : Hid _ := hs
          clear hs hzk hx h0 hx0 HC
          generalize hgk : gapK (zb G) k = g at *
          clear hgk
          obtain ⟨f, t, s⟩ := g
          simp only at i1 i2 i3 hcond HS ⊢
          obtain ⟨q1, q2⟩ := hcond
          have q3 : (1 : Int) < (k : Int) + 1 - (s : Int) := by omega
          have q4 : (t : Int) - (f : Int) < (k : Int) + 1 - (s : Int) := by omega
          go_wp2
          all_goals first
            | (exfalso; omega)
            | exact ⟨⟨k + 1, by omega, by simp, by rw [HS.out], by rw [HS.out]; simp, by rw [HS.out], trivial⟩, by simp [intOf]; omega⟩
        · rw [if_neg hcond] at hs
          have HS : Hid _ := hs
          clear hs hzk hx h0 hx0 HC
          generalize hgk : gapK (zb G) k = g at *
          clear hgk
          obtain ⟨f, t, s⟩ := g
          simp only at i1 i2 i3 hcond HS ⊢
          go_wp2
          all_goals first
            | (exfalso; omega)
            | exact ⟨⟨k + 1, by omega, by simp, by rw [HS.out], by rw [HS.out], by rw [HS.out], trivial⟩, by simp [intOf]; omega⟩
      · have h0 : (x == 0) = false := beq_eq_false_iff_ne.2 hx0
        rw [h0, if_pos rfl] at hs
        have hn : (x != 0) = true := by simpa using hx0
        have HS : Hid _ := hs
        clear hs hzk hx h0 hx0 HC
        generalize hgk : gapK (zb G) k = g at *
        clear hgk
        obtain ⟨f, t, s⟩ := g
        simp only at i1 i2 i3 HS ⊢
        go_wp2
        all_goals first
          | (exfalso; omega)
          | exact ⟨⟨k + 1, by omega, by simp, by rw [HS.out], by rw [HS.out], by rw [HS.out]; simp, trivial⟩, by simp [intOf]; omega⟩
    · obtain rfl : k = 8 := by omega
      go_wp2
      go_ret2
      exact ⟨rfl, rfl⟩

/-- A text's groups in hex digits. -/
def jn (l : List Int) : List UInt8 := Lib.join (l.map hexText) [58]
/-- The own text of an address, by its groups. -/
def own6 (G : List Int) : List UInt8 := if (gapK (zb G) 8).2.1 = 0 then jn G else jn (G.take (gapK (zb G) 8).1) ++ [58, 58] ++ jn (G.drop (gapK (zb G) 8).2.1)
theorem jn_len (l : List Int) (h : l.length ≤ 8) : (jn l).length ≤ 100 := by
  unfold jn
  have h5 : ∀ z : Int, (hexText z).length ≤ 4 := by
    intro z
    unfold hexText
    split
    · simp
    · split
      · simp
      · split <;> simp
  have : ∀ l : List (List UInt8), (∀ x ∈ l, x.length ≤ 4) → (Lib.join l [58]).length ≤ 5 * l.length := by
    intro l hx
    cases l with
    | nil => simp [Lib.join_nil]
    | cons x r =>
      rw [Lib.join_cons]
      have ht : ∀ r : List (List UInt8), (∀ y ∈ r, y.length ≤ 4) → (Lib.joinTail [58] r).length ≤ 5 * r.length := by
        intro r
        induction r with
        | nil => intro _; simp [Lib.joinTail]
        | cons y r ih =>
          intro hy
          have h1 := hy y (by simp)
          have h2 := ih (fun z hz => hy z (by simp [hz]))
          simp only [Lib.joinTail, List.map_cons, List.flatten_cons, List.length_append, List.length_cons, List.length_nil] at h2 ⊢
          omega
      have h1 := hx x (by simp)
      have h2 := ht r (fun z hz => hx z (by simp [hz]))
      simp
      omega
  have h2 := this (l.map hexText) (by intro x hx; simp at hx; obtain ⟨z, _, rfl⟩ := hx; exact h5 z)
  simp at h2
  omega

set_option maxHeartbeats 4000000 in
set_option maxRecDepth 100000 in
theorem text6_all (a0 a1 a2 a3 a4 a5 a6 a7 a8 a9 a10 a11 a12 a13 a14 a15 : Int) (h0 : 0 ≤ a0 ∧ a0 < 256) (h1 : 0 ≤ a1 ∧ a1 < 256) (h2 : 0 ≤ a2 ∧ a2 < 256) (h3 : 0 ≤ a3 ∧ a3 < 256) (h4 : 0 ≤ a4 ∧ a4 < 256) (h5 : 0 ≤ a5 ∧ a5 < 256) (h6 : 0 ≤ a6 ∧ a6 < 256) (h7 : 0 ≤ a7 ∧ a7 < 256) (h8 : 0 ≤ a8 ∧ a8 < 256) (h9 : 0 ≤ a9 ∧ a9 < 256) (h10 : 0 ≤ a10 ∧ a10 < 256) (h11 : 0 ≤ a11 ∧ a11 < 256) (h12 : 0 ≤ a12 ∧ a12 < 256) (h13 : 0 ≤ a13 ∧ a13 < 256) (h14 : 0 ≤ a14 ∧ a14 < 256) (h15 : 0 ≤ a15 ∧ a15 < 256) (w : World) (ht : Tz w) : Calls Tryd.prog 20 #[.agg #[.int .u8 a0, .int .u8 a1, .int .u8 a2, .int .u8 a3, .int .u8 a4, .int .u8 a5, .int .u8 a6, .int .u8 a7, .int .u8 a8, .int .u8 a9, .int .u8 a10, .int .u8 a11, .int .u8 a12, .int .u8 a13, .int .u8 a14, .int .u8 a15]] w fun e w' => e = .returned (strV (own6 [a0 * 256 + a1, a2 * 256 + a3, a4 * 256 + a5, a6 * 256 + a7, a8 * 256 + a9, a10 * 256 + a11, a12 * 256 + a13, a14 * 256 + a15])) ∧ Below w.heap.size w w' := by
  have HT : Hid _ := ht
  clear ht
  have HGC : Hid _ := fun W => groups_calls a0 a1 a2 a3 a4 a5 a6 a7 a8 a9 a10 a11 a12 a13 a14 a15 h0 h1 h2 h3 h4 h5 h6 h7 h8 h9 h10 h11 h12 h13 h14 h15 W
  have hG : ∀ x ∈ [a0 * 256 + a1, a2 * 256 + a3, a4 * 256 + a5, a6 * 256 + a7, a8 * 256 + a9, a10 * 256 + a11, a12 * 256 + a13, a14 * 256 + a15], 0 ≤ x ∧ x < 65536 := by
    intro x hx
    simp only [List.mem_cons, List.not_mem_nil, or_false] at hx
    rcases hx with rfl | rfl | rfl | rfl | rfl | rfl | rfl | rfl <;> omega
  have hB0 := (Below.refl w.heap.size w).alloc (Nat.le_refl _) (.cells #[.int .u8 a0, .int .u8 a1, .int .u8 a2, .int .u8 a3, .int .u8 a4, .int .u8 a5, .int .u8 a6, .int .u8 a7, .int .u8 a8, .int .u8 a9, .int .u8 a10, .int .u8 a11, .int .u8 a12, .int .u8 a13, .int .u8 a14, .int .u8 a15] 31)
  obtain ⟨G, hGe⟩ : ∃ G, G = [a0 * 256 + a1, a2 * 256 + a3, a4 * 256 + a5, a6 * 256 + a7, a8 * 256 + a9, a10 * 256 + a11, a12 * 256 + a13, a14 * 256 + a15] := ⟨_, rfl⟩
  have hGl : G.length = 8 := by rw [hGe]; rfl
  rw [← hGe] at hG ⊢
  have HGE : Hid _ := hGe
  clear hGe
  generalize hO : own6 G = OW
  have HO : Hid _ := hO
  clear hO
  go_enter Tryd.func20, Tryd.ntmps20
  go_wp2_with fail
  refine (HGC.out _).mono ?_
  rintro e w1 ⟨rfl, hB1⟩
  have hB := hB0.trans (hB1.mono hB0.size)
  have hB2 := hB.alloc hB.size (.cells #[.int .u16 (a0 * 256 + a1), .int .u16 (a2 * 256 + a3), .int .u16 (a4 * 256 + a5), .int .u16 (a6 * 256 + a7), .int .u16 (a8 * 256 + a9), .int .u16 (a10 * 256 + a11), .int .u16 (a12 * 256 + a13), .int .u16 (a14 * 256 + a15)] 94)
  have hg : w1.heap.size < (w1.alloc (.cells #[.int .u16 (a0 * 256 + a1), .int .u16 (a2 * 256 + a3), .int .u16 (a4 * 256 + a5), .int .u16 (a6 * 256 + a7), .int .u16 (a8 * 256 + a9), .int .u16 (a10 * 256 + a11), .int .u16 (a12 * 256 + a13), .int .u16 (a14 * 256 + a15)] 94)).heap.size := by simp
  have hc : ∀ (j : Nat) x, G[j]? = some x → (w1.alloc (.cells #[.int .u16 (a0 * 256 + a1), .int .u16 (a2 * 256 + a3), .int .u16 (a4 * 256 + a5), .int .u16 (a6 * 256 + a7), .int .u16 (a8 * 256 + a9), .int .u16 (a10 * 256 + a11), .int .u16 (a12 * 256 + a13), .int .u16 (a14 * 256 + a15)] 94)).cell? ⟨w1.heap.size, j, none⟩ = some (.int .u16 x) := by
    intro j x hj
    rw [World.cell?_alloc_new]
    rw [HGE.out] at hj
    have : (([a0 * 256 + a1, a2 * 256 + a3, a4 * 256 + a5, a6 * 256 + a7, a8 * 256 + a9, a10 * 256 + a11, a12 * 256 + a13, a14 * 256 + a15]).map (fun z => Value.int .u16 z))[j]? = some (.int .u16 x) := by rw [List.getElem?_map, hj]; rfl
    simpa using this
  go_wp2_with fail
  generalize w1.alloc (.cells #[.int .u16 (a0 * 256 + a1), .int .u16 (a2 * 256 + a3), .int .u16 (a4 * 256 + a5), .int .u16 (a6 * 256 + a7), .int .u16 (a8 * 256 + a9), .int .u16 (a10 * 256 + a11), .int .u16 (a12 * 256 + a13), .int .u16 (a14 * 256 + a15)] 94) = w2 at *
  generalize w1.heap.size = g at *
  have HGAP : Hid _ := gap_calls G hG hGl g 8 w2 hc
  have hTz : Tz w2 := Tz.on HT.out hB2
  have hex : ∀ (o n : Nat) (c : Nat) W, o + n ≤ 8 → Below w2.heap.size w2 W → Calls Tryd.prog 61 #[.slice (some ⟨g, o, none⟩) n c] W fun e w' => e = .returned (strV (jn ((G.drop o).take n))) ∧ Below W.heap.size W w' := by
    intro o n c W hon hW
    have hl2 : ((G.drop o).take n).length = n := by simp; omega
    have h := hexes_calls ((G.drop o).take n) (fun z hz => hG z (List.mem_of_mem_drop (List.mem_of_mem_take hz))) (by rw [hl2]; omega) g o c W (hTz.on hW).2 (hTz.on hW).1 (Nat.lt_of_lt_of_le hg hW.size) (fun j z hj => by
      have hjn : j < n := by
        have := (List.getElem?_eq_some_iff.1 hj).1
        omega
      rw [List.getElem?_take_of_lt hjn, List.getElem?_drop] at hj
      exact (hW.cell (p := ⟨g, o + j, none⟩) hg).trans (hc (o + j) z hj))
    rw [hl2] at h
    exact h
  have HX : Hid _ := hex
  obtain ⟨i1, i2, _⟩ := gapK_ok (zb G) 8
  clear hex hc hTz hg hB HGC
  refine Calls.mono HGAP.out ?_
  rintro e w3 ⟨rfl, rfl⟩
  clear HGAP
  have hOW : OW = if (gapK (zb G) 8).2.1 = 0 then jn G else jn (G.take (gapK (zb G) 8).1) ++ [58, 58] ++ jn (G.drop (gapK (zb G) 8).2.1) := HO.out.symm
  generalize gapK (zb G) 8 = gp at *
  obtain ⟨f, t, s⟩ := gp
  simp only at i1 i2 hOW
  by_cases h0 : t = 0
  · rw [if_pos h0] at hOW
    have q : ((t : Int) == 0) = true := beq_iff_eq.2 (by omega)
    have HA : Hid (Calls Tryd.prog 61 #[.slice (some ⟨g, 0, none⟩) 8 8] w3 fun e w' => e = .returned (strV OW) ∧ Below w3.heap.size w3 w') := by
      have h := HX.out 0 8 8 w3 (by omega) (Below.refl _ _)
      rw [List.drop_zero, List.take_of_length_le (by omega), ← hOW] at h
      exact h
    clear HX hOW h0
    go_wp2_with fail
    refine Calls.mono HA.out ?_
    rintro e w4 ⟨rfl, hB4⟩
    go_wp2
    go_ret
    exact ⟨rfl, hB2.trans (hB4.mono hB2.size)⟩
  · rw [if_neg h0] at hOW
    have q : ((t : Int) == 0) = false := beq_eq_false_iff_ne.2 (by omega)
    have HA : Hid (∀ W, Below w3.heap.size w3 W → Calls Tryd.prog 61 #[.slice (some ⟨g, 0, none⟩) f 8] W fun e w' => e = .returned (strV (jn (G.take f))) ∧ Below W.heap.size W w') := fun W hW => by
      have h := HX.out 0 f 8 W (by omega) hW
      rw [List.drop_zero] at h
      exact h
    have HD : Hid (∀ c W, Below w3.heap.size w3 W → Calls Tryd.prog 61 #[.slice (some ⟨g, t, none⟩) (8 - t) c] W fun e w' => e = .returned (strV (jn (G.drop t))) ∧ Below W.heap.size W w') := fun c W hW => by
      have h := HX.out t (8 - t) c W (by omega) hW
      rw [List.take_of_length_le (by simp; omega)] at h
      exact h
    have l1 := jn_len (G.take f) (by simp; omega)
    have l2 := jn_len (G.drop t) (by simp; omega)
    have hY8 : 8 ≤ t → jn [] = jn (G.drop t) := fun h => by rw [List.drop_eq_nil_of_le (by omega)]
    generalize jn (G.take f) = X at *
    generalize jn (G.drop t) = Y at *
    by_cases ht8 : t < 8
    · have HE : Hid (∀ W, Below w3.heap.size w3 W → Calls Tryd.prog 61 #[.slice (some ⟨g, t, none⟩) (8 - t) (8 - t)] W fun e w' => e = .returned (strV Y) ∧ Below W.heap.size W w') := fun W hW => HD.out _ W hW
      have q2 : (t : Int) ≤ 8 := by omega
      have q3 : (f : Int) ≤ 8 := by omega
      have q4 : ¬ (8 - t = 0) := by omega
      clear HD
      go_wp2_with fail
      refine wp_region_hi (by kernel_rfl) (by kernel_rfl) ?_
      repeat (go_big_quiet_step (first | (go_at_call_of 61 (Value.slice (some { block := g, off := 0 }) f 8); exact Hi.calls (HA.out _ (Hi.below _))) | (go_at_call 61; exact Hi.calls (HE.out _ (Hi.below _)))))
      refine wpQuiet_nil ?_
      intro _ hw
      obtain ⟨y, rfl⟩ := hw
      go_wp2
      go_ret
      refine ⟨?_, hB2.trans (y.below.mono hB2.size)⟩
      rw [hOW]
      exact congrArg (fun x => Ending.returned (Value.string x)) ((congrArg (· ++ (⟨Y.toArray⟩ : ByteArray)) (str_app X [58, 58])).trans (str_app (X ++ [58, 58]) Y))
    · obtain rfl : t = 8 := by omega
      have HE : Hid (∀ W, Below w3.heap.size w3 W → Calls Tryd.prog 61 #[.slice (some ⟨g, 0, none⟩) 0 0] W fun e w' => e = .returned (strV Y) ∧ Below W.heap.size W w') := fun W hW => by
        have h := HX.out 0 0 0 W (by omega) hW
        have e : jn ((G.drop 0).take 0) = Y := by rw [← hY8 (by omega)]; simp
        rw [e] at h
        exact h
      have q3 : (f : Int) ≤ 8 := by omega
      clear HD HX
      go_wp2_with fail
      refine wp_region_hi (by kernel_rfl) (by kernel_rfl) ?_
      repeat (go_big_quiet_step (first | (go_at_call_of 61 (Value.slice (some { block := g, off := 0 }) f 8); exact Hi.calls (HA.out _ (Hi.below _))) | (go_at_call 61; exact Hi.calls (HE.out _ (Hi.below _)))))
      refine wpQuiet_nil ?_
      intro _ hw
      obtain ⟨y, rfl⟩ := hw
      go_wp2
      go_ret
      refine ⟨?_, hB2.trans (y.below.mono hB2.size)⟩
      rw [hOW]
      exact congrArg (fun x => Ending.returned (Value.string x)) ((congrArg (· ++ (⟨Y.toArray⟩ : ByteArray)) (str_app X [58, 58])).trans (str_app (X ++ [58, 58]) Y))

end Go.Proofs.YtopbbljnhnhpaaaDoor

namespace Go.Proofs.YtopbbljnhnhpaaaDoor
open Go Go.RowKit
set_option linter.unusedVariables false
set_option linter.unusedSimpArgs false

def Reader.takes {σ : Type} (R : Reader σ) : List UInt8 → σ → Option σ
  | [], s => some s
  | c :: l, s => (R.take s ((c.toNat : Nat) : Int)).bind (R.takes l)
theorem Reader.takes_app {σ : Type} (R : Reader σ) : ∀ (l m : List UInt8) (s : σ), R.takes (l ++ m) s = (R.takes l s).bind (R.takes m)
  | [], m, s => rfl
  | c :: l, m, s => by
    show (R.take s _).bind (R.takes (l ++ m)) = ((R.take s _).bind (R.takes l)).bind (R.takes m)
    cases R.take s ((c.toNat : Nat) : Int) with
    | none => rfl
    | some s' => exact Reader.takes_app R l m s'
theorem Reader.takes_on {σ : Type} {R : Reader σ} {l m : List UInt8} {s s' s'' : σ} (h : R.takes l s = some s') (g : R.takes m s' = some s'') : R.takes (l ++ m) s = some s'' := by
  rw [Reader.takes_app, h]
  exact g
theorem Reader.read_takes {σ : Type} (R : Reader σ) : ∀ (l : List UInt8) (pos : Nat) (s s' : σ), R.takes l s = some s' → R.whole s' = true → R.read l pos s = .good s'
  | [], pos, s, s', h, hw => by
    cases h
    unfold Reader.read
    rw [if_pos hw]
  | c :: l, pos, s, s', h, hw => by
    unfold Reader.read
    unfold Reader.takes at h
    cases ht : R.take s ((c.toNat : Nat) : Int) with
    | none => rw [ht] at h; cases h
    | some s2 =>
      rw [ht] at h
      exact Reader.read_takes R l (pos + 1) s2 s' h hw

/-! Four bytes. -/
def numT : List UInt8 → Num → Option Num
  | [], n => some n
  | c :: l, n => (n.take ((c.toNat : Nat) : Int) 255).bind (numT l)
def dec3 (a : Nat) : List UInt8 := if a < 10 then [UInt8.ofNat (48 + a)] else if a < 100 then [UInt8.ofNat (48 + a / 10), UInt8.ofNat (48 + a % 10)] else [UInt8.ofNat (48 + a / 10 / 10), UInt8.ofNat (48 + a / 10 % 10), UInt8.ofNat (48 + a % 10)]
theorem itoa_dec3 (a : Int) (h : 0 ≤ a ∧ a < 256) : Lib.itoa a = dec3 a.toNat := by
  obtain ⟨n, rfl⟩ := Int.eq_ofNat_of_zero_le h.1
  rw [Lib.itoa, if_neg (by omega)]
  show Lib.decDigits n = dec3 n
  have hn : n < 256 := by omega
  unfold dec3
  by_cases h1 : n < 10
  · rw [if_pos h1, Lib.decDigits_one h1]
  · rw [if_neg h1]
    by_cases h2 : n < 100
    · rw [if_pos h2, Lib.decDigits_two h1 h2]
    · rw [if_neg h2, Lib.decDigits, dif_neg h1, Lib.decDigits_two (by omega) (by omega)]
      rfl
set_option maxRecDepth 100000 in
theorem dec3_num : ∀ a, a < 256 → numT (dec3 a) Num.new = some ⟨(a : Int), true⟩ := by decide +kernel
set_option maxRecDepth 100000 in
theorem dec3_dig : ∀ a, a < 256 → ∀ c ∈ dec3 a, c ≠ 46 := by decide +kernel
theorem dot_takes : ∀ (l : List UInt8) (d : Dot), (∀ c ∈ l, c ≠ 46) → dotReader.takes l d = (numT l d.num).map (fun n => { d with num := n })
  | [], d, _ => rfl
  | c :: l, d, h => by
    have hc := h c (by simp)
    have h46 : ((c.toNat : Nat) : Int) ≠ 46 := fun e => hc (UInt8.toNat_inj.1 (by show c.toNat = 46; omega))
    show (Dot.take d _).bind _ = _
    rw [Dot.take, if_pos h46, numT]
    cases d.num.take ((c.toNat : Nat) : Int) 255 with
    | none => rfl
    | some n =>
      have := dot_takes l { d with num := n } (fun x hx => h x (by simp [hx]))
      exact this
theorem dot_octet (a : Int) (h : 0 ≤ a ∧ a < 256) (e0 e1 e2 c : Int) : dotReader.takes (Lib.itoa a) ⟨e0, e1, e2, c, .new⟩ = some ⟨e0, e1, e2, c, ⟨a, true⟩⟩ := by
  rw [itoa_dec3 a h, dot_takes _ _ (dec3_dig _ (by omega))]
  show (numT _ Num.new).map _ = _
  rw [dec3_num _ (by omega)]
  have : ((a.toNat : Nat) : Int) = a := by omega
  rw [this]
  rfl
theorem parse_text4 (a0 a1 a2 a3 : Int) (h0 : 0 ≤ a0 ∧ a0 < 256) (h1 : 0 ≤ a1 ∧ a1 < 256) (h2 : 0 ≤ a2 ∧ a2 < 256) (h3 : 0 ≤ a3 ∧ a3 < 256) : parse4 (text4 [a0, a1, a2, a3]) = ([a0, a1, a2, a3], 0, 0) := by
  have e : text4 [a0, a1, a2, a3] = Lib.itoa a0 ++ ([46] ++ (Lib.itoa a1 ++ ([46] ++ (Lib.itoa a2 ++ ([46] ++ Lib.itoa a3))))) := by
    simp [text4, Lib.join_cons, Lib.joinTail]
  have h : dotReader.takes (text4 [a0, a1, a2, a3]) .new = some ⟨a0, a1, a2, 3, ⟨a3, true⟩⟩ := by
    rw [e]
    refine Reader.takes_on (dot_octet a0 h0 0 0 0 0) (Reader.takes_on (s' := ⟨a0, 0, 0, 1, .new⟩) rfl ?_)
    refine Reader.takes_on (dot_octet a1 h1 a0 0 0 1) (Reader.takes_on (s' := ⟨a0, a1, 0, 2, .new⟩) rfl ?_)
    refine Reader.takes_on (dot_octet a2 h2 a0 a1 0 2) (Reader.takes_on (s' := ⟨a0, a1, a2, 3, .new⟩) rfl ?_)
    exact dot_octet a3 h3 a0 a1 a2 3
  unfold parse4
  rw [Reader.read_takes dotReader _ 0 _ _ h rfl]
  rfl

/-! Eight groups. -/
abbrev gS (e : List Int) (p : List UInt8) (v c : Int) (gp : Bool) (ga : Int) : Grp := ⟨e, p, v, c, gp, ga, false, .new⟩
theorem hexd_ok : ∀ n, n < 16 → ((hexd n).toNat : Int) ≠ 58 ∧ ((hexd n).toNat : Int) ≠ 46 ∧ hexv ((hexd n).toNat : Int) = some (n : Int) := by decide
theorem digit_step (n : Nat) (hn : n < 16) (e : List Int) (p : List UInt8) (v c : Int) (gp : Bool) (ga : Int) (hl : (gS e p v c gp ga).lone = false) (hr : (gS e p v c gp ga).room ≠ 0) (hp : p.length ≠ 4) :
    grpReader.take (gS e p v c gp ga) ((hexd n).toNat : Int) = some (gS e (p ++ [hexd n]) (v * 16 % 65536 + n) 0 gp ga) := by
  obtain ⟨h1, h2, h3⟩ := hexd_ok n hn
  have et : grpReader.take = Grp.take := rfl
  rw [et]
  unfold Grp.take
  rw [if_neg (by simp), if_neg h1, if_neg h2]
  unfold Grp.digit
  rw [h3]
  simp only
  rw [if_neg]
  · simp
  · rw [hl]
    simp [hr, hp]
theorem grp_hex (z : Int) (hz : 0 ≤ z ∧ z < 65536) (e : List Int) (c : Int) (gp : Bool) (ga : Int) (hl : (gS e [] 0 c gp ga).lone = false) (hr : (gS e [] 0 c gp ga).room ≠ 0) :
    grpReader.takes (hexText z) (gS e [] 0 c gp ga) = some (gS e (hexText z) z 0 gp ga) := by
  have l0 : ∀ p v, (gS e p v 0 gp ga).lone = false := fun p v => by simp [Grp.lone]
  have r0 : ∀ p v, (gS e p v 0 gp ga).room ≠ 0 := fun p v => hr
  unfold hexText
  by_cases c1 : z < 16
  · rw [if_pos c1]
    simp only [Reader.takes]
    rw [digit_step _ (by omega) e [] 0 c gp ga hl hr (by simp)]
    simp only [Option.bind_some, List.nil_append]
    congr 2
    omega
  · rw [if_neg c1]
    by_cases c2 : z < 256
    · rw [if_pos c2]
      simp only [Reader.takes]
      rw [digit_step _ (by omega) e [] 0 c gp ga hl hr (by simp)]
      simp only [Option.bind_some, List.nil_append]
      rw [digit_step _ (by omega) e _ _ 0 gp ga (l0 _ _) (r0 _ _) (by simp)]
      simp only [Option.bind_some, List.nil_append, List.cons_append]
      congr 2
      omega
    · rw [if_neg c2]
      by_cases c3 : z < 4096
      · rw [if_pos c3]
        simp only [Reader.takes]
        rw [digit_step _ (by omega) e [] 0 c gp ga hl hr (by simp)]
        simp only [Option.bind_some, List.nil_append]
        rw [digit_step _ (by omega) e _ _ 0 gp ga (l0 _ _) (r0 _ _) (by simp)]
        simp only [Option.bind_some, List.nil_append, List.cons_append]
        rw [digit_step _ (by omega) e _ _ 0 gp ga (l0 _ _) (r0 _ _) (by simp)]
        simp only [Option.bind_some, List.nil_append, List.cons_append]
        congr 2
        omega
      · rw [if_neg c3]
        simp only [Reader.takes]
        rw [digit_step _ (by omega) e [] 0 c gp ga hl hr (by simp)]
        simp only [Option.bind_some, List.nil_append]
        rw [digit_step _ (by omega) e _ _ 0 gp ga (l0 _ _) (r0 _ _) (by simp)]
        simp only [Option.bind_some, List.nil_append, List.cons_append]
        rw [digit_step _ (by omega) e _ _ 0 gp ga (l0 _ _) (r0 _ _) (by simp)]
        simp only [Option.bind_some, List.nil_append, List.cons_append]
        rw [digit_step _ (by omega) e _ _ 0 gp ga (l0 _ _) (r0 _ _) (by simp)]
        simp only [Option.bind_some, List.nil_append, List.cons_append]
        congr 2
        omega

/-- Groups as bytes. -/
def byt (l : List Int) : List Int := l.flatMap (fun z => [z / 256, z % 256])
theorem byt_len (l : List Int) : (byt l).length = 2 * l.length := by
  induction l with
  | nil => rfl
  | cons x l ih => simp [byt] at ih ⊢; omega
theorem byt_app (l m : List Int) : byt (l ++ m) = byt l ++ byt m := by simp [byt]
theorem hexText_ne (z : Int) : hexText z ≠ [] := by
  unfold hexText
  split
  · simp
  · split
    · simp
    · split <;> simp

theorem colon_step (e : List Int) (p : List UInt8) (v : Int) (gp : Bool) (ga : Int) (hp : p ≠ []) (hr : 2 < (gS e p v 0 gp ga).room) :
    grpReader.takes [58] (gS e p v 0 gp ga) = some (gS (e ++ [v / 256, v % 256]) [] 0 1 gp ga) := by
  have et : grpReader.takes [58] (gS e p v 0 gp ga) = (Grp.take (gS e p v 0 gp ga) 58).bind some := rfl
  rw [et]
  unfold Grp.take
  rw [if_neg (by simp), if_pos rfl, if_neg hp]
  unfold Grp.colon
  rw [if_neg (by omega)]
  rfl
theorem room_val (e : List Int) (p : List UInt8) (v c : Int) (gp : Bool) (ga : Int) : (gS e p v c gp ga).room = if gp then (14 : Int) - e.length else (16 : Int) - e.length := rfl
theorem jn_cons2 (x y : Int) (l : List Int) : jn (x :: y :: l) = hexText x ++ ([58] ++ jn (y :: l)) := by simp [jn, Lib.join_cons, Lib.joinTail]
theorem grp_jn (gp : Bool) (ga : Int) : ∀ (r : List Int) (x : Int) (e : List Int) (c : Int), (∀ z ∈ x :: r, 0 ≤ z ∧ z < 65536) → (gS e [] 0 c gp ga).lone = false → (e.length : Int) + 2 * (r.length + 1) ≤ (if gp then 14 else 16) →
    ∃ q z, q ≠ [] ∧ grpReader.takes (jn (x :: r)) (gS e [] 0 c gp ga) = some (gS (e ++ byt ((x :: r).dropLast)) q z 0 gp ga) ∧ byt ((x :: r).dropLast) ++ [z / 256, z % 256] = byt (x :: r)
  | [], x, e, c, hz, hl, hr => by
    refine ⟨hexText x, x, hexText_ne x, ?_, rfl⟩
    have e1 : jn [x] = hexText x := by simp [jn, Lib.join_cons, Lib.joinTail]
    rw [e1, grp_hex x (hz x (by simp)) e c gp ga hl (by rw [room_val]; simp at hr; split <;> simp_all <;> omega)]
    simp [byt]
  | y :: r, x, e, c, hz, hl, hr => by
    have hrm : 2 < (gS e (hexText x) x 0 gp ga).room := by
      rw [room_val]
      simp only [List.length_cons] at hr
      cases gp <;> simp at hr ⊢ <;> omega
    obtain ⟨q, z, h1, h2, h3⟩ := grp_jn gp ga r y (e ++ [x / 256, x % 256]) 1 (fun z h => hz z (by simp at h ⊢; exact .inr h)) (by simp [Grp.lone]) (by
      simp only [List.length_cons, List.length_append, List.length_nil] at hr ⊢
      omega)
    refine ⟨q, z, h1, ?_, ?_⟩
    · rw [jn_cons2]
      refine Reader.takes_on (grp_hex x (hz x (by simp)) e c gp ga hl (by
        have : (gS e [] 0 c gp ga).room = (gS e (hexText x) x 0 gp ga).room := rfl
        omega)) (Reader.takes_on (colon_step e (hexText x) x gp ga (hexText_ne x) hrm) ?_)
      rw [h2]
      have : byt ((x :: y :: r).dropLast) = [x / 256, x % 256] ++ byt ((y :: r).dropLast) := rfl
      rw [this, List.append_assoc]
    · have e1 : byt ((x :: y :: r).dropLast) = [x / 256, x % 256] ++ byt ((y :: r).dropLast) := rfl
      have e2 : byt (x :: y :: r) = [x / 256, x % 256] ++ byt (y :: r) := rfl
      rw [e1, e2, List.append_assoc, h3]

set_option maxRecDepth 100000 in
theorem gap_zero : ∀ b0 b1 b2 b3 b4 b5 b6 b7 : Bool, ((gapK [b0, b1, b2, b3, b4, b5, b6, b7] 8).2.1 = 0 ∨ (gapK [b0, b1, b2, b3, b4, b5, b6, b7] 8).1 + 2 ≤ (gapK [b0, b1, b2, b3, b4, b5, b6, b7] 8).2.1) ∧
    (∀ i, i < 8 → (gapK [b0, b1, b2, b3, b4, b5, b6, b7] 8).1 ≤ i → i < (gapK [b0, b1, b2, b3, b4, b5, b6, b7] 8).2.1 → [b0, b1, b2, b3, b4, b5, b6, b7][i]? = some true) := by decide +kernel

theorem colons_two (e : List Int) (c : Int) (h : c = 1 ∨ (c = 0 ∧ e = [])) : ∃ m, grpReader.takes m (gS e [] 0 c false 0) = some (gS e [] 0 2 true e.length) ∧ (c = 1 → m = [58]) ∧ (c = 0 → m = [58, 58]) := by
  rcases h with rfl | ⟨rfl, rfl⟩
  · exact ⟨[58], rfl, fun _ => rfl, fun h => absurd h (by decide)⟩
  · exact ⟨[58, 58], rfl, fun h => absurd h (by decide), fun _ => rfl⟩

theorem parse_own6 (G : List Int) (hG : ∀ x ∈ G, 0 ≤ x ∧ x < 65536) (hl : G.length = 8) : parse6 (own6 G) = (byt G, 0, 0) := by
  have hz : ∃ b0 b1 b2 b3 b4 b5 b6 b7, zb G = [b0, b1, b2, b3, b4, b5, b6, b7] := by
    match G, hl with
    | [g0, g1, g2, g3, g4, g5, g6, g7], _ => exact ⟨_, _, _, _, _, _, _, _, rfl⟩
  obtain ⟨b0, b1, b2, b3, b4, b5, b6, b7, hz⟩ := hz
  obtain ⟨h1, h2⟩ := gap_zero b0 b1 b2 b3 b4 b5 b6 b7
  obtain ⟨i1, i2, _⟩ := gapK_ok (zb G) 8
  rw [← hz] at h1 h2
  unfold own6
  generalize gapK (zb G) 8 = gp at *
  obtain ⟨f, t, s⟩ := gp
  simp only at i1 i2 h1 h2 ⊢
  have key : ∀ (T : List UInt8) (g : Grp), grpReader.takes T .new = some g → g.whole = true → g.addr = byt G → parse6 T = (byt G, 0, 0) := by
    intro T g ht hw ha
    unfold parse6
    rw [Reader.read_takes grpReader _ 0 _ _ ht hw]
    simp only [ha]
  by_cases h0 : t = 0
  · rw [if_pos h0]
    match G, hl, hG with
    | x :: r, hl, hG =>
      simp only [List.length_cons] at hl
      obtain ⟨q, z, hq, ht, hb⟩ := grp_jn false 0 r x [] 0 hG rfl (by simp; omega)
      refine key _ _ ht ?_ ?_
      · have := byt_len ((x :: r).dropLast)
        simp only [List.length_dropLast, List.length_cons] at this
        simp [Grp.whole, hq, Grp.room]
        omega
      · simp [Grp.addr, Grp.given, hq]
        exact hb
  · rw [if_neg h0]
    have hft : f + 2 ≤ t := by omega
    have hmid : (G.drop f).take (t - f) = List.replicate (t - f) 0 := by
      refine List.ext_getElem? fun i => ?_
      by_cases c : i < t - f
      · rw [List.getElem?_take_of_lt c, List.getElem?_drop, List.getElem?_replicate, if_pos c]
        have := h2 (f + i) (by omega) (by omega) (by omega)
        rw [zb, List.getElem?_map] at this
        cases hx : G[f + i]? with
        | none => rw [hx] at this; cases this
        | some x =>
          rw [hx] at this
          simp at this
          rw [this]
      · rw [List.getElem?_eq_none (by simp; omega), List.getElem?_eq_none (by simp; omega)]
    have hsplit : G = G.take f ++ (List.replicate (t - f) 0 ++ G.drop t) := by
      rw [← hmid]
      conv => lhs; rw [← List.take_append_drop f G]
      congr 1
      conv => lhs; rw [← List.take_append_drop (t - f) (G.drop f)]
      rw [List.drop_drop]
      congr 2
      omega
    have hbr : ∀ n, byt (List.replicate n 0) = List.replicate (2 * n) 0 := by
      intro n
      induction n with
      | zero => rfl
      | succ n ih =>
        have : byt (List.replicate (n + 1) 0) = [0, 0] ++ byt (List.replicate n 0) := rfl
        rw [this, ih]
        rw [show 2 * (n + 1) = 2 * n + 1 + 1 by omega]
        rfl
    have hbG : byt G = byt (G.take f) ++ (List.replicate (2 * (t - f)) 0 ++ byt (G.drop t)) := by
      conv => lhs; rw [hsplit]
      rw [byt_app, byt_app, hbr]
    have hlf : (byt (G.take f)).length = 2 * f := by rw [byt_len, List.length_take]; omega
    have hlt : (byt (G.drop t)).length = 2 * (8 - t) := by rw [byt_len, List.length_drop]; omega
    have hfirst : grpReader.takes (jn (G.take f) ++ [58, 58]) .new = some (gS (byt (G.take f)) [] 0 2 true (2 * f : Nat)) := by
      by_cases hf : f = 0
      · subst hf
        have e0 : jn (G.take 0) = [] := by simp [jn, Lib.join_nil]
        rw [e0]
        rfl
      · match hG' : G.take f with
        | [] =>
          have := congrArg List.length hG'
          simp only [List.length_take, List.length_nil] at this
          omega
        | x :: r =>
          have hlen := congrArg List.length hG'
          simp only [List.length_take, List.length_cons] at hlen
          obtain ⟨q, z, hq, ht, hb⟩ := grp_jn false 0 r x [] 0 (fun z h => hG z (List.mem_of_mem_take (by rw [hG']; exact h))) rfl (by simp; omega)
          have hd := byt_len ((x :: r).dropLast)
          simp only [List.length_dropLast, List.length_cons] at hd
          rw [show ([58, 58] : List UInt8) = [58] ++ [58] from rfl]
          refine Reader.takes_on ht (Reader.takes_on (colon_step _ q z false 0 hq (by rw [room_val]; simp; omega)) ?_)
          rw [List.nil_append, hb]
          have hlb : (byt (x :: r)).length = 2 * f := by rw [← hG']; exact hlf
          show some _ = some _
          rw [← hlb]
    by_cases ht8 : t = 8
    · have e0 : jn (G.drop t) = [] := by rw [List.drop_eq_nil_of_le (by omega)]; simp [jn, Lib.join_nil]
      rw [e0, List.append_nil]
      refine key _ _ hfirst rfl ?_
      have e1 : byt (G.drop t) = [] := by rw [List.drop_eq_nil_of_le (by omega)]; rfl
      rw [hbG, e1]
      simp only [Grp.addr, Grp.given, if_true, Bool.false_eq_true, if_false, ne_eq, not_true_eq_false, hlf]
      rw [Int.toNat_natCast, List.take_of_length_le (by omega), List.drop_eq_nil_of_le (by omega), List.append_nil, List.append_nil, show 16 - 2 * f = 2 * (t - f) by omega]
    · match hG' : G.drop t with
      | [] =>
        have := congrArg List.length hG'
        simp at this
        omega
      | x :: r =>
        have hlen := congrArg List.length hG'
        simp only [List.length_drop, List.length_cons] at hlen
        obtain ⟨q, z, hq, ht, hb⟩ := grp_jn true (2 * f : Nat) r x (byt (G.take f)) 2 (fun z h => hG z (List.mem_of_mem_drop (by rw [hG']; exact h))) rfl (by rw [hlf]; simp; omega)
        refine key _ _ (Reader.takes_on hfirst ht) (by simp [Grp.whole, hq]) ?_
        rw [hbG]
        rw [hG'] at hlt
        simp only [Grp.addr, Grp.given, if_true, Bool.false_eq_true, if_false, ne_eq, hq, not_false_eq_true]
        have ea : byt (G.take f) ++ byt ((x :: r).dropLast) ++ [z / 256, z % 256] = byt (G.take f) ++ byt (x :: r) := by rw [List.append_assoc, hb]
        rw [ea, Int.toNat_natCast, List.take_left' hlf, List.drop_left' hlf, List.length_append, hlf, hlt, show 16 - (2 * f + 2 * (8 - t)) = 2 * (t - f) by omega, hG', List.append_assoc]

end Go.Proofs.YtopbbljnhnhpaaaDoor
