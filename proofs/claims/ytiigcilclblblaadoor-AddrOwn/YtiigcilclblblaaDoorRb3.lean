/-
  The document's own text in plain steps, and that it is the program's.
-/
import Derived.Test.YtiigcilclblblaaDoorRb2
import Derived.Test.YtiigcilclblblaaDoorRa4
import Derived.Laws.OwnMore
namespace Go.Proofs.YtiigcilclblblaaDoor
open Go Go.RowKit
set_option linter.unusedVariables false
set_option linter.unusedSimpArgs false

set_option maxHeartbeats 1000000 in
theorem format16 (u : Int) (hu : 0 ≤ u ∧ u < 65536) (w : World) (ht : Tz w) :
    Calls Tryd.prog 81 #[.int .i64 u, .int .i64 16] w fun e w' => e = .returned (strV (hexText u)) ∧ Below w.heap.size w w' := by
  have hb := bits16 u hu w (ht.2 w (Below.refl _ _)) ht.1
  have HB : Hid _ := hb
  clear hb
  generalize hexText u = s at *
  have q : ¬ u < 0 := by omega
  have qw : IntKind.u64.wrap u = u := by unfold IntKind.wrap; simp [IntKind.signed, IntKind.bits]; omega
  go_enter Tryd.func81, Tryd.ntmps81
  go_wp2_with fail
  refine Calls.mono HB.out ?_
  rintro e w' ⟨rfl, hB⟩
  go_wp2
  go_ret
  exact ⟨rfl, hB⟩
theorem formatInt16 (u : Int) (hu : 0 ≤ u ∧ u < 65536) (w : World) (ht : Tz w) :
    Calls Tryd.prog 63 #[.int .i64 u, .int .i64 16] w fun e w' => e = .returned (strV (hexText u)) ∧ Below w.heap.size w w' := by
  have hb := format16 u hu w ht
  have HB : Hid _ := hb
  clear hb
  generalize hexText u = s at *
  go_enter Tryd.func63, Tryd.ntmps63
  go_wp2_with fail
  refine Calls.mono HB.out ?_
  rintro e w' ⟨rfl, hB⟩
  go_wp2
  go_ret
  exact ⟨rfl, hB⟩

def zerB : List Bool → Nat
  | [] => 0
  | x :: l => if x then zerB l + 1 else 0
def zerC (l : List Int) : Nat := zerB (zb l)
theorem zerC_cons (x : Int) (l : List Int) : zerC (x :: l) = if x = 0 then zerC l + 1 else 0 := by
  show zerB ((x == 0) :: zb l) = _
  by_cases h : x = 0
  · rw [if_pos h, beq_iff_eq.2 h]; rfl
  · rw [if_neg h, beq_eq_false_iff_ne.2 h]; rfl
theorem zerB_le : ∀ l : List Bool, zerB l ≤ l.length
  | [] => Nat.le_refl _
  | x :: l => by
    have := zerB_le l
    rw [zerB]
    split <;> simp <;> omega

set_option maxHeartbeats 1000000 in
theorem zeros_ref (g cap : Nat) (G : List Int) (fr : Nat) (w : World) (hl : G.length ≤ 100) (hf : fr ≤ G.length) (hg : ∀ z ∈ G, 0 ≤ z ∧ z < 65536) (hc : ∀ (j : Nat) z, G[j]? = some z → w.cell? ⟨g, j, none⟩ = some (.int .i64 z)) :
    Calls Tryd.prog 62 #[.slice (some ⟨g, 0, none⟩) G.length cap, .int .i64 fr] w fun e w' => e = .returned (.int .i64 (zerC (G.drop fr) : Nat)) ∧ w' = w := by
  generalize hR : zerC (G.drop fr) = R
  have HR : Hid _ := hR
  clear hR
  have HC : Hid _ := hc
  clear hc
  go_enter Tryd.func62, Tryd.ntmps62
  go_wp2
  go_loop [5] (fun i => ∃ k : Nat, fr + k ≤ G.length ∧ i = .int .i64 k ∧ R = k + zerC (G.drop (fr + k))) (fun i => G.length - (intOf i).toNat)
  case atStart => exact ⟨0, by omega, rfl, by rw [← HR.out]; simp⟩
  case round =>
    obtain ⟨k, hk, rfl, hrk⟩ := hrel
    have HK : Hid _ := hrk
    clear hrk HR
    by_cases hlt : fr + k < G.length
    · have hx : G[fr + k]? = some (G[fr + k]'hlt) := by simp
      have hck := HC.out (fr + k) _ hx
      have hd := drop_at hx
      have hz := hg _ (List.mem_of_getElem? hx)
      have q0 : (fr : Int) + k < (G.length : Int) := by omega
      have qi : ((fr : Int) + (k : Int)).toNat = fr + k := by omega
      by_cases h0 : (G[fr + k]'hlt) = 0
      · have he : R = (k + 1) + zerC (G.drop (fr + (k + 1))) := by
          rw [HK.out, hd, zerC_cons, if_pos h0, ← Nat.add_assoc fr k 1]
          omega
        have HE : Hid _ := he
        clear he
        rw [h0] at hck
        clear hd hx hz
        go_wp2
        exact ⟨⟨k + 1, by omega, by simp, HE.out⟩, by simp [intOf]; omega⟩
      · have he : R = k := by
          rw [HK.out, hd, zerC_cons, if_neg h0]
          omega
        have HE : Hid _ := he
        clear he
        have q1 : ((G[fr + k]'hlt) == 0) = false := by simpa using h0
        clear hd hx
        generalize (G[fr + k]'hlt) = z at *
        go_wp2
        go_ret
        exact ⟨by rw [HE.out]; rfl, rfl⟩
    · have HE : Hid (R = k) := by
        rw [HK.out, List.drop_eq_nil_of_le (by omega)]
        rfl
      have q0 : ¬ ((fr : Int) + k < (G.length : Int)) := by omega
      clear HK
      go_wp2
      go_ret
      exact ⟨by rw [HE.out]; rfl, rfl⟩

/-- Where the document's longest row of zeros begins, and how long it is, k groups on. -/
def bestK (z : List Bool) : Nat → Int × Nat
  | 0 => (-1, 1)
  | k + 1 => if (bestK z k).2 < zerB (z.drop k) then ((k : Int), zerB (z.drop k)) else bestK z k
theorem bestK_ok (z : List Bool) (hz : z.length = 8) : ∀ k, k ≤ 8 → -1 ≤ (bestK z k).1 ∧ (bestK z k).1 ≤ 8 ∧ 1 ≤ (bestK z k).2 ∧ (bestK z k).2 ≤ 8
  | 0, _ => by simp [bestK]
  | k + 1, h => by
    have ih := bestK_ok z hz k (by omega)
    rw [bestK]
    split
    · have := zerB_le (z.drop k)
      simp at this ⊢
      omega
    · exact ih
/-- What stands ahead of the next group. -/
def sep (s : List UInt8) : List UInt8 := if s = [] then s else if s.getLast? = some 58 then s else s ++ [58]
/-- The document's third loop. -/
def docR (G : List Int) (a : Int) (m : Nat) : Nat → Nat → List UInt8 → List UInt8
  | 0, _, s => s
  | n + 1, k, s => if 8 ≤ k then s else if (k : Int) = a then docR G a m n (k + m) (s ++ [58, 58]) else docR G a m n (k + 1) (sep s ++ hexText (G[k]?.getD 0))

theorem hexText_some (z : Int) : hexText z ≠ [] ∧ (0 ≤ z → z < 65536 → (hexText z).getLast? ≠ some 58) := by
  have hd : ∀ n : Nat, n < 16 → hexd n ≠ 58 := by decide
  unfold hexText
  refine ⟨?_, fun h0 h1 => ?_⟩
  · split
    · simp
    · split
      · simp
      · split <;> simp
  · split
    · simpa using hd _ (by omega)
    · split
      · simpa using hd _ (by omega)
      · split <;> simpa using hd _ (by omega)

theorem joinTail_snoc (r : List (List UInt8)) (x : List UInt8) : Lib.joinTail [58] (r ++ [x]) = Lib.joinTail [58] r ++ [58] ++ x := by
  induction r with
  | nil => simp [Lib.joinTail]
  | cons y r ih => simp [Lib.joinTail] at ih ⊢
theorem jn_snoc (l : List Int) (x : Int) : jn (l ++ [x]) = (if l = [] then [] else jn l ++ [58]) ++ hexText x := by
  unfold jn
  cases l with
  | nil => simp [Lib.join_cons, Lib.joinTail]
  | cons y r =>
    rw [if_neg (by simp), List.cons_append, List.map_cons, List.map_cons, List.map_append, Lib.join_cons, Lib.join_cons]
    have := joinTail_snoc (r.map hexText) (hexText x)
    simp only [List.map_cons, List.map_nil] at this ⊢
    rw [this]
    simp
theorem jn_last (l : List Int) (hl : l ≠ []) (h : ∀ z ∈ l, 0 ≤ z ∧ z < 65536) : jn l ≠ [] ∧ (jn l).getLast? ≠ some 58 := by
  obtain ⟨r, x, rfl⟩ : ∃ r x, l = r ++ [x] := ⟨l.dropLast, l.getLast hl, (List.dropLast_concat_getLast hl).symm⟩
  have hx := h x (by simp)
  obtain ⟨h1, h2⟩ := hexText_some x
  have h2 := h2 hx.1 hx.2
  rw [jn_snoc]
  generalize (if r = [] then [] else jn r ++ [58]) = P
  refine ⟨by simp [h1], ?_⟩
  rw [List.getLast?_append]
  cases hh : (hexText x).getLast? with
  | none => simp at hh; exact absurd hh h1
  | some c => rw [hh] at h2; simpa using h2
theorem sep_on (P : List UInt8) (hP : P = [] ∨ P.getLast? = some 58) (l : List Int) (h : ∀ z ∈ l, 0 ≤ z ∧ z < 65536) (x : Int) : sep (P ++ jn l) ++ hexText x = P ++ jn (l ++ [x]) := by
  rw [jn_snoc]
  by_cases hl : l = []
  · subst hl
    have e : jn [] = [] := by simp [jn, Lib.join_nil]
    rw [e, if_pos rfl]
    unfold sep
    rcases hP with rfl | hP
    · simp
    · simp [hP]
  · obtain ⟨h1, h2⟩ := jn_last l hl h
    rw [if_neg hl]
    unfold sep
    rw [if_neg (by simp [h1]), if_neg]
    · simp
    · rw [List.getLast?_append]
      cases hh : (jn l).getLast? with
      | none => simp at hh; exact absurd hh h1
      | some c => rw [hh] at h2; simpa using h2
theorem docR_on (G : List Int) (hG : ∀ x ∈ G, 0 ≤ x ∧ x < 65536) (hl : G.length = 8) (a : Int) (m : Nat) (P : List UInt8) (hP : P = [] ∨ P.getLast? = some 58) (r : Nat) : ∀ (d k : Nat) (l : List Int), (∀ z ∈ l, 0 ≤ z ∧ z < 65536) → k + d ≤ 8 → (∀ j : Nat, k ≤ j → j < k + d → (j : Int) ≠ a) →
    docR G a m (d + r) k (P ++ jn l) = docR G a m r (k + d) (P ++ jn (l ++ (G.drop k).take d))
  | 0, k, l, _, _, _ => by simp
  | d + 1, k, l, hz, hk, ha => by
    have hx : G[k]? = some (G[k]'(by omega)) := by simp
    have hb := hG _ (List.mem_of_getElem? hx)
    have e : d + 1 + r = (d + r) + 1 := by omega
    rw [e, docR, if_neg (by omega), if_neg (ha k (by omega) (by omega)), hx]
    have ed : (G.drop k).take (d + 1) = G[k]'(by omega) :: (G.drop (k + 1)).take d := by rw [drop_at hx]; rfl
    rw [ed]
    generalize G[k]'(by omega) = x at *
    rw [Option.getD_some, sep_on P hP l hz x, docR_on G hG hl a m P hP r d (k + 1) (l ++ [x]) (fun z h => by
      rcases List.mem_append.1 h with h | h
      · exact hz z h
      · simp at h; subst h; exact hb) (by omega) (fun j h1 h2 => ha j (by omega) (by omega))]
    have e1 : k + 1 + d = k + (d + 1) := by omega
    rw [e1]
    simp
theorem docR_end (G : List Int) (a : Int) (m : Nat) (s : List UInt8) : ∀ n k, 8 ≤ k → docR G a m n k s = s
  | 0, _, _ => rfl
  | n + 1, k, h => by rw [docR, if_pos h]

set_option maxRecDepth 100000 in
theorem best_gap : ∀ b0 b1 b2 b3 b4 b5 b6 b7 : Bool, (bestK [b0, b1, b2, b3, b4, b5, b6, b7] 8 = if (gapK [b0, b1, b2, b3, b4, b5, b6, b7] 8).2.1 = 0 then (-1, 1) else (((gapK [b0, b1, b2, b3, b4, b5, b6, b7] 8).1 : Int), (gapK [b0, b1, b2, b3, b4, b5, b6, b7] 8).2.1 - (gapK [b0, b1, b2, b3, b4, b5, b6, b7] 8).1)) ∧
    ((gapK [b0, b1, b2, b3, b4, b5, b6, b7] 8).2.1 = 0 ∨ (gapK [b0, b1, b2, b3, b4, b5, b6, b7] 8).1 < (gapK [b0, b1, b2, b3, b4, b5, b6, b7] 8).2.1) := by decide +kernel

theorem own_doc (G : List Int) (hG : ∀ x ∈ G, 0 ≤ x ∧ x < 65536) (hl : G.length = 8) : docR G (bestK (zb G) 8).1 (bestK (zb G) 8).2 8 0 [] = own6 G := by
  have hz : ∃ b0 b1 b2 b3 b4 b5 b6 b7, zb G = [b0, b1, b2, b3, b4, b5, b6, b7] := by
    match G, hl with
    | [g0, g1, g2, g3, g4, g5, g6, g7], _ => exact ⟨_, _, _, _, _, _, _, _, rfl⟩
  obtain ⟨b0, b1, b2, b3, b4, b5, b6, b7, hz⟩ := hz
  obtain ⟨h1, h2⟩ := best_gap b0 b1 b2 b3 b4 b5 b6 b7
  obtain ⟨i1, i2, _⟩ := gapK_ok (zb G) 8
  rw [← hz] at h1 h2
  unfold own6
  rw [h1]
  generalize gapK (zb G) 8 = gp at *
  obtain ⟨f, t, s⟩ := gp
  simp only at i1 i2 h2 ⊢
  have e0 : jn [] = [] := by simp [jn, Lib.join_nil]
  by_cases h0 : t = 0
  · rw [if_pos h0, if_pos h0]
    have h := docR_on G hG hl (-1) 1 [] (.inl rfl) 0 8 0 [] (by simp) (by omega) (fun j _ _ => by omega)
    simp only [List.nil_append, e0] at h
    rw [List.drop_zero, List.take_of_length_le (by omega)] at h
    exact h
  · rw [if_neg h0, if_neg h0]
    have hft : f < t := by omega
    have h := docR_on G hG hl f (t - f) [] (.inl rfl) (8 - f) f 0 [] (by simp) (by omega) (fun j _ _ => by omega)
    simp only [List.nil_append, e0] at h
    rw [List.drop_zero, Nat.zero_add, show f + (8 - f) = 8 by omega] at h
    simp only
    rw [h, show 8 - f = ((8 - t) + (t - f - 1)) + 1 by omega, docR, if_neg (by omega), if_pos rfl, show f + (t - f) = t by omega]
    have h2 := docR_on G hG hl f (t - f) (jn (G.take f) ++ [58, 58]) (.inr (by simp)) (t - f - 1) (8 - t) t [] (by simp) (by omega) (fun j _ _ => by omega)
    simp only [List.nil_append, e0, List.append_nil] at h2
    rw [h2, docR_end _ _ _ _ _ _ (by omega), List.take_of_length_le (l := G.drop t) (by rw [List.length_drop]; omega)]

end Go.Proofs.YtiigcilclblblaaDoor
