/-
  The document's right of IPv6.
-/
import Derived.Test.YtbaeogoojpngbaaXa4
namespace Go.Proofs.Ytbaeogoojpngbaa
open Go Go.RowKit
set_option linter.unusedVariables false
set_option linter.unusedSimpArgs false

def IsB (P : Prop) (e : Ending) : Prop := ∃ b, e = .returned (.bool b) ∧ (b = true ↔ P)
theorem IsB.no {P : Prop} (h : ¬ P) : IsB P (.returned (.bool false)) := ⟨_, rfl, by simpa using h⟩
section
variable {c : List Value} {cls lab hop : Int} {vh : Value} {fr : Bool} {id off : Int} {more : Bool} {proto : Int} {vb : Value}
set_option maxHeartbeats 1000000 in
set_option maxRecDepth 100000 in
theorem right_calls (w : World) (h : L6 c cls lab hop vh fr id off more proto vb) (hs : Opts) (hh : OptsAt w.heap.size w vh hs) :
    Calls Try.prog 29 #[.agg c.toArray] w fun e w' => IsB (ok6 lab hs fr id off more proto) e ∧ Below w.heap.size w w' := by
  have hb0 := blk_new w (.cells c.toArray 28)
  have hB0 := (Below.refl w.heap.size w).alloc (Nat.le_refl _) (.cells c.toArray 28)
  have k1 := blk_cell hb0 h.c1
  have k35 := blk_cell hb0 h.c35
  have H35 : Hid _ := k35
  have H36 : Hid _ := blk_cell hb0 h.c36
  have H37 : Hid _ := blk_cell hb0 h.c37
  have H38 : Hid _ := blk_cell hb0 h.c38
  have H39 : Hid _ := blk_cell hb0 h.c39
  have H40 : Hid _ := blk_cell hb0 h.c40
  have hlt0 : w.heap.size < (w.alloc (.cells c.toArray 28)).heap.size := by simp
  obtain ⟨hfit, hlen, a, cap, rfl, hz⟩ := hh
  have HEQ : Hid (1048575 < lab ∨ ¬ headsB hs → ¬ ok6 lab hs fr id off more proto) := fun h c => h.elim (fun h => by have := c.1; omega) (fun h => h c.2.1)
  have HYE : Hid (¬ 1048575 < lab → headsB hs → (endB fr id off more proto = true ↔ ok6 lab hs fr id off more proto)) := fun a b => ⟨fun h => ⟨by omega, b, h⟩, fun h => h.2.2⟩
  clear hb0 h
  generalize ok6 lab hs fr id off more proto = OK at *
  generalize hW : w.alloc (.cells c.toArray 28) = W0 at *
  go_enter Try.func29, Try.ntmps29
  by_cases hl : 1048575 < lab
  · have q : decide ((1048576 : Int) ≤ lab) = true := by simp; omega
    have HN := HEQ.out (.inl hl)
    have HH : Hid _ := HN
    clear HN hz
    go_wp2
    go_ret
    exact ⟨IsB.no HH.out, hB0⟩
  have q : decide ((1048576 : Int) ≤ lab) = false := by simp; omega
  by_cases h8 : 8 < hs.length
  · have q8 : decide ((8 : Int) < (hs.length : Int)) = true := by simp; omega
    have HN := HEQ.out (.inr (fun c => by have := c.1; omega))
    have HH : Hid _ := HN
    clear HN hz
    go_wp2
    go_ret
    exact ⟨IsB.no HH.out, hB0⟩
  have q8 : decide ((8 : Int) < (hs.length : Int)) = false := by simp; omega
  go_wp2
  clear k1 k35
  go_loopw [3] (fun i wr => ∃ k : Nat, k ≤ hs.length ∧ i = .int .i64 k ∧ allH hs k ∧ Below W0.heap.size W0 wr) (fun i _ => hs.length - (intOf i).toNat)
  case atStart => exact ⟨0, Nat.zero_le _, rfl, fun j hj => absurd hj (by omega), Below.refl _ _⟩
  case round =>
    obtain ⟨k, hk, rfl, hall, hB⟩ := hrel
    have k35 := (hB.cell (p := ⟨w.heap.size, 35, none⟩) hlt0).trans H35.out
    by_cases hlt : k < hs.length
    · have hz' := hz
      rcases hz' with hz' | ⟨b, o0, rfl, hbn, hc⟩
      · omega
      obtain ⟨c0, s, c1, hs'⟩ := hc k hlt
      obtain ⟨_, hdl, sa, sc, rfl, _⟩ := hs'
      have hBw := hB0.trans (hB.mono hB0.size)
      have x0 := (hBw.cell (p := ⟨b, o0 + k * 2, none⟩) hbn).trans c0
      have x1 := (hBw.cell (p := ⟨b, o0 + k * 2 + 1, none⟩) hbn).trans c1
      have hno : headOk hs k = false → ¬ OK := fun hf => HEQ.out (.inr fun c => by have := c.2 k hlt; rw [hf] at this; cases this)
      have hgo : headOk hs k = true → allH hs (k + 1) := fun hg => allH_succ hall hg
      have hok : headOk hs k = (kindB (oK hs k) k && decide ((2 + (oD hs k).length) % 8 = 0) && decide ((oD hs k).length ≤ 2046)) := rfl
      have HNO : Hid _ := hno
      have HGO : Hid _ := hgo
      have HOK : Hid _ := hok
      have HA : Hid _ := hB.alloc hB.size (.cells #[.int .u8 (oK hs k), .slice sa (oD hs k).length sc] 52)
      have HAw : Hid _ := hBw.alloc hBw.size (.cells #[.int .u8 (oK hs k), .slice sa (oD hs k).length sc] 52)
      have HKB : Hid (∀ W, Calls Try.prog 43 #[.int .u8 (oK hs k)] W fun e w' => e = .returned (.bool (isH (oK hs k))) ∧ w' = W) := fun W => extra_calls _ W
      have n0 : (wr.alloc (.cells #[.int .u8 (oK hs k), .slice sa (oD hs k).length sc] 52)).cell? ⟨wr.heap.size, 0, none⟩ = some (.int .u8 (oK hs k)) := by rw [World.cell?_alloc_new]; rfl
      have n1 : (wr.alloc (.cells #[.int .u8 (oK hs k), .slice sa (oD hs k).length sc] 52)).cell? ⟨wr.heap.size, 1, none⟩ = some (.slice sa (oD hs k).length sc) := by rw [World.cell?_alloc_new]; rfl
      clear hno hgo hok hc hz c0 c1 hB hall hBw
      generalize headOk hs k = ok at *
      unfold kindB at HOK
      generalize isH (oK hs k) = kb at *
      generalize oK hs k = K at *
      generalize (oD hs k).length = D at *
      go_wp2_with fail
      refine Calls.mono (HKB.out _) ?_
      rintro _ w2 ⟨rfl, hw2⟩
      obtain rfl := hw2.symm
      clear hw2
      cases kb
      · have HN : Hid _ := HNO.out (by rw [HOK.out]; rfl)
        go_wp2
        go_ret
        exact ⟨IsB.no HN.out, HAw.out⟩
      · have hkd : (K = 0 ∧ 0 < k) ∨ ¬ (K = 0 ∧ 0 < k) := Classical.em _
        rcases hkd with ⟨rfl, hk0⟩ | hkd
        · have q1 : decide ((0 : Int) < (k : Int)) = true := by simp; omega
          have HN : Hid _ := HNO.out (by rw [HOK.out]; have : decide (k = 0) = false := (by simp; omega); rw [this]; rfl)
          go_wp2
          go_ret
          exact ⟨IsB.no HN.out, HAw.out⟩
        · by_cases hK : K = 0
          · subst hK
            have hk0 : ¬ 0 < k := fun h => hkd ⟨rfl, h⟩
            have qk : (((0 : Int) != 0) || decide (k = 0)) = true := by
              have : k = 0 := by omega
              simp [this]
            have q0 : decide (0 < k) = false := by simp; omega
            clear hkd hk0
            have HOK2 : Hid (ok = (decide ((2 + D) % 8 = 0) && decide (D ≤ 2046))) := by rw [HOK.out, qk]; rfl
            clear HOK qk
            by_cases h1 : (2 + D) % 8 = 0
            · have q1 : ((D : Int) % 8 != 6) = false := by simp; omega
              by_cases h2 : D ≤ 2046
              · have q2 : decide ((2046 : Int) < (D : Int)) = false := by simp; omega
                have HG : Hid (allH hs (k + 1)) := HGO.out (by rw [HOK2.out]; simp [h1, h2])
                clear h1 h2
                go_wp2
                exact ⟨⟨k + 1, by omega, by simp, HG.out, HA.out⟩, by simp [intOf]; omega⟩
              · have q2 : decide ((2046 : Int) < (D : Int)) = true := by simp; omega
                have HN : Hid _ := HNO.out (by rw [HOK2.out]; simp [h2])
                clear h1 h2
                go_wp2
                go_ret
                exact ⟨IsB.no HN.out, HAw.out⟩
            · have q1 : ((D : Int) % 8 != 6) = true := by simp; omega
              have HN : Hid _ := HNO.out (by rw [HOK2.out]; simp [h1])
              clear h1
              go_wp2
              go_ret
              exact ⟨IsB.no HN.out, HAw.out⟩
          · have qk : ((K != 0) || decide (k = 0)) = true := by simp [hK]
            have q0 : (K == 0) = false := by simp [hK]
            clear hkd
            have HOK2 : Hid (ok = (decide ((2 + D) % 8 = 0) && decide (D ≤ 2046))) := by rw [HOK.out, qk]; rfl
            clear HOK qk
            by_cases h1 : (2 + D) % 8 = 0
            · have q1 : ((D : Int) % 8 != 6) = false := by simp; omega
              by_cases h2 : D ≤ 2046
              · have q2 : decide ((2046 : Int) < (D : Int)) = false := by simp; omega
                have HG : Hid (allH hs (k + 1)) := HGO.out (by rw [HOK2.out]; simp [h1, h2])
                clear h1 h2
                go_wp2
                exact ⟨⟨k + 1, by omega, by simp, HG.out, HA.out⟩, by simp [intOf]; omega⟩
              · have q2 : decide ((2046 : Int) < (D : Int)) = true := by simp; omega
                have HN : Hid _ := HNO.out (by rw [HOK2.out]; simp [h2])
                clear h1 h2
                go_wp2
                go_ret
                exact ⟨IsB.no HN.out, HAw.out⟩
            · have q1 : ((D : Int) % 8 != 6) = true := by simp; omega
              have HN : Hid _ := HNO.out (by rw [HOK2.out]; simp [h1])
              clear h1
              go_wp2
              go_ret
              exact ⟨IsB.no HN.out, HAw.out⟩
    · obtain rfl : k = hs.length := by omega
      have k36 := (hB.cell (p := ⟨w.heap.size, 36, none⟩) hlt0).trans H36.out
      have k37 := (hB.cell (p := ⟨w.heap.size, 37, none⟩) hlt0).trans H37.out
      have k38 := (hB.cell (p := ⟨w.heap.size, 38, none⟩) hlt0).trans H38.out
      have k39 := (hB.cell (p := ⟨w.heap.size, 39, none⟩) hlt0).trans H39.out
      have k40 := (hB.cell (p := ⟨w.heap.size, 40, none⟩) hlt0).trans H40.out
      have HYS : Hid _ := HYE.out hl ⟨by omega, hall⟩
      have HB : Hid (Below w.heap.size w wr) := hB0.trans (hB.mono hB0.size)
      have HE : Hid _ := extra_calls proto wr
      clear hz hB hall
      cases fr
      all_goals
        go_wp2
        all_goals
          go_ret
          refine ⟨⟨_, rfl, ?_⟩, HB.out⟩
          rw [← HYS.out]
          simp_all [endB, isH]
          all_goals (intros; omega)
end

end Go.Proofs.Ytbaeogoojpngbaa
