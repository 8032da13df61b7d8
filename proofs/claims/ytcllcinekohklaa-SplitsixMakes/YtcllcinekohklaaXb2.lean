/-
  fits, heads, headed of package splitsix.
-/
import Derived.Test.YtcllcinekohklaaXb1
namespace Go.Proofs.Ytcllcinekohklaa
open Go Go.RowKit
set_option linter.unusedVariables false
set_option linter.unusedSimpArgs false

/-- What fits tells first. -/
def fitE (f : F6) (hs : Opts) (g : G6) (nb : Nat) (mtu : Int) : Int := if ckE f hs g nb ≠ 0 then ckE f hs g nb else if 1280 ≤ mtu ∧ mtu ≤ 65535 then 0 else 131
def fitB (hs : Opts) (g : G6) (nb : Nat) (mtu : Int) : Bool := decide ((ahead6 hs g.fr + nb : Nat) ≤ mtu)
def hdG (g : G6) (id : Int) : G6 := if g.fr then g else { g with fr := true, id := id }
theorem fitE_zero {f : F6} {hs : Opts} {g : G6} {nb : Nat} {mtu : Int} (h : fitE f hs g nb mtu = 0) : ckE f hs g nb = 0 ∧ 1280 ≤ mtu ∧ mtu ≤ 65535 := by
  unfold fitE at h
  by_cases c : ckE f hs g nb = 0
  · rw [if_neg (by simp [c])] at h
    by_cases d : 1280 ≤ mtu ∧ mtu ≤ 65535
    · exact ⟨c, d⟩
    · rw [if_neg d] at h; omega
  · rw [if_pos c] at h; exact absurd h c

section
variable {S : Nat → Prop} {w : World} {f : F6} (g : G6) {vh vb : Value} {hs : Opts} {body : List Int} (mtu : Int)
set_option maxHeartbeats 1000000 in
set_option maxRecDepth 100000 in
theorem fits_no (h : D6 S w f vh vb hs body) (hc : fitE f hs g body.length mtu ≠ 0) : Calls Try.prog 31 #[VV f g vh vb, .int .i64 mtu] w fun e w' => e = .panicked [guP (fitE f hs g body.length mtu)] ∧ Below w.heap.size w w' := by
  have hb0 := blk_new w (BV f g vh vb)
  have HLD : Hid _ := vb_load hb0
  have hB0 : Below w.heap.size w (w.alloc (BV f g vh vb)) := (Below.refl w.heap.size w).alloc (Nat.le_refl _) (BV f g vh vb)
  by_cases h0 : ckE f hs g body.length = 0
  · have HC : Hid _ := check_yes g (h.on hB0) h0
    have hr : ¬ (1280 ≤ mtu ∧ mtu ≤ 65535) := fun d => hc (by unfold fitE; rw [if_neg (by simp [h0]), if_pos d])
    have hE : fitE f hs g body.length mtu = 131 := by unfold fitE; rw [if_neg (by simp [h0]), if_neg hr]
    rw [hE]
    clear hb0 h hE hc h0
    generalize hW0 : w.alloc (BV f g vh vb) = W0 at *
    go_enter Try.func31, Try.ntmps31
    go_wp2_with ((with_reducible show wpList _ _ _ _ _ _); refine armL (.tmp 2) 28 rfl rfl rfl HLD.out ?_)
    refine Calls.mono HC.out ?_
    rintro e w2 ⟨rfl, hb2⟩
    have HB : Hid _ := hB0.trans (hb2.mono hB0.size)
    clear hb2 hB0 HC HLD
    by_cases h1 : 1280 ≤ mtu
    · have q1 : decide (1280 ≤ mtu) = true := by simp [h1]
      have q2 : decide (mtu ≤ 65535) = false := by simp; omega
      clear h1 hr
      go_wp2_with fail
      refine Calls.mono (must_bad _ _) ?_
      rintro e w3 ⟨rfl, hw⟩
      obtain rfl := hw.symm
      exact ⟨rfl, rfl, HB.out⟩
    · have q1 : decide (1280 ≤ mtu) = false := by simpa using h1
      clear h1 hr
      go_wp2_with fail
      refine Calls.mono (must_bad _ _) ?_
      rintro e w3 ⟨rfl, hw⟩
      obtain rfl := hw.symm
      exact ⟨rfl, rfl, HB.out⟩
  · have HC : Hid _ := check_no g (h.on hB0) h0
    have hE : fitE f hs g body.length mtu = ckE f hs g body.length := by unfold fitE; rw [if_pos h0]
    rw [hE]
    clear hb0 h hE hc h0
    generalize hW0 : w.alloc (BV f g vh vb) = W0 at *
    go_enter Try.func31, Try.ntmps31
    go_wp2_with ((with_reducible show wpList _ _ _ _ _ _); refine armL (.tmp 2) 28 rfl rfl rfl HLD.out ?_)
    refine Calls.mono HC.out ?_
    rintro e w2 ⟨rfl, hb2⟩
    exact ⟨rfl, rfl, hB0.trans (hb2.mono hB0.size)⟩
set_option maxHeartbeats 1000000 in
set_option maxRecDepth 100000 in
theorem fits_yes (h : D6 S w f vh vb hs body) (hc : fitE f hs g body.length mtu = 0) : Calls Try.prog 31 #[VV f g vh vb, .int .i64 mtu] w fun e w' => e = .returned (.bool (fitB hs g body.length mtu)) ∧ Below w.heap.size w w' := by
  obtain ⟨h0, h1, h2⟩ := fitE_zero hc
  have hb0 := blk_new w (BV f g vh vb)
  have hB0 : Below w.heap.size w (w.alloc (BV f g vh vb)) := (Below.refl w.heap.size w).alloc (Nat.le_refl _) (BV f g vh vb)
  have HLD : Hid _ := vb_load hb0
  have HLA : Hid (∀ W, Below (w.alloc (BV f g vh vb)).heap.size (w.alloc (BV f g vh vb)) W → (Instr.loadAt 28 (.pointer (some ⟨w.heap.size, 0, none⟩))).run Try.prog W = .ok (VV f g vh vb) W) := fun W hW => vb_load (blk_on hb0 hW)
  have HC : Hid _ := check_yes g (h.on hB0) h0
  have HS : Hid (∀ W, Below (w.alloc (BV f g vh vb)).heap.size (w.alloc (BV f g vh vb)) W → Calls Try.prog 50 #[VV f g vh vb] W fun e w' => e = .returned (.tuple #[.int .i64 ((ahead6 hs g.fr + body.length : Nat) : Int), .int .i64 (ahead6 hs g.fr : Int), .int .i64 0]) ∧ Below W.heap.size W w') := fun W hW => by
    have := Size_any g ((h.on hB0).on hW)
    rw [h0] at this
    simpa using this
  have hle := (ck_zero h0).2
  unfold fitB
  clear hb0 h h0 hc
  generalize ahead6 hs g.fr = A at *
  generalize body.length = nb at *
  generalize hN : A + nb = N at *
  have q1 : decide (1280 ≤ mtu) = true := by simp [h1]
  have q2 : decide (mtu ≤ 65535) = true := by simp [h2]
  generalize hW0 : w.alloc (BV f g vh vb) = W0 at *
  clear hN
  go_enter Try.func31, Try.ntmps31
  go_wp2_with ((with_reducible show wpList _ _ _ _ _ _); refine armL (.tmp 2) 28 rfl rfl rfl HLD.out ?_)
  refine Calls.mono HC.out ?_
  rintro e w2 ⟨rfl, hb2⟩
  have HB : Hid _ := hB0.trans (hb2.mono hB0.size)
  have HLD2 : Hid _ := HLA.out w2 hb2
  have HS2 : Hid _ := HS.out w2 hb2
  clear hb2 hB0 HC HLD HLA HS h1 h2
  go_wp2_with fail
  refine Calls.mono (must_good _ _) ?_
  rintro e w3 ⟨rfl, hw⟩
  obtain rfl := hw.symm
  clear hw
  go_wp2_with ((with_reducible show wpList _ _ _ _ _ _); refine armL (.tmp 2) 28 rfl rfl rfl HLD2.out ?_)
  refine Calls.mono HS2.out ?_
  rintro e w4 ⟨rfl, hb4⟩
  have HB4 : Hid _ := HB.out.trans (hb4.mono HB.out.size)
  clear hb4 HB HS2 HLD2
  go_wp2
  go_ret
  exact ⟨rfl, HB4.out⟩
set_option maxHeartbeats 1000000 in
set_option maxRecDepth 100000 in
theorem heads_calls (h : D6 S w f vh vb hs body) (h0 : ckE f hs g body.length = 0) : Calls Try.prog 45 #[VV f g vh vb] w fun e w' => e = .returned (.int .i64 (ahead6 hs true : Int)) ∧ Below w.heap.size w w' := by
  have hb0 := blk_new w (BV f g vh vb)
  have hB0 : Below w.heap.size w (w.alloc (BV f g vh vb)) := (Below.refl w.heap.size w).alloc (Nat.le_refl _) (BV f g vh vb)
  have HLD : Hid _ := vb_load hb0
  have H36 : Hid (∀ W, Below (w.alloc (BV f g vh vb)).heap.size (w.alloc (BV f g vh vb)) W → W.cell? ⟨w.heap.size, 36, none⟩ = some (.bool g.fr)) := fun W hW => vb36 (blk_on hb0 hW)
  have hS := Size_any g (h.on hB0)
  rw [h0] at hS
  simp only [if_true] at hS
  have HS : Hid _ := hS
  have hle := (ck_zero h0).2
  have HA : Hid ((g.fr = true → ahead6 hs true = ahead6 hs g.fr) ∧ (g.fr = false → ahead6 hs true = ahead6 hs g.fr + 8)) :=
    ⟨fun e => by rw [e], fun e => by rw [e]; simp [ahead6]⟩
  generalize ahead6 hs true = N at *
  clear hb0 h h0 hS
  generalize ahead6 hs g.fr = A at *
  generalize body.length = nb at *
  generalize hW0 : w.alloc (BV f g vh vb) = W0 at *
  go_enter Try.func45, Try.ntmps45
  go_wp2_with ((with_reducible show wpList _ _ _ _ _ _); refine armL (.tmp 1) 28 rfl rfl rfl HLD.out ?_)
  refine Calls.mono HS.out ?_
  rintro e w2 ⟨rfl, hb2⟩
  have HB : Hid _ := hB0.trans (hb2.mono hB0.size)
  have k36 := H36.out w2 hb2
  clear hb2 hB0 HLD H36 HS
  cases hfr : g.fr
  · rw [hfr] at k36
    go_wp2
    go_ret
    exact ⟨by rw [HA.out.2 hfr]; simp, HB.out⟩
  · rw [hfr] at k36
    go_wp2
    go_ret
    exact ⟨by rw [HA.out.1 hfr]; rfl, HB.out⟩
set_option maxHeartbeats 1000000 in
set_option maxRecDepth 100000 in
theorem headed_calls (f : F6) (g : G6) (h1 : vh.oneCell' = true) (h2 : vb.oneCell' = true) (id : Int) (w : World) : Calls Try.prog 38 #[VV f g vh vb, .int .u32 id] w fun e w' => e = .returned (VV f (hdG g id) vh vb) ∧ Below w.heap.size w w' := by
  have hb0 := blk_alloc (blk_new w (BV f g vh vb)) (.cells zeroV.toArray 28)
  have hn0 := blk_new (w.alloc (BV f g vh vb)) (.cells zeroV.toArray 28)
  rw [show (w.alloc (BV f g vh vb)).heap.size = w.heap.size + 1 by simp] at hn0
  have hB0 : Below w.heap.size w ((w.alloc (BV f g vh vb)).alloc (.cells zeroV.toArray 28)) := ((Below.refl w.heap.size w).alloc (Nat.le_refl _) _).alloc (by simp) _
  have k36 := vb36 hb0
  generalize hW0 : (w.alloc (BV f g vh vb)).alloc (.cells zeroV.toArray 28) = W0 at *
  unfold zeroV at hW0
  unfold hdG
  cases hfr : g.fr
  · rw [hfr] at k36
    obtain ⟨W1, hs1, hb1, hn1, hB1⟩ : ∃ W1, (Instr.storeAt 4 (.pointer (some ⟨w.heap.size, 36, none⟩)) (.bool true)).run Try.prog W0 = .ok () W1 ∧ W1.heap[w.heap.size]? = some (BV f { g with fr := true } vh vb) ∧ W1.heap[w.heap.size + 1]? = some (.cells zeroV.toArray 28) ∧ Below w.heap.size w W1 :=
      ⟨_, st_bool hb0 (show 36 < _ by rw [vC_len]; omega) true, vs36 hb0 true, blk_set_other hn0 (by omega) _ _, hB0.setCell (p := ⟨w.heap.size, 36, none⟩) (Nat.le_refl _) _⟩
    obtain ⟨W2, hs2, hb2, hn2, hB2⟩ : ∃ W2, (Instr.storeAt 22 (.pointer (some ⟨w.heap.size, 37, none⟩)) (.int .u32 id)).run Try.prog W1 = .ok () W2 ∧ W2.heap[w.heap.size]? = some (BV f { g with fr := true, id := id } vh vb) ∧ W2.heap[w.heap.size + 1]? = some (.cells zeroV.toArray 28) ∧ Below w.heap.size w W2 :=
      ⟨_, st_u32 hb1 (show 37 < _ by rw [vC_len]; omega) id, vs37 hb1 id, blk_set_other hn1 (by omega) _ _, hB1.setCell (p := ⟨w.heap.size, 37, none⟩) (Nat.le_refl _) _⟩
    obtain ⟨W3, hst, hb3, ho3⟩ := box_store Try.sizeOf28 hn2 (by rfl) (vC f { g with fr := true, id := id } vh vb) vC_len (vC_one h1 h2)
    have hB3 : Below w.heap.size w W3 := hB2.trans (ho3.below (by omega))
    have HV : Hid _ := vb_var hb3
    have HS1 : Hid _ := hs1
    have HS2 : Hid _ := hs2
    have HL : Hid _ := vb_load hb2
    have HST : Hid _ := hst
    have HB : Hid _ := hB3
    clear hb0 hn0 hB0 hs1 hb1 hs2 hb2 hn2 hst hb3 ho3 hB3 hn1 hB1 hB2
    go_enter Try.func38, Try.ntmps38
    go_wp2_with first
      | ((with_reducible show wpList _ _ _ _ _ _); refine armS (.tmp 9) (.const (.bool true)) 4 rfl rfl rfl rfl HS1.out ?_)
      | ((with_reducible show wpList _ _ _ _ _ _); refine armS (.tmp 10) (.tmp 8) 22 rfl rfl rfl rfl HS2.out ?_)
      | ((with_reducible show wpList _ _ _ _ _ _); refine armL (.tmp 2) 28 rfl rfl rfl HL.out ?_)
      | ((with_reducible show wpList _ _ _ _ _ _); refine armS (.tmp 4) (.tmp 11) 28 rfl rfl rfl rfl HST.out ?_)
    exact bodyPost_ret (res1t rfl rfl HV.out) rfl ⟨rfl, HB.out⟩
  · rw [hfr] at k36
    obtain ⟨W3, hst, hb3, ho3⟩ := box_store Try.sizeOf28 hn0 (by rfl) (vC f g vh vb) vC_len (vC_one h1 h2)
    have hB3 : Below w.heap.size w W3 := hB0.trans (ho3.below (by omega))
    have HV : Hid _ := vb_var hb3
    have HL : Hid _ := vb_load hb0
    have HST : Hid _ := hst
    have HB : Hid _ := hB3
    clear hb0 hn0 hB0 hst hb3 ho3 hB3
    go_enter Try.func38, Try.ntmps38
    go_wp2_with first
      | ((with_reducible show wpList _ _ _ _ _ _); refine armL (.tmp 2) 28 rfl rfl rfl HL.out ?_)
      | ((with_reducible show wpList _ _ _ _ _ _); refine armS (.tmp 4) (.tmp 11) 28 rfl rfl rfl rfl HST.out ?_)
    exact bodyPost_ret (res1t rfl rfl HV.out) rfl ⟨rfl, HB.out⟩
end

end Go.Proofs.Ytcllcinekohklaa
