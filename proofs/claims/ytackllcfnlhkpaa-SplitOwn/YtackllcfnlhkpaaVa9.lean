/-
  refused of the program, its loop.
-/
import Derived.Test.YtackllcfnlhkpaaVa8
namespace Go.Proofs.Ytackllcfnlhkpaa
open Go Go.RowKit Go.Shelf
set_option linter.unusedVariables false
set_option linter.unusedSimpArgs false
attribute [local go_sem] Oper.semAt_some

theorem enters_frags : ∀ args w, (callFunc 29 args).run Try.prog w = .ok (.enter 29 args) w := enters_of Try.func29 (by kernel_rfl) rfl

/-- The iterator, where a datagram may be split: its blocks may be all but those of O. -/
theorem frags_gives {f : Fd} {mf : Bool} {off : Int} {so sb : Value} {opts body : List Int} {mtu : Int} {w w2 w3 : World} (O : Nat → Prop) (h1 : RowC w so opts) (h2 : RowC w sb body) (hw : wrongE off opts.length body.length mtu = 0) (hB : Below w.heap.size w w2) (hO : ∀ b, O b → w.heap.size ≤ b ∧ b < w2.heap.size)
    (hv : w3.heap[w2.heap.size]? = some (BV f mf off so sb)) (hm : w3.heap[w2.heap.size + 1]? = some (.cells #[.int .i64 mtu] 3)) (hB3 : Below w2.heap.size w2 w3) (hs3 : w3.heap.size = w2.heap.size + 2) :
    GivesO Try.prog 29 #[.pointer (some ⟨w2.heap.size, 0, none⟩), .pointer (some ⟨w2.heap.size + 1, 0, none⟩)] (fragL mf off opts body mtu).length (FragX f (fragL mf off opts body mtu)) (fun b => b < w3.heap.size ∧ ¬ O b) w3 := by
  obtain ⟨hc, hm1, hm2⟩ := wrong_ok hw
  have hk := chk_ok hc
  obtain ⟨m, rfl⟩ : ∃ m : Nat, mtu = m := ⟨mtu.toNat, by omega⟩
  have hB03 : Below w.heap.size w w3 := hB.trans (hB3.mono hB.size)
  have hsz := hB.size
  unfold fragL
  rw [Int.toNat_natCast]
  exact frags1_gives f mf off so sb opts body m w2.heap.size (w2.heap.size + 1) _ w3 hv hm (fun c hc => hc.1) ⟨by omega, fun ho => by have := (hO _ ho).2; omega⟩ ⟨by omega, fun ho => by have := (hO _ ho).2; omega⟩
    (((BS.of_row h1).on hB03).mono fun c hc h => ⟨hc, fun ho => by have := (hO _ ho).1; omega⟩) (((BS.of_row h2).on hB03).mono fun c hc h => ⟨hc, fun ho => by have := (hO _ ho).1; omega⟩) (by omega) (by omega) hk.2.2.1 hk.1 (by omega)

section
variable (f : Fd) (mf : Bool) (off : Int) (so sb : Value) (opts body : List Int) (mtu : Int) (w : World)
set_option maxHeartbeats 4000000 in
set_option maxRecDepth 100000 in
theorem refused_loop (h1 : RowC w so opts) (h2 : RowC w sb body) (hoff : -9223372036854775808 ≤ off ∧ off ≤ 9223372036854775807) (hmt : -9223372036854775808 ≤ mtu ∧ mtu ≤ 9223372036854775807)
    (hw : wrongE off opts.length body.length mtu = 0) (hf : fitB opts.length body.length mtu = false) (hd : f.df = false) (hm8 : mf = false ∨ body.length % 8 = 0) :
    Calls Try.prog 21 #[VV f mf off so sb, .int .i64 mtu] w fun e w' => e = .returned (.int .i64 (if farB (fragL mf off opts body mtu) then 5 else 0)) ∧ Below w.heap.size w w' := by
  have HFT : Hid (∀ W, Below w.heap.size w W → Calls Try.prog 13 #[VV f mf off so sb, .int .i64 mtu] W fun e w' => e = .returned (.tuple #[.bool false, .int .i64 0]) ∧ Below W.heap.size W w') := fun W hW => by
    have := Fits_calls f mf off so sb opts body mtu W (h1.on hW) (h2.on hW) hoff hmt
    rw [hw, hf] at this
    exact this
  have HFR : Hid (∀ W, Calls Try.prog 22 #[VV f mf off so sb, .int .i64 mtu] W fun e w' => e = .returned (.func (.func 29) #[] #[.pointer (some ⟨W.heap.size, 0, none⟩), .pointer (some ⟨W.heap.size + 1, 0, none⟩)]) ∧ w'.heap[W.heap.size]? = some (BV f mf off so sb) ∧ w'.heap[W.heap.size + 1]? = some (.cells #[.int .i64 mtu] 3) ∧ Below W.heap.size W w' ∧ w'.heap.size = W.heap.size + 2) := fun W => fragments_calls f mf off so sb mtu W
  obtain ⟨hb0, hr0, hB0, hs0⟩ := blk_two w (BV f mf off so sb) (.cells [.int .i64 0].toArray 30)
  have HLD : Hid _ := vb_load hb0
  have HB0 : Hid _ := hb0
  have HR0 : Hid _ := hr0
  have HBB : Hid (Below w.heap.size w ((w.alloc (BV f mf off so sb)).alloc (.cells [.int .i64 0].toArray 30))) := hB0
  obtain ⟨a2, c2, hsb⟩ : ∃ a c, sb = .slice a body.length c := by obtain ⟨_, _, a, cap, e, _⟩ := h2; exact ⟨_, _, e⟩
  have HSB : Hid _ := hsb
  have hl2 := h2.len
  have hq8 : mf = false ∨ (((body.length : Nat) : Int) % 8 != 0) = false := hm8.imp id fun h => by
    have : ((body.length : Nat) : Int) % 8 = 0 := by omega
    simp [this]
  have HG : Hid (∀ w2 w3, Below w.heap.size w w2 → w.heap.size + 2 ≤ w2.heap.size → w3.heap[w2.heap.size]? = some (BV f mf off so sb) → w3.heap[w2.heap.size + 1]? = some (.cells #[.int .i64 mtu] 3) → Below w2.heap.size w2 w3 → w3.heap.size = w2.heap.size + 2 →
      GivesO Try.prog 29 #[.pointer (some ⟨w2.heap.size, 0, none⟩), .pointer (some ⟨w2.heap.size + 1, 0, none⟩)] (fragL mf off opts body mtu).length (FragX f (fragL mf off opts body mtu)) (fun b => b < w3.heap.size ∧ ¬ b = w.heap.size + 1) w3) := fun w2 w3 hB hs hv hm hB3 hs3 => frags_gives (fun b => b = w.heap.size + 1) h1 h2 hw hB (fun b hb => by omega) hv hm hB3 hs3
  have HDF : Hid (∀ W : World, W.heap[w.heap.size]? = some (BV f mf off so sb) → W.cell? ⟨w.heap.size, 2, none⟩ = some (.bool false) ∧ W.cell? ⟨w.heap.size, 3, none⟩ = some (.bool mf) ∧ W.cell? ⟨w.heap.size, 16, none⟩ = some (.slice a2 body.length c2)) := fun W hW => ⟨by rw [vb2 hW, hd], vb3 hW, by rw [vb16 hW, HSB.out]⟩
  have hs0' : w.heap.size + 2 ≤ ((w.alloc (BV f mf off so sb)).alloc (.cells [.int .i64 0].toArray 30)).heap.size := by omega
  have HS0 : Hid _ := hs0'
  clear hb0 hr0 hB0 h1 h2 hsb hs0 hs0' hw hf hd hm8
  generalize hLL : fragL mf off opts body mtu = L at *
  clear hLL
  obtain ⟨rE, hrE⟩ : ∃ rE : Int, rE = if farB L then 5 else 0 := ⟨_, rfl⟩
  rw [← hrE]
  have HE : Hid (rE = if farB L then 5 else 0) := hrE
  clear hrE
  generalize body.length = nb at *
  refine (callsIn_wide (n := 9)).1 ?_
  refine callsIn_of_wp_marks Try.func21 rfl trivial ?_ rfl
  simp only [Try.ntmps21, List.size_toArray, List.length_cons, List.length_nil, Nat.reduceAdd, Nat.reduceSub, Array.replicate_succ, Array.replicate_zero, List.push_toArray, List.append_toArray, List.nil_append, List.cons_append]
  gi_wp2_with ((with_reducible show wpListIn _ _ _ _ _ _ _ _); refine armLI (.tmp 2) 27 rfl rfl rfl HLD.out ?_)
  refine ⟨trivial, (callsIn_wide.2 (HFT.out _ HBB.out)).mono ?_⟩
  rintro e w2 ⟨rfl, hb2⟩
  have HB2 : Hid (Below w.heap.size w w2) := HBB.out.trans (hb2.mono HBB.out.size)
  have hk2 := blk_on HB0.out hb2
  have hr2 := blk_on HR0.out hb2
  obtain ⟨d2, d3, d16⟩ := HDF.out w2 hk2
  have HR2 : Hid (w2.heap[w.heap.size + 1]? = some (.cells [.int .i64 0].toArray 30)) := hr2
  have HLD2 : Hid _ := vb_load hk2
  have HS2 : Hid (w.heap.size + 2 ≤ w2.heap.size) := Nat.le_trans HS0.out hb2.size
  clear hb2 hk2 hr2 HB0 HR0 HLD HFT HDF HS0
  have key : mf = true → (((nb : Nat) : Int) % 8 != 0) = false := fun h => by
    rcases hq8 with h' | h'
    · rw [h] at h'; cases h'
    · exact h'
  clear hq8
  rcases mf
  all_goals
    have key' := key
    clear key
    first
      | (have q8 := key' rfl; clear key')
      | clear key'
    gi_wp2_with ((with_reducible show wpListIn _ _ _ _ _ _ _ _); refine armLI (.tmp 2) 27 rfl rfl rfl HLD2.out ?_)
    refine ⟨trivial, (callsIn_wide.2 (HFR.out _)).mono ?_⟩
    rintro e w3 ⟨rfl, hv3, hm3, hB3, hs3⟩
    have HGI : Hid _ := HG.out w2 w3 HB2.out HS2.out hv3 hm3 hB3 hs3
    have HR3 : Hid (w3.heap[w.heap.size + 1]? = some (.cells [.int .i64 0].toArray 30)) := blk_on HR2.out hB3
    have HB3 : Hid (Below w.heap.size w w3) := HB2.out.trans (hB3.mono HB2.out.size)
    have hsz3 : w.heap.size + 4 ≤ w3.heap.size := by have := HS2.out; omega
    clear hv3 hm3 hB3 hs3 HG HFR HLD2 HR2 d2 d3 d16
    gi_wp2_with fail
    refine wpIn_rangeO (gf := 29) rfl enters_frags HGI.out (Nat.le_refl _) (fun b hb => ⟨hb.1, rfl⟩) rfl
      (fun k O A => O (w.heap.size + 1) ∧ (∀ b, O b → b = w.heap.size + 1) ∧ (∀ (j : Nat) (g : Fg), j < k → L[j]? = some g → g.off ≤ 8191) ∧ A.heap[w.heap.size + 1]? = some (.cells [.int .i64 0].toArray 30) ∧ Below w.heap.size w A)
      (fun O A => (∃ (k : Nat) (g : Fg), L[k]? = some g ∧ 8191 < g.off) ∧ (∀ b, O b → b = w.heap.size + 1) ∧ A.heap[w.heap.size + 1]? = some (.cells [.int .i64 5].toArray 30) ∧ Below w.heap.size w A)
      (fun b => b = w.heap.size + 1) (fun b hb => ⟨fun h => h.2 hb, by omega⟩) ?stable ?stableZ
      ⟨rfl, fun b hb => hb, fun j g hj => absurd hj (by omega), HR3.out, HB3.out⟩ ?round ?done ?left
    case stable =>
      rintro k O A B ⟨h1, h2, h3, h4, h5⟩ hs
      exact ⟨h1, h2, h3, hs.blk h4 (fun hb => hb.2 h1), h5.trans (hs.below h5.size (fun b hb hh => by have := hh.1; omega))⟩
    case stableZ =>
      rintro O A B ⟨h1, h2, h4, h5⟩ hs
      exact ⟨h1, h2, hs.blk h4 (fun hb => by have := hb.1; omega), h5.trans (hs.below h5.size (fun b hb hh => by have := hh.1; omega))⟩
    case round =>
      rintro m k x W O hk hsz hO ⟨g, so', sb', hg, rfl, hbo, hbb⟩ ⟨i1, i2, i3, i4, i5⟩
      obtain ⟨W1, hst, hbx, hBn, hsn⟩ := vb_new W f g.mf g.off (so := so') (sb := sb') hbo.one hbb.one
      unfold zeroV at hst
      have HST : Hid _ := hst
      have HBX : Hid _ := hbx
      have HBN : Hid _ := hBn
      have HI4 : Hid (W.heap[w.heap.size + 1]? = some (.cells [.int .i64 0].toArray 30)) := i4
      clear hst hbx hBn hbo hbb i4
      gi_wp2_with ((with_reducible show wpListIn _ _ _ _ _ _ _ _); refine armSI (.tmp 7) (.tmp 37) 27 rfl rfl rfl rfl HST.out ?_)
      refine ⟨Sep.of_below HBN.out, ?_⟩
      intro W2 hon
      have hb2 : W2.heap[W.heap.size]? = some (BV f g.mf g.off so' sb') := (hon.other _ (by omega)).trans HBX.out
      have d4 := vb4 hb2
      have hr2 : W2.heap[w.heap.size + 1]? = some (.cells [.int .i64 0].toArray 30) := (hon.other _ (by omega)).trans (blk_on HI4.out HBN.out)
      have r0 := blk_cell hr2 (j := 0) rfl
      have rf := blk_open hr2 0
      have hbw : Below w.heap.size w W2 := (i5.trans (HBN.out.mono i5.size)).trans (hon.below (by omega))
      have HR2 : Hid (W2.heap[w.heap.size + 1]? = some (.cells [.int .i64 0].toArray 30)) := hr2
      have hsz2 : W2.heap.size = W.heap.size + 1 := by rw [hon.size, hsn]
      have HSZ2 : Hid _ := hsz2
      simp only [Act.put]
      clear hb2 hr2 hon HBX HBN HI4 HST hsz2 hsn
      by_cases hfar : 8191 < g.off
      · have q1 : decide (8191 < g.off) = true := by simpa using hfar
        gi_wp2_with fail
        refine ⟨O, Sep.of_only ((Only.refl _ W2).set 0 _) (.inl i1), fun b hb => ⟨?_, .inl hb⟩, .inr ⟨rfl, ⟨k, g, hg, hfar⟩, i2, blk_set HR2.out 0 _, hbw.setCell (p := ⟨w.heap.size + 1, 0, none⟩) (by simp) _⟩⟩
        have := (hO b hb).2.1
        have := HSZ2.out
        simp
        omega
      · have q1 : decide (8191 < g.off) = false := by simpa using hfar
        gi_wp2_with fail
        refine ⟨O, Sep.refl _ _, fun b hb => ⟨?_, .inl hb⟩, .inl ⟨rfl, i1, i2, fun j g' hj hg' => ?_, HR2.out, hbw⟩⟩
        · have := (hO b hb).2.1
          have := HSZ2.out
          omega
        · by_cases e : j = k
          · subst e
            rw [hg] at hg'
            cases hg'
            omega
          · exact i3 j g' (by omega) hg'
    case done =>
      rintro O X ⟨h1, h2, h3, h4, h5⟩ hK hne
      have hfar : farB L = false := far_no (fun j g hg => h3 j g (List.getElem?_eq_some_iff.1 hg).1 hg)
      have r0 := blk_cell h4 (j := 0) rfl
      have rf := blk_open h4 0
      have H4 : Hid (X.heap[w.heap.size + 1]? = some (.cells [.int .i64 0].toArray 30)) := h4
      have HE0 : Hid (rE = 0) := by show rE = 0; rw [HE.out, hfar]; rfl
      clear h3 h4 hfar
      gi_wp2_with fail
      have hK' : (X.setCell ⟨w.heap.size + 1, 0, none⟩ (.int .i64 0)).heap[w3.heap.size]? = some (.deferred (some [])) := (Below.heap_setCell _ _ _ _ (by simp; omega)).trans hK
      have hr' : ((X.setCell ⟨w.heap.size + 1, 0, none⟩ (.int .i64 0)).putObj w3.heap.size (.deferred none)).heap[w.heap.size + 1]? = some (.cells [.int .i64 0].toArray 30) := (World.putObj_heap_other (by omega)).trans (blk_set H4.out 0 _)
      refine ⟨by simp, .inl ⟨_, _, rfl, run_takeDeferred hK', ?_⟩⟩
      exact ⟨_, res1t rfl rfl (ld_err (blk_cell hr' (j := 0) rfl)), by rw [HE0.out], (h5.setCell (p := ⟨w.heap.size + 1, 0, none⟩) (by simp) _).trans ((Only.putObj _).below (by omega))⟩
    case left =>
      rintro O X ⟨⟨k, g, hg, hgo⟩, h2, h4, h5⟩ hK hne
      have HE5 : Hid (rE = 5) := by show rE = 5; rw [HE.out, far_yes hg hgo]; rfl
      have hr' : (X.putObj w3.heap.size (.deferred none)).heap[w.heap.size + 1]? = some (.cells [.int .i64 5].toArray 30) := (World.putObj_heap_other (by omega)).trans h4
      simp only [Exit.then, Exit.inBlock]
      refine ⟨by simp, .inl ⟨_, _, rfl, run_takeDeferred hK, ?_⟩⟩
      exact ⟨_, res1t rfl rfl (ld_err (blk_cell hr' (j := 0) rfl)), by rw [HE5.out], h5.trans ((Only.putObj _).below (by omega))⟩

theorem refused_calls (h1 : RowC w so opts) (h2 : RowC w sb body) (hoff : -9223372036854775808 ≤ off ∧ off ≤ 9223372036854775807) (hmt : -9223372036854775808 ≤ mtu ∧ mtu ≤ 9223372036854775807) :
    Calls Try.prog 21 #[VV f mf off so sb, .int .i64 mtu] w fun e w' => e = .returned (.int .i64 (refE f.df mf off opts body mtu)) ∧ Below w.heap.size w w' := by
  by_cases hw : wrongE off opts.length body.length mtu = 0
  · cases hf : fitB opts.length body.length mtu
    · cases hd : f.df
      · by_cases hm : mf = true ∧ body.length % 8 ≠ 0
        · have := refused_early f mf off so sb opts body mtu w h1 h2 hoff hmt (.inr (.inr (.inr hm)))
          rw [hd] at this
          exact this
        · have := refused_loop f mf off so sb opts body mtu w h1 h2 hoff hmt hw hf hd (by cases mf <;> simp at hm ⊢; exact hm)
          have e : refE false mf off opts body mtu = if farB (fragL mf off opts body mtu) then 5 else 0 := by
            unfold refE
            rw [if_neg (by simpa using hw), hf]
            cases mf
            · simp
            · simp at hm
              simp [hm]
          rw [e]
          exact this
      · have := refused_early f mf off so sb opts body mtu w h1 h2 hoff hmt (.inr (.inr (.inl hd)))
        rw [hd] at this
        exact this
    · exact refused_early f mf off so sb opts body mtu w h1 h2 hoff hmt (.inr (.inl hf))
  · exact refused_early f mf off so sb opts body mtu w h1 h2 hoff hmt (.inl hw)
end

end Go.Proofs.Ytackllcfnlhkpaa
