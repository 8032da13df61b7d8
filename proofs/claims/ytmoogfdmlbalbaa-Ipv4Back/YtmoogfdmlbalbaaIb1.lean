/-
  There and back: what is written is parsed, what is parsed is written; plain, and the contracts.
-/
import Derived.Test.YtmoogfdmlbalbaaIu1
import Derived.Test.YtmoogfdmlbalbaaSums
namespace Go.Proofs.Ytmoogfdmlbalbaa
open Go Go.RowKit
set_option linter.unusedVariables false
set_option linter.unusedSimpArgs false

theorem sumW0_pos {x : Int} {xs : List Int} (hw : Words (x :: xs)) (hx : 0 < x) : 0 < sumW 0 (x :: xs) := by
  show 0 < sumW (addW 0 x) xs
  refine sumW_pos _ _ (fun z hz => hw z (List.mem_cons_of_mem _ hz)) ?_
  have := hw x (by simp)
  unfold addW
  split <;> omega
section
variable {tos id : Int} {df mf : Bool} {off ttl proto s0 s1 s2 s3 d0 d1 d2 d3 sm : Int} {opts body : List Int} {all : Nat}
theorem rhd_sum2 : (wordsL (rhd (20 + opts.length) all tos id (cutW off df mf) ttl proto s0 s1 s2 s3 d0 d1 d2 d3 sm opts)).sum = (wordsL (rhd (20 + opts.length) all tos id (cutW off df mf) ttl proto s0 s1 s2 s3 d0 d1 d2 d3 0 opts)).sum + sm := by
  simp only [rhd, List.cons_append, List.nil_append, wordsL_two, List.sum_cons]
  omega
/-- A header with its checksum sums up to 65535. -/
theorem rhd_right (hf : Fit (rhd (20 + opts.length) all tos id (cutW off df mf) ttl proto s0 s1 s2 s3 d0 d1 d2 d3 sm opts))
    (hsm : sm = 65535 - sumW 0 (wordsL (rhd (20 + opts.length) all tos id (cutW off df mf) ttl proto s0 s1 s2 s3 d0 d1 d2 d3 0 opts))) :
    sumW 0 (wordsL (rhd (20 + opts.length) all tos id (cutW off df mf) ttl proto s0 s1 s2 s3 d0 d1 d2 d3 sm opts)) = 65535 := by
  have hX := rhd_sum2 (tos := tos) (id := id) (df := df) (mf := mf) (off := off) (ttl := ttl) (proto := proto) (s0 := s0) (s1 := s1) (s2 := s2) (s3 := s3) (d0 := d0) (d1 := d1) (d2 := d2) (d3 := d3) (sm := sm) (opts := opts) (all := all)
  have hM := sumW_mod (wordsL (rhd (20 + opts.length) all tos id (cutW off df mf) ttl proto s0 s1 s2 s3 d0 d1 d2 d3 0 opts)) 0
  have hM2 := sumW_mod (wordsL (rhd (20 + opts.length) all tos id (cutW off df mf) ttl proto s0 s1 s2 s3 d0 d1 d2 d3 sm opts)) 0
  have hR := sumW_range (wordsL (rhd (20 + opts.length) all tos id (cutW off df mf) ttl proto s0 s1 s2 s3 d0 d1 d2 d3 sm opts)) 0 (by decide) (wordsL_words hf)
  have hP : 0 < sumW 0 (wordsL (rhd (20 + opts.length) all tos id (cutW off df mf) ttl proto s0 s1 s2 s3 d0 d1 d2 d3 sm opts)) := by
    have hw := wordsL_words hf
    have h1 : 0 ≤ tos ∧ tos < 256 := hf tos (by simp [rhd])
    obtain ⟨xs, e⟩ : ∃ xs, wordsL (rhd (20 + opts.length) all tos id (cutW off df mf) ttl proto s0 s1 s2 s3 d0 d1 d2 d3 sm opts) = ((64 + ((20 + opts.length : Nat) : Int) / 4) * 256 + tos) :: xs := ⟨_, by rw [rhd, List.cons_append, List.cons_append]; exact wordsL_two _ _ _⟩
    rw [e] at hw ⊢
    exact sumW0_pos hw (by omega)
  rw [hX] at hM2
  generalize sumW 0 (wordsL (rhd (20 + opts.length) all tos id (cutW off df mf) ttl proto s0 s1 s2 s3 d0 d1 d2 d3 0 opts)) = S0 at *
  generalize sumW 0 (wordsL (rhd (20 + opts.length) all tos id (cutW off df mf) ttl proto s0 s1 s2 s3 d0 d1 d2 d3 sm opts)) = S1 at *
  omega
end

theorem parse_back {w : World} {c : List Value} {tos id : Int} {df mf : Bool} {off ttl proto s0 s1 s2 s3 d0 d1 d2 d3 : Int} {opts body : List Int} (hd : Dgram w c tos id df mf off ttl proto s0 s1 s2 s3 d0 d1 d2 d3 opts body) (hk : chk off opts.length body.length = 0) : ∀ W g, OwnG W g (wrL tos id df mf off ttl proto s0 s1 s2 s3 d0 d1 d2 d3 opts body) → Calls Try.prog 18 #[.slice (some ⟨g, 0, none⟩) (20 + opts.length + body.length) (20 + opts.length + body.length)] W fun e w' => ∃ c', e = .returned (.tuple #[.agg c'.toArray, .int .i64 0, .int .i64 0]) ∧ Dgram w' c' tos id df mf off ttl proto s0 s1 s2 s3 d0 d1 d2 d3 opts body ∧ Below W.heap.size W w' := by
  obtain ⟨hno, hnb, ho⟩ := chk_zero hk
  have h4 := chk_zero4 hk
  obtain ⟨sm, hwe, hsm, hsm0, hsm1, hfit⟩ := wrL_fit hd hk
  have hlen : (rhd (20 + opts.length) (20 + opts.length + body.length) tos id (cutW off df mf) ttl proto s0 s1 s2 s3 d0 d1 d2 d3 sm opts ++ body).length = 20 + opts.length + body.length := by rw [List.length_append, rhd_length]
  have hfh : Fit (rhd (20 + opts.length) (20 + opts.length + body.length) tos id (cutW off df mf) ttl proto s0 s1 s2 s3 d0 d1 d2 d3 sm opts) := fun z hz => hfit z (List.mem_append_left _ hz)
  have hpe : pErr (rhd (20 + opts.length) (20 + opts.length + body.length) tos id (cutW off df mf) ttl proto s0 s1 s2 s3 d0 d1 d2 d3 sm opts ++ body) false = (0, 0) := by
    refine pErr_ok (by rw [hlen]; omega) (rhd_ver (by omega)) ?_ ?_ ?_
    · rw [rhd_head (by omega) h4, hlen]; omega
    · rw [rhd_all, hlen]
    · rw [rhd_head (by omega) h4, show (((20 + opts.length : Nat) : Int)).toNat = 20 + opts.length by omega, List.take_append_of_le_length (by rw [rhd_length]; omega), List.take_of_length_le (by rw [rhd_length]; omega)]
      exact rhd_right hfh hsm
  intro W g hO
  have hrow : RowC W (.slice (some ⟨g, 0, none⟩) (20 + opts.length + body.length) (20 + opts.length + body.length)) (rhd (20 + opts.length) (20 + opts.length + body.length) tos id (cutW off df mf) ttl proto s0 s1 s2 s3 d0 d1 d2 d3 sm opts ++ body) := by
    have := hO.row (by rw [hwe]; exact hfit) (by rw [hwe, hlen]; exact hnb) (20 + opts.length + body.length) (20 + opts.length + body.length) (by rw [hwe, hlen]; omega) (Nat.le_refl _)
    rwa [hwe, List.take_of_length_le (by rw [hlen]; omega)] at this
  refine Calls.mono (Parse_any hrow) ?_
  rintro e w' ⟨c', he, hP, hA, hB⟩
  rw [hpe] at he
  unfold ParD at hP
  rw [if_pos hpe] at hP
  exact ⟨c', he, rhd_says (by omega) h4 ho hP, hB⟩

theorem twenty' {l : List Int} (h : l.length = 20) : ∃ z0 z1 z2 z3 z4 z5 z6 z7 z8 z9 z10 z11 z12 z13 z14 z15 z16 z17 z18 z19, l = [z0, z1, z2, z3, z4, z5, z6, z7, z8, z9, z10, z11, z12, z13, z14, z15, z16, z17, z18, z19] := by
  match l, h with
  | [z0, z1, z2, z3, z4, z5, z6, z7, z8, z9, z10, z11, z12, z13, z14, z15, z16, z17, z18, z19], _ => exact ⟨z0, z1, z2, z3, z4, z5, z6, z7, z8, z9, z10, z11, z12, z13, z14, z15, z16, z17, z18, z19, rfl⟩
theorem twenty {zs : List Int} (h : 20 ≤ zs.length) : ∃ z0 z1 z2 z3 z4 z5 z6 z7 z8 z9 z10 z11 z12 z13 z14 z15 z16 z17 z18 z19 r, zs = [z0, z1, z2, z3, z4, z5, z6, z7, z8, z9, z10, z11, z12, z13, z14, z15, z16, z17, z18, z19] ++ r := by
  obtain ⟨z0, z1, z2, z3, z4, z5, z6, z7, z8, z9, z10, z11, z12, z13, z14, z15, z16, z17, z18, z19, e⟩ := twenty' (l := zs.take 20) (by simp; omega)
  exact ⟨z0, z1, z2, z3, z4, z5, z6, z7, z8, z9, z10, z11, z12, z13, z14, z15, z16, z17, z18, z19, zs.drop 20, by rw [← e, List.take_append_drop]⟩
theorem pErr_zero {zs : List Int} (h : pErr zs false = (0, 0)) : 20 ≤ zs.length ∧ gz zs 0 / 16 = 4 ∧ 20 ≤ pHead zs ∧ pHead zs ≤ zs.length ∧ pAll zs = zs.length := by
  unfold pErr at h
  by_cases h1 : zs.length < 20
  · rw [if_pos h1] at h; cases h
  rw [if_neg h1] at h
  by_cases h2 : gz zs 0 / 16 ≠ 4
  · rw [if_pos h2] at h; cases h
  rw [if_neg h2] at h
  by_cases h3 : ¬ (20 ≤ pHead zs ∧ pHead zs ≤ zs.length)
  · rw [if_pos h3] at h; cases h
  rw [if_neg h3] at h
  by_cases h4 : pAll zs < zs.length ∨ (zs.length < pAll zs ∧ false = false)
  · rw [if_pos h4] at h; cases h
  simp at h4
  omega
theorem pErr_snd2 {zs : List Int} {part : Bool} (h : pErr zs part ≠ (0, 0)) : (pErr zs part).2 ≠ 0 := by
  unfold pErr at *
  split
  · decide
  · split
    · decide
    · split
      · decide
      · split
        · decide
        · split
          · decide
          · next a b c d e => rw [if_neg a, if_neg b, if_neg c, if_neg d, if_neg e] at h; exact absurd rfl h
theorem cut_again (x y : Int) (hx : 0 ≤ x ∧ x < 128) (hy : 0 ≤ y ∧ y < 256) : cutW (x % 32 * 256 + y) (decide (x / 64 % 2 = 1)) (decide (x / 32 % 2 = 1)) / 256 = x ∧ cutW (x % 32 * 256 + y) (decide (x / 64 % 2 = 1)) (decide (x / 32 % 2 = 1)) % 256 = y := by
  unfold cutW
  by_cases h1 : x / 64 % 2 = 1 <;> by_cases h2 : x / 32 % 2 = 1 <;> simp [h1, h2] <;> omega
/-- The bytes of a datagram that is written again: all but the checksum. -/
theorem write_back {zs : List Int} (hf : Fit zs) (h : pErr zs false = (0, 0)) (h6 : gz zs 6 < 128) (sm : Int) :
    chk (gz zs 6 % 32 * 256 + gz zs 7) ((zs.drop 20).take ((pHead zs).toNat - 20)).length (zs.drop (pHead zs).toNat).length = 0 ∧
    (rhd (20 + ((zs.drop 20).take ((pHead zs).toNat - 20)).length) (20 + ((zs.drop 20).take ((pHead zs).toNat - 20)).length + (zs.drop (pHead zs).toNat).length) (gz zs 1) (gz zs 4 * 256 + gz zs 5) (cutW (gz zs 6 % 32 * 256 + gz zs 7) (decide (gz zs 6 / 64 % 2 = 1)) (decide (gz zs 6 / 32 % 2 = 1))) (gz zs 8) (gz zs 9) (gz zs 12) (gz zs 13) (gz zs 14) (gz zs 15) (gz zs 16) (gz zs 17) (gz zs 18) (gz zs 19) sm ((zs.drop 20).take ((pHead zs).toNat - 20)) ++ zs.drop (pHead zs).toNat).take 10 = zs.take 10 ∧
    (rhd (20 + ((zs.drop 20).take ((pHead zs).toNat - 20)).length) (20 + ((zs.drop 20).take ((pHead zs).toNat - 20)).length + (zs.drop (pHead zs).toNat).length) (gz zs 1) (gz zs 4 * 256 + gz zs 5) (cutW (gz zs 6 % 32 * 256 + gz zs 7) (decide (gz zs 6 / 64 % 2 = 1)) (decide (gz zs 6 / 32 % 2 = 1))) (gz zs 8) (gz zs 9) (gz zs 12) (gz zs 13) (gz zs 14) (gz zs 15) (gz zs 16) (gz zs 17) (gz zs 18) (gz zs 19) sm ((zs.drop 20).take ((pHead zs).toNat - 20)) ++ zs.drop (pHead zs).toNat).drop 12 = zs.drop 12 ∧
    20 + ((zs.drop 20).take ((pHead zs).toNat - 20)).length + (zs.drop (pHead zs).toNat).length = zs.length := by
  obtain ⟨h20, hv, hh1, hh2, hall⟩ := pErr_zero h
  have g0 := hf.gz 0; have g2 := hf.gz 2; have g3 := hf.gz 3; have g4 := hf.gz 4; have g5 := hf.gz 5; have g6 := hf.gz 6; have g7 := hf.gz 7
  obtain ⟨hd, hhd⟩ : ∃ hd : Nat, (pHead zs).toNat = hd := ⟨_, rfl⟩
  have hp : gz zs 0 % 16 * 4 = (hd : Int) := by unfold pHead at hhd hh1; omega
  have hl1 : ((zs.drop 20).take (hd - 20)).length = hd - 20 := by simp; unfold pHead at hh2; omega
  have hl2 : (zs.drop hd).length = zs.length - hd := by simp
  have hhz : hd ≤ zs.length := by unfold pHead at hh2; omega
  unfold pAll at hall
  rw [hhd, hl1, hl2]
  refine ⟨?_, ?_, ?_, by omega⟩
  · unfold chk badV longV
    rw [if_neg (by simp; omega), if_neg (by simp; omega)]
  · obtain ⟨z0, z1, z2, z3, z4, z5, z6, z7, z8, z9, z10, z11, z12, z13, z14, z15, z16, z17, z18, z19, r, rfl⟩ := twenty h20
    generalize hL : ([z0, z1, z2, z3, z4, z5, z6, z7, z8, z9, z10, z11, z12, z13, z14, z15, z16, z17, z18, z19] ++ r).length = L at *
    simp only [show gz ([z0, z1, z2, z3, z4, z5, z6, z7, z8, z9, z10, z11, z12, z13, z14, z15, z16, z17, z18, z19] ++ r) 0 = z0 from rfl, show gz ([z0, z1, z2, z3, z4, z5, z6, z7, z8, z9, z10, z11, z12, z13, z14, z15, z16, z17, z18, z19] ++ r) 1 = z1 from rfl, show gz ([z0, z1, z2, z3, z4, z5, z6, z7, z8, z9, z10, z11, z12, z13, z14, z15, z16, z17, z18, z19] ++ r) 2 = z2 from rfl, show gz ([z0, z1, z2, z3, z4, z5, z6, z7, z8, z9, z10, z11, z12, z13, z14, z15, z16, z17, z18, z19] ++ r) 3 = z3 from rfl, show gz ([z0, z1, z2, z3, z4, z5, z6, z7, z8, z9, z10, z11, z12, z13, z14, z15, z16, z17, z18, z19] ++ r) 4 = z4 from rfl, show gz ([z0, z1, z2, z3, z4, z5, z6, z7, z8, z9, z10, z11, z12, z13, z14, z15, z16, z17, z18, z19] ++ r) 5 = z5 from rfl, show gz ([z0, z1, z2, z3, z4, z5, z6, z7, z8, z9, z10, z11, z12, z13, z14, z15, z16, z17, z18, z19] ++ r) 6 = z6 from rfl, show gz ([z0, z1, z2, z3, z4, z5, z6, z7, z8, z9, z10, z11, z12, z13, z14, z15, z16, z17, z18, z19] ++ r) 7 = z7 from rfl, show gz ([z0, z1, z2, z3, z4, z5, z6, z7, z8, z9, z10, z11, z12, z13, z14, z15, z16, z17, z18, z19] ++ r) 8 = z8 from rfl, show gz ([z0, z1, z2, z3, z4, z5, z6, z7, z8, z9, z10, z11, z12, z13, z14, z15, z16, z17, z18, z19] ++ r) 9 = z9 from rfl] at *
    have a0 : 64 + ((20 + (hd - 20) : Nat) : Int) / 4 = z0 := by omega
    have a2 : ((20 + (hd - 20) + (L - hd) : Nat) : Int) / 256 = z2 := by omega
    have a3 : ((20 + (hd - 20) + (L - hd) : Nat) : Int) % 256 = z3 := by omega
    have a4 : (z4 * 256 + z5) / 256 = z4 := by omega
    have a5 : (z4 * 256 + z5) % 256 = z5 := by omega
    have a6 := cut_again z6 z7 (by omega) g7
    show [64 + ((20 + (hd - 20) : Nat) : Int) / 4, z1, ((20 + (hd - 20) + (L - hd) : Nat) : Int) / 256, ((20 + (hd - 20) + (L - hd) : Nat) : Int) % 256, (z4 * 256 + z5) / 256, (z4 * 256 + z5) % 256, cutW (z6 % 32 * 256 + z7) (decide (z6 / 64 % 2 = 1)) (decide (z6 / 32 % 2 = 1)) / 256, cutW (z6 % 32 * 256 + z7) (decide (z6 / 64 % 2 = 1)) (decide (z6 / 32 % 2 = 1)) % 256, z8, z9] = [z0, z1, z2, z3, z4, z5, z6, z7, z8, z9]
    rw [a0, a2, a3, a4, a5, a6.1, a6.2]
  · obtain ⟨z0, z1, z2, z3, z4, z5, z6, z7, z8, z9, z10, z11, z12, z13, z14, z15, z16, z17, z18, z19, r, rfl⟩ := twenty h20
    have hr : r.take (hd - 20) ++ ([z0, z1, z2, z3, z4, z5, z6, z7, z8, z9, z10, z11, z12, z13, z14, z15, z16, z17, z18, z19] ++ r).drop hd = r := by
      have : 20 ≤ hd := by unfold pHead at hh1; omega
      rw [List.drop_append, List.drop_of_length_le (by simp; omega)]
      simp
    show [z12, z13, z14, z15, z16, z17, z18, z19] ++ r.take (hd - 20) ++ ([z0, z1, z2, z3, z4, z5, z6, z7, z8, z9, z10, z11, z12, z13, z14, z15, z16, z17, z18, z19] ++ r).drop hd = [z12, z13, z14, z15, z16, z17, z18, z19] ++ r
    rw [List.append_assoc, hr]

theorem write_again {zs : List Int} (hf : Fit zs) (h : pErr zs false = (0, 0)) (h6 : gz zs 6 < 128) {W : World} {c : List Value} (hS : SaysD zs W c) :
    Calls Try.prog 11 #[.agg c.toArray] W fun e w' => ∃ g yl, e = .returned (.tuple #[.slice (some ⟨g, 0, none⟩) zs.length zs.length, .int .i64 0]) ∧ OwnG w' g yl ∧ Fit yl ∧ yl.length = zs.length ∧ yl.take 10 = zs.take 10 ∧ yl.drop 12 = zs.drop 12 ∧ Below W.heap.size W w' := by
  obtain ⟨hk, _, _, hlen⟩ := write_back hf h h6 0
  unfold SaysD at hS
  obtain ⟨sm, hwe, _, _, _, hfit⟩ := wrL_fit hS hk
  obtain ⟨_, h10, h12, _⟩ := write_back hf h h6 sm
  have := Write_ok c _ _ _ _ _ _ _ _ _ _ _ _ _ _ _ _ _ W hS hk
  rw [hlen] at this
  refine this.mono ?_
  rintro e w' ⟨g, rfl, _, own, hb⟩
  rw [hwe] at own
  refine ⟨g, _, rfl, own, hfit, ?_, h10, h12, hb⟩
  rw [List.length_append, rhd_length]
  exact hlen

end Go.Proofs.Ytmoogfdmlbalbaa
