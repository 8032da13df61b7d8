/-
  Copied of the document's answer.
-/
import Derived.Test.YtackllcfnlhkpaaVa2
namespace Go.Proofs.Ytackllcfnlhkpaa
open Go Go.RowKit
set_option linter.unusedVariables false
set_option linter.unusedSimpArgs false

theorem firstN_zero (l : List Int) (h : firstN l = 0) : l = [] ∨ (0 < l.length ∧ gz l 0 = 0) ∨ (l.length = 1 ∧ gz l 0 ≠ 0 ∧ gz l 0 ≠ 1) ∨ (1 < l.length ∧ gz l 0 ≠ 0 ∧ gz l 0 ≠ 1 ∧ (gz l 1 < 2 ∨ (2 ≤ gz l 1 ∧ (l.length : Int) < gz l 1))) := by
  cases l with
  | nil => exact .inl rfl
  | cons x r =>
    by_cases h0 : x = 0
    · exact .inr (.inl ⟨by simp, by simpa [gz] using h0⟩)
    · by_cases h1 : x = 1
      · simp [firstN, h0, h1] at h
      · cases r with
        | nil => exact .inr (.inr (.inl ⟨rfl, by simpa [gz] using h0, by simpa [gz] using h1⟩))
        | cons y r =>
          refine .inr (.inr (.inr ⟨by simp, by simpa [gz] using h0, by simpa [gz] using h1, ?_⟩))
          simp only [firstN, if_neg h0, if_neg h1] at h
          by_cases hy : y < 2 ∨ (((y :: r).length : Nat) : Int) + 1 < y
          · simp only [gz, List.getElem?_cons_succ, List.getElem?_cons_zero, Option.getD_some, List.length_cons] at *
            omega
          · rw [if_neg hy] at h
            simp only [gz, List.getElem?_cons_succ, List.getElem?_cons_zero, Option.getD_some, List.length_cons] at *
            omega
theorem firstN_more (l : List Int) (h : firstN l ≠ 0) : (0 < l.length ∧ gz l 0 = 1 ∧ firstN l = 1) ∨ (1 < l.length ∧ gz l 0 ≠ 0 ∧ gz l 0 ≠ 1 ∧ 2 ≤ gz l 1 ∧ gz l 1 ≤ (l.length : Int) ∧ ((firstN l : Nat) : Int) = gz l 1) := by
  cases l with
  | nil => simp [firstN] at h
  | cons x r =>
    by_cases h0 : x = 0
    · simp [firstN, h0] at h
    · by_cases h1 : x = 1
      · exact .inl ⟨by simp, by simpa [gz] using h1, by simp [firstN, h0, h1]⟩
      · cases r with
        | nil => simp [firstN, h0, h1] at h
        | cons y r =>
          simp only [firstN, if_neg h0, if_neg h1] at *
          by_cases hy : y < 2 ∨ (((y :: r).length : Nat) : Int) + 1 < y
          · rw [if_pos hy] at h; exact absurd rfl h
          · rw [if_neg hy] at h ⊢
            simp only [gz, List.getElem?_cons_succ, List.getElem?_cons_zero, Option.getD_some, List.length_cons] at *
            exact .inr ⟨by omega, h0, h1, by omega, by omega, by omega⟩
theorem cut_mid {S : Nat → Prop} {w : World} {v : Value} {zs : List Int} (h : BS S w v zs) (h0 : 0 < zs.length) (i n m : Nat) (hm : m = i + n) (hn : i + n ≤ zs.length) (hp : 0 < n) :
    ∃ u, (∀ W, (Instr.sliceAt 25 v (some (.int .i64 i)) (some (.int .i64 m)) none).run Try.prog W = .ok u W) ∧ BS S w u ((zs.drop i).take n) := by
  obtain ⟨b, off, cap, rfl, hc, hlt, hcell⟩ := h.row.some h0
  have hlen := h.row.len
  have hS : S b := by
    rcases h.loc with hl | ⟨b', off', n', k', e', hS⟩
    · omega
    · cases e'
      exact hS
  have e : ((zs.drop i).take n).length = n := by rw [List.length_take, List.length_drop]; omega
  refine ⟨.slice (some ⟨b, off + i, none⟩) n (cap - i), fun W => ?_, ⟨⟨fun z hz => h.row.fit z (List.mem_of_mem_drop (List.mem_of_mem_take hz)), by omega, _, cap - i, by rw [e], by omega, .inr ⟨b, off + i, rfl, hlt, fun j hj => ?_⟩⟩, .inr ⟨b, off + i, _, _, rfl, hS⟩⟩⟩
  · have i1 : m ≤ cap := by omega
    have i2 : i < cap := by omega
    have i3 : ¬ cap = i := by omega
    have i4 : i ≤ m := by omega
    have i5 : m - i = n := by omega
    have i6 : ¬ cap - i = 0 := by omega
    simp [Instr.sliceAt, go_sem, i1, i2, i3, i4, i5, i6]
  · rw [e] at hj
    rw [Nat.add_assoc, hcell (i + j) (by omega), gz, List.getElem?_take, if_pos hj, List.getElem?_drop]

set_option maxHeartbeats 2000000 in
set_option maxRecDepth 100000 in
theorem RCopied_calls (v : Value) (zs : List Int) (w : World) (h : RowC w v zs) (hl : zs.length ≤ 100000) :
    Calls Try.prog 18 #[v] w fun e w' => ∃ u, e = .returned u ∧ BS (fun b => w.heap.size ≤ b) w' u (copiedL zs) ∧ Below w.heap.size w w' := by
  have HCF : Hid (Fit (copiedL zs)) := copiedL_fit zs h.fit
  have HOL : Hid _ := optsC_length zs
  have HCL : Hid ((copiedL zs).length ≤ 100003) := by show (copiedL zs).length ≤ 100003; have h1 := optsC_length zs; have h2 := pad4_length (optsC zs); unfold copiedL; omega
  have HH : Hid (RowC w v zs) := h
  obtain ⟨a0, cap0, hv⟩ : ∃ a cap, v = .slice a zs.length cap := by obtain ⟨_, _, a, cap, e, _⟩ := h; exact ⟨a, cap, e⟩
  subst hv
  have hlen := h.len
  clear h
  go_enter Try.func18, Try.ntmps18
  go_wp2_with fail
  go_loopw [3, 4] (fun a i wr => ∃ (k : Nat) (acc : List Int), i = .int .i64 k ∧ k ≤ zs.length ∧ acc ++ optsC (zs.drop k) = optsC zs ∧ OB w.heap.size w wr a acc ∧ w.heap.size ≤ wr.heap.size) (fun _ i _ => zs.length - (intOf i).toNat)
  case atStart => exact ⟨0, [], rfl, Nat.zero_le _, by simp, OB.nil w _, Nat.le_refl _⟩
  case round =>
    obtain ⟨k, acc, rfl, hk, hacc, hob, hsz⟩ := hrel
    have hdl : (zs.drop k).length = zs.length - k := by simp
    have hcell : ∀ j, k + j < zs.length → ∃ b off, a0 = some ⟨b, off, none⟩ ∧ wr.cell? ⟨b, off + (k + j), none⟩ = some (.int .u8 (gz (zs.drop k) j)) := fun j hj => by
      obtain ⟨b, off, cap, e, hc, hlt, hcl⟩ := HH.out.some (by omega)
      cases e
      refine ⟨b, off, rfl, ?_⟩
      rw [gz_drop]
      exact (hob.bel.cell (p := ⟨b, off + (k + j), none⟩) hlt).trans (hcl (k + j) hj)
    have hfg := fun j => HH.out.fit.gz (k + j)
    by_cases hn : firstN (zs.drop k) = 0
    · have hz := firstN_zero _ hn
      rw [optsC_end _ hn, List.append_nil] at hacc
      have HACC : Hid _ := hacc
      have HOB : Hid (OB w.heap.size w wr _ acc) := hob
      rw [hdl] at hz
      have hk0 := hcell 0
      have hk1 := hcell 1
      have hf0 := hfg 0
      have hf1 := hfg 1
      rw [← gz_drop] at hf0 hf1
      have hz' : k = zs.length ∨ (k < zs.length ∧ gz (zs.drop k) 0 = 0) ∨ (k + 1 = zs.length ∧ gz (zs.drop k) 0 ≠ 0 ∧ gz (zs.drop k) 0 ≠ 1) ∨ (k + 1 < zs.length ∧ gz (zs.drop k) 0 ≠ 0 ∧ gz (zs.drop k) 0 ≠ 1 ∧ (gz (zs.drop k) 1 < 2 ∨ (2 ≤ gz (zs.drop k) 1 ∧ (zs.length : Int) - k < gz (zs.drop k) 1))) := by
        rcases hz with hz | hz | hz | hz
        · left
          have := congrArg List.length hz
          simp at this
          omega
        · right; left
          exact ⟨by omega, hz.2⟩
        · right; right; left
          exact ⟨by omega, hz.2⟩
        · right; right; right
          refine ⟨by omega, hz.2.1, hz.2.2.1, ?_⟩
          have := hz.2.2.2
          omega
      clear hcell hfg hn hacc hob hdl hz HH
      generalize gz (zs.drop k) 0 = g0 at *
      generalize gz (zs.drop k) 1 = g1 at *
      have HACCL : Hid (acc.length ≤ 100003) := by show acc.length ≤ 100003; rw [HACC.out]; have := HOL.out; omega
      clear HOL
      generalize hN : zs.length = N at *
      have HN : Hid _ := hN
      clear hN
      rcases hz' with hz' | ⟨h1, h2⟩ | ⟨h1, h2, h3⟩ | ⟨h1, h2, h3, h4⟩
      focus
        have q1 : ¬ k < N := by omega
        clear hk0 hk1 hf0 hf1 hz'
        go_wp2_with fail
      rotate_left
      focus
        obtain ⟨b, off, rfl, c0⟩ := hk0 h1
        rw [Nat.add_zero] at c0
        subst h2
        clear hk0 hk1 hf0 hf1
        go_wp2_with fail
      rotate_left
      focus
        obtain ⟨b, off, rfl, c0⟩ := hk0 (by omega)
        rw [Nat.add_zero] at c0
        have q1 : k < N := by omega
        have q2 : (g0 != 0) = true := by simpa using h2
        have q3 : (g0 == 1) = false := by simpa using h3
        have q4 : decide ((N : Int) ≤ (k : Int) + 1) = true := by simp; omega
        have q5 : N ≤ k + 1 := by omega
        clear hk0 hk1 hf0 hf1 h1 h2 h3
        go_wp2_with fail
      rotate_left
      focus
        obtain ⟨b, off, rfl, c0⟩ := hk0 (by omega)
        obtain ⟨b', off', e, c1⟩ := hk1 (by omega)
        cases e
        rw [Nat.add_zero] at c0
        have q1 : k < N := by omega
        have q2 : (g0 != 0) = true := by simpa using h2
        have q3 : (g0 == 1) = false := by simpa using h3
        have q4 : decide ((N : Int) ≤ (k : Int) + 1) = false := by simp; omega
        have q5 : ¬ N ≤ k + 1 := by omega
        have q8 : k + 1 < N := by omega
        clear hk0 hk1 h2 h3
        rcases h4 with h4 | ⟨h4, h5⟩
        focus
          have q6 : decide (g1 < 2) = true := by simpa using h4
          clear h1
          go_wp2_with fail
        rotate_left
        focus
          have q6 : decide (g1 < 2) = false := by simp; omega
          have q7 : decide ((N : Int) - (k : Int) < g1) = true := by simpa using h5
          clear h1
          go_wp2_with fail
        rotate_left
      rotate_left
      all_goals
        go_loopw [3] (fun a wr => ∃ acc, pad4 acc = copiedL zs ∧ acc.length ≤ 100003 ∧ OB w.heap.size w wr a acc ∧ w.heap.size ≤ wr.heap.size) (fun a _ => (4 - lenV a % 4) % 4)
        case atStart => exact ⟨acc, by rw [HACC.out]; rfl, HACCL.out, HOB.out, hsz⟩
        case round =>
          rename_i wq _
          obtain ⟨bcc, hpad, hbl, hob2, hsz2⟩ := hrel
          obtain ⟨a, cap, rfl⟩ := hob2.slc
          have e2 : (((bcc.length : Nat) : Int) % 4 != 0) = decide (bcc.length % 4 ≠ 0) := by
            by_cases h : bcc.length % 4 = 0
            · have : ((bcc.length : Nat) : Int) % 4 = 0 := by omega
              simp [h, this]
            · have : ((bcc.length : Nat) : Int) % 4 ≠ 0 := by omega
              simp [h, this]
          by_cases h4 : bcc.length % 4 = 0
          · rw [pad4_done bcc h4] at hpad
            have q1 : decide (bcc.length % 4 ≠ 0) = false := by simp [h4]
            rw [q1] at e2
            have HP : Hid _ := hpad
            have HOB : Hid (OB w.heap.size w _ (.slice a bcc.length cap) bcc) := hob2
            have hbl' : bcc.length ≤ 140737488351232 := by omega
            clear hpad hob2 h4 q1
            generalize hN : bcc.length = N at *
            have HN : Hid _ := hN
            clear hN
            go_wp2
            go_ret
            exact ⟨_, rfl, by rw [← HP.out]; have := HOB.out.row (by rw [HP.out]; exact HCF.out) (by rw [HN.out]; exact hbl'); exact this, HOB.out.bel⟩
          · have hp4 := pad4_step bcc h4
            have q1 : decide (bcc.length % 4 ≠ 0) = true := by simp [h4]
            rw [q1] at e2
            obtain ⟨v', wy, hrun, hob3, hs3, _⟩ := hob2.lit hsz2 [0] #[.int .u8 0] rfl (fun z hz => by simp at hz; omega) (by simp; omega) 1 rfl 25
            have HR : Hid _ := hrun
            have HP : Hid _ := hp4.trans hpad
            have HOB : Hid (OB w.heap.size w wy v' (bcc ++ [0])) := hob3
            have HL4 : Hid (¬ bcc.length % 4 = 0) := h4
            clear hrun hob3 hob2 hpad hp4 h4 q1
            generalize hN : bcc.length = N at *
            have HN : Hid _ := hN
            clear hN
            go_wp2_with (at_builtin; refine wpList_append_run rfl _ _ _ _ rfl rfl rfl HR.out ?_; clear HR)
            refine ⟨⟨_, HP.out, Nat.le_trans (pad4_ge _ _ HP.out) HCL.out, HOB.out, hs3⟩, ?_⟩
            obtain ⟨a3, cap3, e3⟩ := HOB.out.slc
            rw [e3]
            simp [lenV, HN.out]
            have := HL4.out
            omega
    · have hst := optsC_step _ hn
      have hfl := firstN_le (zs.drop k)
      have hm := firstN_more _ hn
      rw [hdl] at hm hfl
      have hdd : (zs.drop k).drop (firstN (zs.drop k)) = zs.drop (k + firstN (zs.drop k)) := by rw [List.drop_drop]
      rw [hdd] at hst
      have HST : Hid _ := hst
      have HACC : Hid _ := hacc
      have HOB : Hid (OB w.heap.size w wr _ acc) := hob
      have hpos : 0 < zs.length := by omega
      obtain ⟨u1, hu1, hb1⟩ := cut_mid HH.out.cons hpos k (firstN (zs.drop k)) _ rfl (by omega) (by omega)
      have hk0 := hcell 0
      have hk1 := hcell 1
      have hf0 := hfg 0
      have hf1 := hfg 1
      rw [← gz_drop] at hf0 hf1
      have hLL : acc.length + ((zs.drop k).take (firstN (zs.drop k))).length ≤ 1000000 := by
        have h1 := congrArg List.length hacc
        have h2 := HOL.out
        simp only [List.length_append, List.length_take, hdl] at *
        omega
      have HU1 : Hid _ := hu1
      have HB1 : Hid (BS (fun b => b < w.heap.size) w u1 ((zs.drop k).take (firstN (zs.drop k)))) := hb1
      clear hcell hfg hacc hob hdl hst hdd hu1 hb1 HH
      generalize gz (zs.drop k) 0 = g0 at *
      generalize gz (zs.drop k) 1 = g1 at *
      generalize hT : (zs.drop k).take (firstN (zs.drop k)) = tk at *
      clear hT
      generalize firstN (zs.drop k) = fr at *
      have HZN : Hid (∀ k' : Nat, k' ≤ zs.length → k < k' → zs.length - k' < zs.length - k) := fun k' h1 h2 => by omega
      clear HOL
      generalize hN : zs.length = N at *
      have HN : Hid _ := hN
      clear hN
      rcases hm with ⟨h1, h2, h3⟩ | ⟨h1, h2, h3, h4, h5, h6⟩
      · obtain ⟨b, off, rfl, c0⟩ := hk0 (by omega)
        rw [Nat.add_zero] at c0
        subst h2 h3
        simp only [show ¬ ((128 : Int) ≤ 1) by decide, if_false, List.nil_append] at HST
        have q1 : k < N := by omega
        clear hk0 hk1 hf0 hf1 h1 hn
        go_wp2_with fail
        refine ⟨⟨k + 1, acc, by simp, by omega, ?_, HOB.out, hsz⟩, by simp [intOf]; omega⟩
        rw [← HST.out]; exact HACC.out
      · obtain ⟨b, off, rfl, c0⟩ := hk0 (by omega)
        obtain ⟨b', off', e, c1⟩ := hk1 (by omega)
        cases e
        rw [Nat.add_zero] at c0
        have q1 : k < N := by omega
        have q2 : (g0 != 0) = true := by simpa using h2
        have q3 : (g0 == 1) = false := by simpa using h3
        have q4 : decide ((N : Int) ≤ (k : Int) + 1) = false := by simp; omega
        have q5 : ¬ N ≤ k + 1 := by omega
        have q8 : k + 1 < N := by omega
        have q6 : decide (g1 < 2) = false := by simp; omega
        have q7 : decide ((N : Int) - (k : Int) < g1) = false := by simp; omega
        have HKF : Hid (k + fr ≤ N ∧ 0 < fr) := by constructor <;> omega
        subst h6
        have w1 : IntKind.i64.wrap ((k : Int) + (fr : Int)) = ((k + fr : Nat) : Int) := by rw [wrapi64 _ (by omega)]; omega
        have w2 : (k : Int) + (fr : Int) = ((k + fr : Nat) : Int) := by omega
        clear hk0 hk1 h1 h2 h3 h5 hn hfl
        by_cases h128 : 128 ≤ g0
        · have q9 : decide ((128 : Int) ≤ g0) = true := by simpa using h128
          simp only [if_pos h128] at HST
          obtain ⟨v', wy, hrun, hob3, hs3, _⟩ := HOB.out.app hsz (HB1.out.row.on HOB.out.bel).bytes hLL 25
          have HR : Hid _ := hrun
          have HOB3 : Hid (OB w.heap.size w wy v' (acc ++ tk)) := hob3
          clear hrun hob3
          generalize hKF : k + fr = kf at *
          have HKE : Hid _ := hKF
          clear hKF
          go_wp2_with first
            | (at_builtin; refine wpList_append_run rfl _ _ _ _ rfl rfl rfl HR.out ?_; clear HR)
            | ((with_reducible show wpList _ _ _ _ _ _); refine arm_slice rfl 25 (.tmp 62) (some (.tmp 63)) (some (.tmp 66)) rfl rfl rfl rfl (HU1.out _) ?_)
          refine ⟨⟨kf, acc ++ tk, rfl, HKF.out.1, ?_, HOB3.out, hs3⟩, ?_⟩
          · rw [List.append_assoc, ← HST.out]; exact HACC.out
          · have := HKF.out; have := HKE.out; simp [intOf]; omega
        · have q9 : decide ((128 : Int) ≤ g0) = false := by simpa using h128
          simp only [if_neg h128, List.nil_append] at HST
          generalize hKF : k + fr = kf at *
          have HKE : Hid _ := hKF
          clear hKF
          go_wp2_with fail
          refine ⟨⟨kf, acc, rfl, HKF.out.1, ?_, HOB.out, hsz⟩, ?_⟩
          · rw [← HST.out]; exact HACC.out
          · have := HKF.out; have := HKE.out; simp [intOf]; omega

end Go.Proofs.Ytackllcfnlhkpaa
