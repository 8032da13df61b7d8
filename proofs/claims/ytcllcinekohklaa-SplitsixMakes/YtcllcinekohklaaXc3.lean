/-
  The iterator gives up ahead of its loop.
-/
import Derived.Test.YtcllcinekohklaaXc2
import Derived.BigQuiet
namespace Go.Proofs.Ytcllcinekohklaa
open Go Go.RowKit Go.Shelf
set_option linter.unusedVariables false
set_option linter.unusedSimpArgs false
attribute [local go_sem] Oper.semAt_some

section
variable {f : F6} {g : G6} {vh vb : Value} {hs : Opts} {body : List Int} {mtu id : Int} {pv pm pi : Nat} {R : Nat → Prop} {w : World} (h : ItW f g vh vb hs body mtu id pv pm pi R w)
include h

set_option maxRecDepth 100000 in
set_option maxHeartbeats 8000000 in
theorem gives_arg (he : fitE f hs g body.length mtu = 0) (hf : fitB hs g body.length mtu = false) (hm : g.more = true) (h8 : body.length % 8 ≠ 0) (L : List FG) (hL : L = []) :
    GivesP Try.prog 44 #[.pointer (some ⟨pv, 0, none⟩), .pointer (some ⟨pm, 0, none⟩), .pointer (some ⟨pi, 0, none⟩)] L.length (FragX f vh hs L) R w (some 1) := by
  subst hL
  intro l J W O hWw hWR hO hJ hY h0 n
  refine callsIn_wide.2 ((callsIn_wide (n := 9)).1 ?_)
  have hW := h.on hWw hWR
  have HL : Hid _ := vb_load hW.v
  have km := blk_cell hW.m (j := 0) rfl
  have hC := fits_yes g mtu hW.dd he
  rw [hf] at hC
  have HC : Hid _ := hC
  have HJ : Hid (∀ B, Below W.heap.size W B → J 0 O B) := fun B hB => hJ 0 O W B h0 (Sep.of_below hB)
  have hbl : body.length ≤ 70000 := by have := (ck_zero (fitE_zero he).1).2; omega
  obtain ⟨_, _, ba, bc, hvb, _⟩ := hW.dd.bd.row
  have H39 : Hid (∀ B, Below W.heap.size W B → B.cell? ⟨pv, 39, none⟩ = some (.bool true)) := fun B hB => by rw [vb39 (blk_on hW.v hB), hm]
  have H41 : Hid (∀ B, Below W.heap.size W B → B.cell? ⟨pv, 41, none⟩ = some (.slice ba body.length bc)) := fun B hB => by rw [vb41 (blk_on hW.v hB), hvb]
  clear hW h hO hJ hY h0 hWR he hC hf hm
  generalize hNN : body.length = nb at *
  have q8 : ((nb : Int) % 8 == 0) = false := by simp; omega
  clear hNN h8 hvb
  refine callsIn_of_wp Try.func44 rfl trivial ?_ rfl
  simp only [Try.ntmps44, List.size_toArray, List.length_cons, List.length_nil, Nat.reduceAdd, Nat.reduceSub, Array.replicate_succ, Array.replicate_zero, List.push_toArray, List.append_toArray, List.nil_append, List.cons_append]
  gi_wp2_with ((with_reducible show wpListIn _ _ _ _ _ _ _ _); refine armLI (.tmp 1) 28 rfl rfl rfl HL.out ?_)
  refine ⟨trivial, (callsIn_wide.2 HC.out).mono ?_⟩
  rintro e w2 ⟨rfl, hb2⟩
  have k39 := H39.out _ hb2
  have k41 := H41.out _ hb2
  have HJ2 : Hid (J 0 O w2) := HJ.out _ hb2
  clear hb2 HC HL H39 H41 HJ km
  gi_wp2_with fail
  refine ⟨trivial, (callsIn_wide.2 (must_bad _ _)).mono ?_⟩
  rintro e w3 ⟨rfl, hw⟩
  obtain rfl := hw.symm
  exact ⟨rfl, rfl, O, HJ2.out⟩

set_option maxRecDepth 100000 in
set_option maxHeartbeats 8000000 in
theorem gives_space (he : fitE f hs g body.length mtu = 0) (hf : fitB hs g body.length mtu = false) (hm : ¬ (g.more = true ∧ body.length % 8 ≠ 0)) (hsp : mtu < (ahead6 hs true : Int) + 8) (L : List FG) (hL : L = []) :
    GivesP Try.prog 44 #[.pointer (some ⟨pv, 0, none⟩), .pointer (some ⟨pm, 0, none⟩), .pointer (some ⟨pi, 0, none⟩)] L.length (FragX f vh hs L) R w (some 141) := by
  subst hL
  intro l J W O hWw hWR hO hJ hY h0 n
  refine callsIn_wide.2 ((callsIn_wide (n := 9)).1 ?_)
  have hW := h.on hWw hWR
  have HL : Hid _ := vb_load hW.v
  have km := blk_cell hW.m (j := 0) rfl
  have hC := fits_yes g mtu hW.dd he
  rw [hf] at hC
  have HC : Hid _ := hC
  have HJ : Hid (∀ B, Below W.heap.size W B → J 0 O B) := fun B hB => hJ 0 O W B h0 (Sep.of_below hB)
  have hbl : body.length ≤ 70000 := by have := (ck_zero (fitE_zero he).1).2; omega
  have h0c := (fitE_zero he).1
  have HCK : Hid (ckE f hs g body.length = 0) := h0c
  have hmt := (fitE_zero he).2
  obtain ⟨_, _, ba, bc, hvb, _⟩ := hW.dd.bd.row
  have H39 : Hid (∀ B, Below W.heap.size W B → B.cell? ⟨pv, 39, none⟩ = some (.bool g.more)) := fun B hB => vb39 (blk_on hW.v hB)
  have H41 : Hid (∀ B, Below W.heap.size W B → B.cell? ⟨pv, 41, none⟩ = some (.slice ba body.length bc)) := fun B hB => by rw [vb41 (blk_on hW.v hB), hvb]
  have HW : Hid _ := hW
  have hA8 := ahead6_le true (ck_zero h0c).1.2.1
  obtain ⟨A, hAe⟩ : ∃ A, A = ahead6 hs true := ⟨_, rfl⟩
  have HAE : Hid (ahead6 hs true = A) := hAe.symm
  rw [← hAe] at hA8 hsp
  have HNB : Hid _ := hvb
  clear hW h hO hJ hY h0 hWR he hC hf hAe hvb
  have q8 : g.more = false ∨ ((body.length : Int) % 8 == 0) = true := by
    by_cases c : g.more = true
    · exact .inr (by by_cases d : body.length % 8 = 0; · simp; omega
                     · exact absurd ⟨c, d⟩ hm)
    · exact .inl (by simpa using c)
  clear hm
  generalize body.length = nb at h0c hbl H41 q8 km HC
  have q7 : decide ((8 : Int) ≤ mtu - A) = false := by simp; omega
  have v7 : IntKind.i64.wrap (mtu - A) = mtu - A := wrapi64 _ (by omega)
  refine callsIn_of_wp Try.func44 rfl trivial ?_ rfl
  simp only [Try.ntmps44, List.size_toArray, List.length_cons, List.length_nil, Nat.reduceAdd, Nat.reduceSub, Array.replicate_succ, Array.replicate_zero, List.push_toArray, List.append_toArray, List.nil_append, List.cons_append]
  gi_wp2_with ((with_reducible show wpListIn _ _ _ _ _ _ _ _); refine armLI (.tmp 1) 28 rfl rfl rfl HL.out ?_)
  refine ⟨trivial, (callsIn_wide.2 HC.out).mono ?_⟩
  rintro e w2 ⟨rfl, hb2⟩
  have k39 := H39.out _ hb2
  have k41 := H41.out _ hb2
  have HW2 : Hid _ := HW.out.up hb2
  have HBW : Hid (Below W.heap.size W w2) := hb2
  have HLA : Hid (∀ x : Hi w2, (Instr.loadAt 28 (.pointer (some ⟨pv, 0, none⟩))).run Try.prog x.W = .ok (VV f g vh vb) x.W) := fun x => vb_load (blk_on HW2.out.v x.below)
  have hKM : ∀ x : Hi w2, x.W.cell? ⟨pm, 0, none⟩ = some (.int .i64 mtu) := fun x => blk_cell (blk_on HW2.out.m x.below) (j := 0) rfl
  have HHD : Hid (∀ x : Hi w2, Calls Try.prog 45 #[VV f g vh vb] x.W fun e w' => e = .returned (.int .i64 (A : Int)) ∧ Below x.W.heap.size x.W w') := fun x => by
    have := heads_calls g (HW2.out.dd.on x.below) HCK.out
    rw [HAE.out] at this
    exact this
  clear hb2 HC HL H39 H41 km HW HAE
  clear h0c HCK
  rcases q8 with q8 | q8
  · rw [q8] at k39
    gi_wp2_with fail
    refine ⟨trivial, (callsIn_wide.2 (must_good _ _)).mono ?_⟩
    rintro e w3 ⟨rfl, hw⟩
    obtain rfl := hw.symm
    clear hw
    gi_wp2_with fail
    refine wpIn_wide.2 ?_
    refine wp_region_hi (by kernel_rfl) (by kernel_rfl) ?_
    repeat (first
      | go_big_quiet_skip
      | (go_big_quiet_want; refine hi_load (.tmp 1) 28 rfl rfl HLA.out ?_; simp only [Act.put, List.setIfInBounds_toArray, List.set_cons_zero, List.set_cons_succ]; go_big_quiet_on)
      | (go_big_quiet_want; go_big_quiet_op; first | go_big_quiet_on | go_big_quiet_call (first | (go_at_call 45; with_reducible exact Hi.calls (HHD.out _)))))
    refine wpQuiet_nil ?_
    intro _ hw
    obtain ⟨y, rfl⟩ := hw
    have HWY : Hid _ := HW2.out.up y.below
    have HBY : Hid (Below W.heap.size W y.W) := HBW.out.trans (y.below.mono HBW.out.size)
    clear HLA hKM HHD HW2 HBW k39 k41
    generalize hyW : y.W = w4 at *
    clear hyW
    gi_wp2_with fail
    refine ⟨trivial, (callsIn_wide.2 (must_bad _ _)).mono ?_⟩
    rintro e w5 ⟨rfl, hw⟩
    obtain rfl := hw.symm
    exact ⟨rfl, rfl, O, HJ.out _ HBY.out⟩
  · cases hgm : g.more
    all_goals
      rw [hgm] at k39
      gi_wp2_with fail
      refine ⟨trivial, (callsIn_wide.2 (must_good _ _)).mono ?_⟩
      rintro e w3 ⟨rfl, hw⟩
      obtain rfl := hw.symm
      clear hw
      gi_wp2_with fail
      refine wpIn_wide.2 ?_
      refine wp_region_hi (by kernel_rfl) (by kernel_rfl) ?_
      repeat (first
        | go_big_quiet_skip
        | (go_big_quiet_want; refine hi_load (.tmp 1) 28 rfl rfl HLA.out ?_; simp only [Act.put, List.setIfInBounds_toArray, List.set_cons_zero, List.set_cons_succ]; go_big_quiet_on)
        | (go_big_quiet_want; go_big_quiet_op; first | go_big_quiet_on | go_big_quiet_call (first | (go_at_call 45; with_reducible exact Hi.calls (HHD.out _)))))
      refine wpQuiet_nil ?_
      intro _ hw
      obtain ⟨y, rfl⟩ := hw
      have HWY : Hid _ := HW2.out.up y.below
      have HBY : Hid (Below W.heap.size W y.W) := HBW.out.trans (y.below.mono HBW.out.size)
      clear HLA hKM HHD HW2 HBW k39 k41
      generalize hyW : y.W = w4 at *
      clear hyW
      gi_wp2_with fail
      refine ⟨trivial, (callsIn_wide.2 (must_bad _ _)).mono ?_⟩
      rintro e w5 ⟨rfl, hw⟩
      obtain rfl := hw.symm
      exact ⟨rfl, rfl, O, HJ.out _ HBY.out⟩
end

end Go.Proofs.Ytcllcinekohklaa
