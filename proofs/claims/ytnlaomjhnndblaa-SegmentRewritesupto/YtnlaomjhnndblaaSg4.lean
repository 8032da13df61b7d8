/-
  slices.Grow and slices.Concat of bytes.
-/
import Derived.Test.YtnlaomjhnndblaaSg3
namespace Go.Proofs.Ytnlaomjhnndblaa
open Go Go.RowKit Go.Shelf
set_option linter.unusedVariables false
set_option linter.unusedSimpArgs false

set_option maxHeartbeats 1000000 in
set_option maxRecDepth 100000 in
theorem Grow_calls (n : Nat) (hn : n ≤ 1000000) (w : World) :
    Calls Try.prog 85 #[.slice none 0 0, .int .i64 n] w fun e w' => ∃ v, e = .returned v ∧ OB w.heap.size w w' v [] := by
  obtain ⟨i, hi, hz, hs, hby⟩ := info_parts info_u8
  by_cases h0 : n = 0
  · subst h0
    go_enter Try.func85, Try.ntmps85
    go_wp2
    go_ret
    exact ⟨_, rfl, World.ownsRow_nil _ _ _ _, Below.refl _ _⟩
  · have hrz := fun ty => Lib.run_append_grow_zeros (P := Try.prog) w 29 3 ty 5 i (.int .u8 0) .i64 .i64 Try.underlying29 Try.underlying3 hi hz none 0 0 [] (run_firstCells_none w.drew i.size 0 0 0) n (by omega) (by rw [hs]; decide) (by omega) (by omega) (by rw [hby]; omega) (growslice_fits (by omega) (by rw [hby]; omega))
    simp only [Nat.zero_add] at hrz
    have hG : n ≤ grownCap w n 0 5 := grownCap_ge w _ _ _
    have hGm : grownCap w n 0 5 ≤ maxLen := grownCap_le_maxLen w n 0 5 (by unfold maxLen; omega)
    generalize grownCap w n 0 5 = G at *
    have hown : (w.drew.alloc (.cells (([] : List Value).toArray ++ Builtin.zeroCells (Value.int .u8 0).cells n ++ Builtin.zeroCells (Value.int .u8 0).cells (G - n)) 5)).ownsRow w.heap.size 5 1 (.slice (some ⟨w.heap.size, 0, none⟩) 0 G) 0 [] :=
      ⟨rfl, .inr ⟨w.heap.size, G, _, rfl, Nat.le_refl _, World.alloc_heap_new w.drew _, Nat.zero_le _, hGm, by simp [size_zeroCells, Value.cells]; omega, by simp⟩⟩
    have hbel : Below w.heap.size w (w.drew.alloc (.cells (([] : List Value).toArray ++ Builtin.zeroCells (Value.int .u8 0).cells n ++ Builtin.zeroCells (Value.int .u8 0).cells (G - n)) 5)) := ((Below.refl _ w).drew).alloc (Nat.le_refl _) _
    generalize w.drew.alloc (.cells (([] : List Value).toArray ++ Builtin.zeroCells (Value.int .u8 0).cells n ++ Builtin.zeroCells (Value.int .u8 0).cells (G - n)) 5) = W1 at *
    have HR : Hid _ := hrz
    have HO : Hid (OB w.heap.size w W1 (.slice (some ⟨w.heap.size, 0, none⟩) 0 G) []) := ⟨hown, hbel⟩
    have hGm' : G ≤ 9223372036854775807 := by unfold maxLen at hGm; omega
    clear hrz hown hbel hGm
    go_enter Try.func85, Try.ntmps85
    go_wp2_with (at_builtin; refine wpList_append_run rfl _ _ _ _ rfl rfl rfl (HR.out _) ?_)
    go_ret
    exact ⟨_, rfl, HO.out⟩

theorem flat_take (ps : List (List Int)) (k : Nat) (h : k < ps.length) : (ps.take (k + 1)).flatten = (ps.take k).flatten ++ (ps[k]?.getD []) := by
  rw [List.take_succ_eq_append_getElem h, List.flatten_append]
  simp [h]
set_option maxHeartbeats 1000000 in
set_option maxRecDepth 100000 in
theorem Concat_calls (v : Value) (ps : List (List Int)) (w : World) (hv : PartsAt w.heap.size w v ps) (hn : ps.length ≤ 100) (ht : ps.flatten.length ≤ 1000000) :
    Calls Try.prog 72 #[v] w fun e w' => ∃ v', e = .returned v' ∧ OB w.heap.size w w' v' ps.flatten := by
  obtain ⟨hlen, a, cap, rfl, hz⟩ := hv
  have HG : Hid _ := Grow_calls ps.flatten.length ht
  have hpa := pre_all ps
  have hps := pre_succ ps
  have hpl := pre_le ps
  have HFT : Hid _ := flat_take ps
  have HALL : Hid (ps.take ps.length = ps) := List.take_length
  have HPRE : Hid (∀ k, (ps.take k).flatten.length = pre ps k) := fun k => rfl
  clear hlen
  generalize hf : ps.flatten = f at *
  have HPA : Hid _ := hpa
  have HPS : Hid _ := hps
  have HPL : Hid _ := hpl
  have HF : Hid _ := hf
  generalize hN : ps.length = N at *
  have HN : Hid _ := hN
  clear hpa hps hpl hf hN
  go_enter Try.func72, Try.ntmps72
  go_wp2
  go_loopw [3, 11] (fun n i wr => ∃ k : Nat, k ≤ N ∧ i = .int .i64 k ∧ n = .int .i64 (pre ps k : Nat) ∧ w = wr) (fun _ i _ => N - (intOf i).toNat)
  case atStart => exact ⟨0, Nat.zero_le _, rfl, by simp [pre_zero], rfl⟩
  case round =>
    obtain ⟨k, hk, rfl, rfl, rfl⟩ := hrel
    have hplk := HPL.out k
    by_cases hlt : k < N
    · rcases hz with hz | ⟨b, off, rfl, hbn, hc⟩
      · omega
      obtain ⟨u, hu, hb⟩ := hc k hlt
      obtain ⟨a2, c2, rfl, _⟩ := hb.val
      have hsn := HPS.out k hlt
      have hpl2 := HPL.out (k + 1)
      generalize (ps[k]?.getD []).length = m at *
      have hb2 : pre ps k + m ≤ 1000000 := by omega
      have HSN : Hid (pre ps (k + 1) = pre ps k + m) := hsn
      clear hsn hc hb hpl2
      generalize pre ps k = P0 at *
      go_wp2
      exact ⟨⟨k + 1, by omega, by simp, by have := HSN.out; simp; omega, trivial⟩, by simp [intOf]; omega⟩
    · obtain rfl : k = N := by omega
      have e1 := HPA.out
      rw [e1]
      clear hplk e1
      go_wp2_with fail
      refine Calls.mono (HG.out w) ?_
      rintro _ w1 ⟨v1, rfl, h1⟩
      go_wp2
      go_loopw [6, 27] (fun v i wx => ∃ j : Nat, j ≤ k ∧ i = .int .i64 j ∧ OB w.heap.size w wx v (ps.take j).flatten) (fun _ i _ => k - (intOf i).toNat)
      case atStart => exact ⟨0, Nat.zero_le _, rfl, by simpa using h1⟩
      case round =>
        clear h1
        obtain ⟨j, hj, rfl, hO⟩ := hrel
        have hsz := hO.bel.size
        by_cases hlt2 : j < k
        · rcases hz with hz | ⟨b, off, rfl, hbn, hc⟩
          · omega
          obtain ⟨u, hu, hb⟩ := hc j hlt2
          have hu' := (hO.bel.cell (p := ⟨b, off + j, none⟩) hbn).trans hu
          have hft := HFT.out j hlt2
          have hpr := HPRE.out j
          have hsn := HPS.out j hlt2
          have hpl2 := HPL.out (j + 1)
          have hbb := hb.below hO.bel
          obtain ⟨a2, c2, rfl, hbz⟩ := hb.val
          have hbb' : BytesAt wr.heap.size wr (.slice a2 (ps[j]?.getD []).length c2) (ps[j]?.getD []) := by
            obtain ⟨q1, q2, q3, q4, q5, q6⟩ := hbb
            refine ⟨q1, q2, q3, q4, q5, q6.imp id ?_⟩
            rintro ⟨bb, oo, e, hl, hc⟩
            exact ⟨bb, oo, e, by omega, hc⟩
          obtain ⟨v2, w2, hr, h2, hs2, _⟩ := hO.app hsz hbb' (by rw [hpr]; omega) 29
          rw [← hft] at h2
          have HR : Hid _ := hr
          have H2 : Hid _ := h2
          generalize (ps[j]?.getD []).length = m at *
          clear hr h2 hO hc hbb hbb' hft hpr hsn hpl2 hb hbz hu
          go_wp2_with (at_builtin; refine wpList_append_run rfl _ _ _ _ rfl rfl rfl HR.out ?_)
          exact ⟨⟨j + 1, by omega, by simp, H2.out⟩, by simp [intOf]; omega⟩
        · obtain rfl : j = k := by omega
          rw [HALL.out, HF.out] at hO
          have H : Hid _ := hO
          clear hO
          go_wp2
          go_ret
          exact ⟨_, rfl, H.out⟩

end Go.Proofs.Ytnlaomjhnndblaa
