/-
  alive of the statements of split.
-/
import Derived.Test.YtackllcfnlhkpaaVb2
namespace Go.Proofs.Ytackllcfnlhkpaa
open Go Go.RowKit Go.Shelf
set_option linter.unusedVariables false
set_option linter.unusedSimpArgs false

def f0 : Fd := ⟨0, 0, false, 9, 17, 0, 0, 0, 0, 0, 0, 0, 0⟩
theorem frag0 : fragL false 0 [] (List.replicate 60 0) 68 = [⟨0, true, [], List.replicate 48 0⟩, ⟨6, false, [], List.replicate 12 0⟩] := by rfl
theorem ref0 : refE f0.df false 0 [] (List.replicate 60 0) 68 = 0 := by rfl

set_option maxHeartbeats 2000000 in
set_option maxRecDepth 100000 in
theorem alive_calls (w : World) : Calls Try.prog 16 #[] w fun e w' => e = .returned (.bool true) ∧ Below w.heap.size w w' := by
  obtain ⟨i, hi, hz0, hs, hby⟩ := info_parts info_u8
  have HSP : Hid (∀ W u, RowC W u (List.replicate 60 0) → Calls Try.prog 9 #[VV f0 false 0 (.slice none 0 0) u, .int .i64 68] W fun e w' => ∃ v, e = .returned (.tuple #[v, .int .i64 0]) ∧ RowV f0 W.heap.size (fun b => W.heap.size ≤ b) w' v [⟨0, true, [], List.replicate 48 0⟩, ⟨6, false, [], List.replicate 12 0⟩] ∧ Below W.heap.size W w') := fun W u hu => by
    have := Split_yes f0 false 0 (.slice none 0 0) u [] (List.replicate 60 0) 68 W (.empty W) hu (by omega) (by omega) ref0
    rw [frag0] at this
    exact this
  unfold vC f0 at HSP
  go_enter Try.func16, Try.ntmps16
  go_wp2_with (at_make; refine wpList_make_full _ rfl _ _ _ rfl w.heap.size 5 i (.int .u8 0) 1 Try.underlying25 hi hz0 hs .i64 .i64 _ _ 60 rfl rfl rfl rfl (by rw [hby]; decide) (by unfold maxLen; decide) (Nat.le_refl _) ?_; intro w4 hown hgr; have hG4 := made_own hown; have hB4 := (Below.refl _ w).grown hgr (Nat.le_refl _) (fun k hk => by cases hk); have hrw : RowC w4 (.slice (some ⟨w.heap.size, 0, none⟩) 60 60) (List.replicate 60 0) := (by have := hG4.row (by intro z hz; rw [(List.mem_replicate.1 hz).2]; omega) (by simp) 60 60 (by simp) (Nat.le_refl _); simpa using this))
  refine Calls.mono (HSP.out w4 _ hrw) ?_
  rintro e w5 ⟨v, rfl, hrow, hB5⟩
  obtain ⟨b, c, so0, sb0, hv, _, _, hc0, _, hb0⟩ := hrow.at (j := 0) rfl
  obtain ⟨b', c', so1, sb1, hv', _, _, hc1, _, hb1⟩ := hrow.at (j := 1) rfl
  rw [hv] at hv'
  injection hv' with e1 e2 e3
  injection e1 with e1
  injection e1 with e1
  subst e1
  subst hv
  obtain ⟨_, _, a0, k0, rfl, _⟩ := hb0.row
  obtain ⟨_, _, a1, k1, rfl, _⟩ := hb1.row
  simp only [List.length_replicate] at *
  have c16 : w5.cell? ⟨b, 16, none⟩ = some (.slice a0 48 k0) := hc0 16 _ rfl
  have c3 : w5.cell? ⟨b, 3, none⟩ = some (.bool true) := hc0 3 _ rfl
  have c33 : w5.cell? ⟨b, 33, none⟩ = some (.slice a1 12 k1) := hc1 16 _ rfl
  have c20 : w5.cell? ⟨b, 20, none⟩ = some (.bool false) := hc1 3 _ rfl
  have c21 : w5.cell? ⟨b, 21, none⟩ = some (.int .i64 6) := hc1 4 _ rfl
  have HB : Hid (Below w.heap.size w w5) := hB4.trans (hB5.mono hB4.size)
  clear hc0 hc1 hb0 hb1 hrow hB5 HSP hrw hG4 hB4 hown hgr hi hz0 hs hby
  go_wp2
  go_ret
  exact ⟨rfl, HB.out⟩

end Go.Proofs.Ytackllcfnlhkpaa
