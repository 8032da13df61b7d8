/-
  Package embed: the document's Check and place; places.
-/
import Derived.Test.YtfiiopgdgfbkkaaDoorQc1
namespace Go.Proofs.YtfiiopgdgfbkkaaDoor
set_option linter.unusedVariables false
set_option linter.unusedSimpArgs false
open Go Go.RowKit

section
set_option maxHeartbeats 2000000
set_option maxRecDepth 100000
theorem RCheckE_any (l : List Int) (n : Int) (w : World) (hf : FitB l) (hl : l.length = 16) (hb : -9223372036854775808 ≤ n ∧ n ≤ 9223372036854775807) :
    Calls Tryd.prog 14 #[P6 l n] w fun e w' => e = .returned (.int .i64 (chkE l n)) ∧ Below w.heap.size w w' := by
  have hck := fun W => RCheck6_calls l n W hf hl hb
  have hb0 := blk_new w (.cells (cp6 l n).toArray 25)
  have hB0 := (Below.refl w.heap.size w).alloc (Nat.le_refl _) (.cells (cp6 l n).toArray 25)
  have HL : Hid _ := loadP6 hl (CellsAt.pfx hl hb0).1
  have hx8 : 0 ≤ l.getD 8 0 ∧ l.getD 8 0 < 256 := by
    have hx : l[8]? = some (l[8]'(by omega)) := by simp [hl]
    rw [List.getD_eq_getElem?_getD, hx]
    exact hf _ (List.getElem_mem _)
  by_cases h1 : okP6 l n = true
  · rw [h1] at hck
    simp only [if_true] at hck
    have HC : Hid _ := hck
    clear hck
    cases h2 : lenOk n with
    | false =>
      have eE : chkE l n = 80 := by unfold chkE; rw [if_neg (by rw [h1]; simp), if_pos h2]
      rw [eE]
      obtain ⟨q1, q2, q3, q4, q5, q6⟩ := lenOk_ne h2
      clear h2 eE h1
      go_enter Tryd.func14, Tryd.ntmps14
      go_wp2_with ((with_reducible show wpList _ _ _ _ _ _); refine armL (.tmp 1) 25 rfl rfl rfl HL.out ?_)
      refine (HC.out _).mono ?_
      rintro e w1 ⟨rfl, hB1⟩
      have hb1 := (hB1.block w.heap.size (by simp)).trans hb0
      have c16 := (CellsAt.pfx hl hb1).2.2
      have hBw := hB0.trans (hB1.mono (by simp))
      clear hb0 hB0 hB1 hb1 HC HL
      go_wp2
      go_ret
      exact ⟨rfl, hBw⟩
    | true =>
      have hsix := lenOk_six h2
      by_cases h3 : l.getD 8 0 = 0
      · have eE : chkE l n = 0 := by unfold chkE; rw [if_neg (by rw [h1]; simp), if_neg (by rw [h2]; simp), if_neg (by simpa using h3)]
        rw [eE]
        have q8 : (l.getD 8 0 != 0) = false := by simpa using h3
        clear h2 eE h1 h3
        go_enter Tryd.func14, Tryd.ntmps14
        go_wp2_with ((with_reducible show wpList _ _ _ _ _ _); refine armL (.tmp 1) 25 rfl rfl rfl HL.out ?_)
        refine (HC.out _).mono ?_
        rintro e w1 ⟨rfl, hB1⟩
        have hb1 := (hB1.block w.heap.size (by simp)).trans hb0
        have c16 := (CellsAt.pfx hl hb1).2.2
        have c8 := pfx_cell hl hb1 8 (by decide)
        have hBw := hB0.trans (hB1.mono (by simp))
        clear hb0 hB0 hB1 hb1 HC HL
        generalize l.getD 8 0 = x8 at *
        rcases hsix with rfl | rfl | rfl | rfl | rfl | rfl
        all_goals
          go_wp2
          go_ret
          exact ⟨rfl, hBw⟩
      · have eE : chkE l n = 81 := by unfold chkE; rw [if_neg (by rw [h1]; simp), if_neg (by rw [h2]; simp), if_pos h3]
        rw [eE]
        have q8 : (l.getD 8 0 != 0) = true := by simpa using h3
        clear h2 eE h1 h3
        go_enter Tryd.func14, Tryd.ntmps14
        go_wp2_with ((with_reducible show wpList _ _ _ _ _ _); refine armL (.tmp 1) 25 rfl rfl rfl HL.out ?_)
        refine (HC.out _).mono ?_
        rintro e w1 ⟨rfl, hB1⟩
        have hb1 := (hB1.block w.heap.size (by simp)).trans hb0
        have c16 := (CellsAt.pfx hl hb1).2.2
        have c8 := pfx_cell hl hb1 8 (by decide)
        have hBw := hB0.trans (hB1.mono (by simp))
        clear hb0 hB0 hB1 hb1 HC HL
        generalize l.getD 8 0 = x8 at *
        rcases hsix with rfl | rfl | rfl | rfl | rfl | rfl
        all_goals
          go_wp2
          go_ret
          exact ⟨rfl, hBw⟩
  · have h1f : okP6 l n = false := by simpa using h1
    rw [h1f] at hck
    have HC : Hid _ := hck
    have eE : chkE l n = 22 := by unfold chkE; rw [if_pos h1f]
    rw [eE]
    clear hck eE h1
    simp only [Bool.false_eq_true, if_false] at HC
    go_enter Tryd.func14, Tryd.ntmps14
    go_wp2_with ((with_reducible show wpList _ _ _ _ _ _); refine armL (.tmp 1) 25 rfl rfl rfl HL.out ?_)
    refine (HC.out _).mono ?_
    rintro e w1 ⟨rfl, hB1⟩
    have hBw := hB0.trans (hB1.mono (by simp))
    clear hb0 hB0 hB1 HC HL
    go_wp2
    go_ret
    exact ⟨rfl, hBw⟩
end


/-- The bytes that an IPv4 address takes. -/
def plc (n : Int) : List Nat := if n = 32 then [4, 5, 6, 7] else if n = 40 then [5, 6, 7, 9] else if n = 48 then [6, 7, 9, 10] else if n = 56 then [7, 9, 10, 11] else if n = 64 then [9, 10, 11, 12] else [12, 13, 14, 15]
abbrev plV (ps : List Nat) : List Value := ps.map (fun p => Value.int .i64 (p : Nat))

set_option maxHeartbeats 2000000 in
set_option maxRecDepth 100000 in
theorem places_any (n : Int) (w : World) (h : lenOk n = true) : Calls Tryd.prog 28 #[.int .i64 n] w fun e w' => e = .returned (.agg (plV (plc n)).toArray) ∧ Below w.heap.size w w' := by
  have hsix := lenOk_six h
  clear h
  rcases hsix with rfl | rfl | rfl | rfl | rfl | rfl
  all_goals
    go_enter Tryd.func28, Tryd.ntmps28
    go_wp2
    go_rounds 5
    go_wp2
    exact bodyPost_ret (res_cell1 Tryd.results28 rfl (agg_loadVar Tryd.isAgg51 Tryd.sizeOf51 rfl (CellsAt.of_blk (blk_alloc (blk_new w _) _)))) rfl ⟨rfl, ((Below.refl _ w).alloc (Nat.le_refl _) _).alloc (by simp) _⟩

theorem place_ref (n i : Int) (w : World) (hn : 0 ≤ n ∧ n ≤ 128) (hi : 0 ≤ i ∧ i ≤ 32) : Calls Tryd.prog 29 #[.int .i64 n, .int .i64 i] w fun e w' => e = .returned (.int .i64 (if n ≤ 64 ∧ 64 ≤ n + i then n + i + 8 else n + i)) ∧ w' = w := by
  by_cases h1 : n ≤ 64
  · by_cases h2 : 64 ≤ n + i
    · rw [if_pos ⟨h1, h2⟩]
      go_enter Tryd.func29, Tryd.ntmps29
      go_wp2
      go_ret
      exact ⟨rfl, rfl⟩
    · rw [if_neg (fun h => h2 h.2)]
      go_enter Tryd.func29, Tryd.ntmps29
      go_wp2
      go_ret
      exact ⟨rfl, rfl⟩
  · rw [if_neg (fun h => h1 h.1)]
    go_enter Tryd.func29, Tryd.ntmps29
    go_wp2
    go_ret
    exact ⟨rfl, rfl⟩

end Go.Proofs.YtfiiopgdgfbkkaaDoor
