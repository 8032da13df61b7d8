/-
  Package embed: Check of both sides, places.
-/
import Derived.Test.YtfiiopgdgfbkkaaDoorSixM
import Derived.Test.YtfiiopgdgfbkkaaDoorQbx
import Derived.Handy
namespace Go.Proofs.YtfiiopgdgfbkkaaDoor
set_option linter.unusedVariables false
set_option linter.unusedSimpArgs false
open Go Go.RowKit

def lenOk (n : Int) : Bool := n == 32 || n == 40 || n == 48 || n == 56 || n == 64 || n == 96
def chkE (l : List Int) (n : Int) : Int := if okP6 l n = false then 22 else if lenOk n = false then 80 else if l.getD 8 0 ≠ 0 then 81 else 0

theorem lenOk_six {n : Int} (h : lenOk n = true) : n = 32 ∨ n = 40 ∨ n = 48 ∨ n = 56 ∨ n = 64 ∨ n = 96 := by
  simp [lenOk] at h
  omega
theorem lenOk_not {n : Int} (h : lenOk n = false) : (n == 32) = false ∧ (n == 40) = false ∧ (n == 48) = false ∧ (n == 56) = false ∧ (n == 64) = false ∧ (n == 96) = false := by
  simp only [lenOk, Bool.or_eq_false_iff] at h
  obtain ⟨⟨⟨⟨⟨h1, h2⟩, h3⟩, h4⟩, h5⟩, h6⟩ := h
  exact ⟨h1, h2, h3, h4, h5, h6⟩
theorem lenOk_ne {n : Int} (h : lenOk n = false) : (n != 32) = true ∧ (n != 40) = true ∧ (n != 48) = true ∧ (n != 56) = true ∧ (n != 64) = true ∧ (n != 96) = true := by
  obtain ⟨h1, h2, h3, h4, h5, h6⟩ := lenOk_not h
  simp only [bne, h1, h2, h3, h4, h5, h6]
  simp

theorem pfx_cell {w : World} {b : Nat} {l : List Int} {n : Int} {t : TypeId} (hl : l.length = 16) (h : w.heap[b]? = some (.cells (cp6 l n).toArray t)) (j : Nat) (hj : j < 16) : w.cell? ⟨b, j, none⟩ = some (.int .u8 (l.getD j 0)) := by
  have hc := (CellsAt.pfx hl h).2.1 j (.int .u8 (l.getD j 0)) (by
    have hx : l[j]? = some (l[j]'(by omega)) := by simp [hl, hj]
    rw [u8s, List.getElem?_map, hx, List.getD_eq_getElem?_getD, hx]
    rfl)
  rw [Nat.zero_add] at hc
  exact hc

section
set_option maxHeartbeats 2000000
set_option maxRecDepth 100000
theorem Check_any (l : List Int) (n : Int) (w : World) (hf : FitB l) (hl : l.length = 16) (hb : -9223372036854775808 ≤ n ∧ n ≤ 9223372036854775807) :
    Calls Tryd.prog 13 #[P6 l n] w fun e w' => e = .returned (.int .i64 (chkE l n)) ∧ Below w.heap.size w w' := by
  have hck := fun W => Check6_calls l n W hf hl hb
  have hb0 := blk_new w (.cells (cp6 l n).toArray 25)
  have hB0 := (Below.refl w.heap.size w).alloc (Nat.le_refl _) (.cells (cp6 l n).toArray 25)
  have HL : Hid _ := loadP6 hl (CellsAt.pfx hl hb0).1
  have hx8 : 0 ≤ l.getD 8 0 ∧ l.getD 8 0 < 256 := by
    have hx : l[8]? = some (l[8]'(by omega)) := by simp [hl]
    rw [List.getD_eq_getElem?_getD, hx]
    exact hf _ (List.getElem_mem _)
  by_cases h1 : okP6 l n = true
  · rw [h1] at hck
    simp only [if_true] at hck
    have HC : Hid _ := hck
    clear hck
    cases h2 : lenOk n with
    | false =>
      have eE : chkE l n = 80 := by unfold chkE; rw [if_neg (by rw [h1]; simp), if_pos h2]
      rw [eE]
      obtain ⟨q1, q2, q3, q4, q5, q6⟩ := lenOk_not h2
      clear h2 eE h1
      go_enter Tryd.func13, Tryd.ntmps13
      go_wp2_with ((with_reducible show wpList _ _ _ _ _ _); refine armL (.tmp 1) 25 rfl rfl rfl HL.out ?_)
      refine (HC.out _).mono ?_
      rintro e w1 ⟨rfl, hB1⟩
      have hb1 := (hB1.block w.heap.size (by simp)).trans hb0
      have c16 := (CellsAt.pfx hl hb1).2.2
      have hBw := hB0.trans (hB1.mono (by simp))
      clear hb0 hB0 hB1 hb1 HC HL
      go_wp2
      go_ret
      exact ⟨rfl, hBw⟩
    | true =>
      have hsix := lenOk_six h2
      by_cases h3 : l.getD 8 0 = 0
      · have eE : chkE l n = 0 := by unfold chkE; rw [if_neg (by rw [h1]; simp), if_neg (by rw [h2]; simp), if_neg (by simpa using h3)]
        rw [eE]
        have q8 : (l.getD 8 0 != 0) = false := by simpa using h3
        clear h2 eE h1 h3
        go_enter Tryd.func13, Tryd.ntmps13
        go_wp2_with ((with_reducible show wpList _ _ _ _ _ _); refine armL (.tmp 1) 25 rfl rfl rfl HL.out ?_)
        refine (HC.out _).mono ?_
        rintro e w1 ⟨rfl, hB1⟩
        have hb1 := (hB1.block w.heap.size (by simp)).trans hb0
        have c16 := (CellsAt.pfx hl hb1).2.2
        have c8 := pfx_cell hl hb1 8 (by decide)
        have hBw := hB0.trans (hB1.mono (by simp))
        clear hb0 hB0 hB1 hb1 HC HL
        generalize l.getD 8 0 = x8 at *
        rcases hsix with rfl | rfl | rfl | rfl | rfl | rfl
        all_goals
          go_wp2
          go_ret
          exact ⟨rfl, hBw⟩
      · have eE : chkE l n = 81 := by unfold chkE; rw [if_neg (by rw [h1]; simp), if_neg (by rw [h2]; simp), if_pos h3]
        rw [eE]
        have q8 : (l.getD 8 0 != 0) = true := by simpa using h3
        clear h2 eE h1 h3
        go_enter Tryd.func13, Tryd.ntmps13
        go_wp2_with ((with_reducible show wpList _ _ _ _ _ _); refine armL (.tmp 1) 25 rfl rfl rfl HL.out ?_)
        refine (HC.out _).mono ?_
        rintro e w1 ⟨rfl, hB1⟩
        have hb1 := (hB1.block w.heap.size (by simp)).trans hb0
        have c16 := (CellsAt.pfx hl hb1).2.2
        have c8 := pfx_cell hl hb1 8 (by decide)
        have hBw := hB0.trans (hB1.mono (by simp))
        clear hb0 hB0 hB1 hb1 HC HL
        generalize l.getD 8 0 = x8 at *
        rcases hsix with rfl | rfl | rfl | rfl | rfl | rfl
        all_goals
          go_wp2
          go_ret
          exact ⟨rfl, hBw⟩
  · have h1f : okP6 l n = false := by simpa using h1
    rw [h1f] at hck
    have HC : Hid _ := hck
    have eE : chkE l n = 22 := by unfold chkE; rw [if_pos h1f]
    rw [eE]
    clear hck eE h1
    simp only [Bool.false_eq_true, if_false] at HC
    go_enter Tryd.func13, Tryd.ntmps13
    go_wp2_with ((with_reducible show wpList _ _ _ _ _ _); refine armL (.tmp 1) 25 rfl rfl rfl HL.out ?_)
    refine (HC.out _).mono ?_
    rintro e w1 ⟨rfl, hB1⟩
    have hBw := hB0.trans (hB1.mono (by simp))
    clear hb0 hB0 hB1 HC HL
    go_wp2
    go_ret
    exact ⟨rfl, hBw⟩
end

end Go.Proofs.YtfiiopgdgfbkkaaDoor
