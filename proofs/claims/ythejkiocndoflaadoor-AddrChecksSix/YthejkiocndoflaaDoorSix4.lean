/-
  IPv6 prefixes: Check6 of the program.
-/
import Derived.Test.YthejkiocndoflaaDoorSix3
namespace Go.Proofs.YthejkiocndoflaaDoor
open Go Go.RowKit
set_option linter.unusedVariables false
set_option linter.unusedSimpArgs false

def okP6 (l : List Int) (n : Int) : Bool := decide (0 ≤ n ∧ n ≤ 128) && decide (l = blR n l)

set_option maxHeartbeats 2000000 in
set_option maxRecDepth 100000 in
theorem Check6_yes (l : List Int) (n : Int) (w : World) (hf : FitB l) (hl : l.length = 16) (hn : 0 ≤ n ∧ n ≤ 128) :
    Calls Tryd.prog 46 #[P6 l n] w fun e w' => e = .returned (.int .i64 (if okP6 l n then 0 else 22)) ∧ Below w.heap.size w w' := by
  have hok : okP6 l n = decide (l = blR n l) := by simp [okP6, hn]
  have hlen : (blR n l).length = 16 := by rw [blR_length, hl]
  have hb0 := blk_new w (.cells (cp6 l n).toArray 40)
  obtain ⟨c1, c2, c3⟩ := CellsAt.pfx hl hb0
  have hcut := fun w => Cut6_yes l n w hf hl hn
  have hne : ∀ W, (Op.equalIn 9999 31 (.agg (u8s l).toArray) (.agg (u8s (blR n l)).toArray)).run Tryd.prog W = .ok (okP6 l n) W := fun W => by rw [hok]; exact eq_arr16 9997 l (blR n l) hf (blR_fit hf) hl hlen W
  have tk1 := cp6_take l n hl
  have tk2 := cp6_take (blR n l) n hlen
  have sn1 := cp6_get l n hl
  have sn2 := cp6_get (blR n l) n hlen
  have HL : Hid _ := load6 hl c2
  have HC : Hid _ := hcut
  have HB : Hid _ := (Below.refl w.heap.size w).alloc (Nat.le_refl _) (.cells (cp6 l n).toArray 40)
  have H0 : Hid _ := hb0
  clear c1 c2 hcut hb0 hok
  generalize okP6 l n = ok at *
  go_enter Tryd.func46, Tryd.ntmps46
  go_wp2_with ((with_reducible show wpList _ _ _ _ _ _); refine arm_load rfl _ 31 rfl rfl HL.out ?_)
  refine Calls.mono (HC.out _) ?_
  rintro e w2 ⟨rfl, hB2⟩
  have hp := blk_on H0.out hB2
  have hBB := HB.out.trans (hB2.mono HB.out.size)
  have hge := hBB.size
  have hlt : w.heap.size < w2.heap.size := Nat.lt_of_lt_of_le (by simp) hB2.size
  have hslot := Slot6.zero (blk_new w2 _)
  obtain ⟨w3, hst, hres, hbel, _⟩ := hslot.put (blR n l) n hlen
  have hB3 := hbel w.heap.size w hge (hBB.alloc hge _)
  have hB3' := hbel w2.heap.size w2 (Nat.le_refl _) ((Below.refl _ w2).alloc (Nat.le_refl _) _)
  have HP : Hid _ := loadP6 hl (CellsAt.pfx hl (blk_on hp hB3')).1
  have hq : (Instr.loadAt 40 (.pointer (some ⟨w2.heap.size, 0, none⟩))).run Tryd.prog w3 = .ok (P6 (blR n l) n) w3 := by simpa [Instr.loadAt, Instr.sureAddr] using hres
  have HQ : Hid _ := hq
  clear hq
  have HS : Hid _ := hst
  clear hp HC H0 HB hB2 HL c3 hslot hst hres hbel hB3' hBB
  generalize hx : blR n l = x at *
  have HX : Hid _ := hx
  clear hx
  cases ok
  all_goals
    go_wp2_with first
      | ((with_reducible show wpList _ _ _ _ _ _); refine arm_store rfl _ _ 40 rfl rfl rfl HS.out ?_)
      | ((with_reducible show wpList _ _ _ _ _ _); refine arm_load rfl (.tmp 1) 40 rfl rfl HP.out ?_)
      | ((with_reducible show wpList _ _ _ _ _ _); refine arm_load rfl (.tmp 3) 40 rfl rfl HQ.out ?_)
    go_ret
    exact ⟨rfl, hB3⟩

set_option maxHeartbeats 2000000 in
set_option maxRecDepth 100000 in
theorem Check6_no (l : List Int) (n : Int) (w : World) (hf : FitB l) (hl : l.length = 16) (hn : n < 0 ∨ 128 < n) (hb : -9223372036854775808 ≤ n ∧ n ≤ 9223372036854775807) :
    Calls Tryd.prog 46 #[P6 l n] w fun e w' => e = .returned (.int .i64 22) ∧ Below w.heap.size w w' := by
  have hlen : (List.replicate 16 (0 : Int)).length = 16 := rfl
  have hb0 := blk_new w (.cells (cp6 l n).toArray 40)
  obtain ⟨c1, c2, c3⟩ := CellsAt.pfx hl hb0
  have hcut := fun w => Cut6_no l n w hn hb
  generalize List.replicate 16 (0 : Int) = x at *
  have HL : Hid _ := load6 hl c2
  have HC : Hid _ := hcut
  have HB : Hid _ := (Below.refl w.heap.size w).alloc (Nat.le_refl _) (.cells (cp6 l n).toArray 40)
  clear c1 c2 hcut hb0
  go_enter Tryd.func46, Tryd.ntmps46
  go_wp2_with ((with_reducible show wpList _ _ _ _ _ _); refine arm_load rfl _ 31 rfl rfl HL.out ?_)
  refine Calls.mono (HC.out _) ?_
  rintro e w2 ⟨rfl, hB2⟩
  have hBB := HB.out.trans (hB2.mono HB.out.size)
  have hge := hBB.size
  have hslot := Slot6.zero (blk_new w2 _)
  obtain ⟨w3, hst, hres, hbel, _⟩ := hslot.put x 0 hlen
  have hB3 := hbel w.heap.size w hge (hBB.alloc hge _)
  have HS : Hid _ := hst
  clear HC HB hB2 HL c3 hslot hst hres hbel hBB
  go_wp2_with ((with_reducible show wpList _ _ _ _ _ _); refine arm_store rfl _ _ 40 rfl rfl rfl HS.out ?_)
  go_ret
  exact ⟨rfl, hB3⟩

theorem Check6_calls (l : List Int) (n : Int) (w : World) (hf : FitB l) (hl : l.length = 16) (hb : -9223372036854775808 ≤ n ∧ n ≤ 9223372036854775807) :
    Calls Tryd.prog 46 #[P6 l n] w fun e w' => e = .returned (.int .i64 (if okP6 l n then 0 else 22)) ∧ Below w.heap.size w w' := by
  by_cases hn : 0 ≤ n ∧ n ≤ 128
  · exact Check6_yes l n w hf hl hn
  · have hok : okP6 l n = false := by unfold okP6; rw [decide_eq_false hn, Bool.false_and]
    rw [hok]
    exact Check6_no l n w hf hl (by omega) hb

end Go.Proofs.YthejkiocndoflaaDoor
