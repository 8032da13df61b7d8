/-
  IPv6 prefixes: Cut6 and Check6 of the program.
-/
import Derived.Test.YthejkiocndoflaaDoorSix2
namespace Go.Proofs.YthejkiocndoflaaDoor
open Go Go.RowKit
set_option linter.unusedVariables false
set_option linter.unusedSimpArgs false

set_option maxHeartbeats 2000000 in
set_option maxRecDepth 100000 in
theorem Cut6_yes (l : List Int) (n : Int) (w : World) (hf : FitB l) (hl : l.length = 16) (hn : 0 ≤ n ∧ n ≤ 128) :
    Calls Tryd.prog 44 #[A6 l, .int .i64 n] w fun e w' => e = .returned (.tuple #[P6 (blR n l) n, .int .i64 0]) ∧ Below w.heap.size w w' := by
  have hlen : (blR n l).length = 16 := by rw [blR_length, hl]
  have hld : ∀ zo, (Instr.loadAt 31 (.pointer (some ⟨w.heap.size, 0, none⟩))).run Tryd.prog ((w.alloc (.cells (u8s l).toArray 31)).alloc zo) = .ok (A6 l) ((w.alloc (.cells (u8s l).toArray 31)).alloc zo) := fun zo => load6 hl (CellsAt.of_blk (blk_alloc (blk_new _ _) zo))
  have hc := fun w => cut6_calls l n w hf hl hn
  have HC : Hid _ := hc
  have HL : Hid _ := hld
  have HB : Hid (∀ zo, Below w.heap.size w ((w.alloc (.cells (u8s l).toArray 31)).alloc zo)) := fun zo => ((Below.refl _ w).alloc (Nat.le_refl _) _).alloc (by simp) _
  have HR : Hid (∀ zo, ((w.alloc (.cells (u8s l).toArray 31)).alloc zo).heap[w.heap.size + 1]? = some zo) := fun zo => by
    have := blk_new (w.alloc (.cells (u8s l).toArray 31)) zo
    rwa [World.size_alloc] at this
  clear hc hld
  go_enter Tryd.func44, Tryd.ntmps44
  go_wp2_with ((with_reducible show wpList _ _ _ _ _ _); refine arm_load rfl (.tmp 2) 31 rfl rfl (HL.out _) ?_)
  refine Calls.mono (HC.out _) ?_
  rintro e w2 ⟨rfl, hB2⟩
  have hslot := Slot6.zero (blk_on (HR.out _) hB2)
  have hBB := (HB.out _).trans (hB2.mono (HB.out _).size)
  obtain ⟨w3, hst, hres, hbel, _⟩ := hslot.put (blR n l) n hlen
  have hB3 := hbel w.heap.size w (by omega) hBB
  have HS : Hid _ := hst
  have HE : Hid _ := hres
  clear hst hres hslot hbel HC HL HB HR hB2
  go_wp2_with ((with_reducible show wpList _ _ _ _ _ _); refine arm_store rfl _ _ 40 rfl rfl rfl HS.out ?_)
  refine bodyPost_ret (res_cell2 rfl rfl HE.out) rfl ?_
  exact ⟨rfl, hB3⟩

set_option maxHeartbeats 2000000 in
set_option maxRecDepth 100000 in
theorem Cut6_no (l : List Int) (n : Int) (w : World) (hn : n < 0 ∨ 128 < n) (hb : -9223372036854775808 ≤ n ∧ n ≤ 9223372036854775807) :
    Calls Tryd.prog 44 #[A6 l, .int .i64 n] w fun e w' => e = .returned (.tuple #[P6 (List.replicate 16 0) 0, .int .i64 5]) ∧ Below w.heap.size w w' := by
  have HR : Hid (∀ zo, ((w.alloc (.cells (u8s l).toArray 31)).alloc zo).heap[w.heap.size + 1]? = some zo) := fun zo => by
    have := blk_new (w.alloc (.cells (u8s l).toArray 31)) zo
    rwa [World.size_alloc] at this
  have HB : Hid (∀ zo, Below w.heap.size w ((w.alloc (.cells (u8s l).toArray 31)).alloc zo)) := fun zo => ((Below.refl _ w).alloc (Nat.le_refl _) _).alloc (by simp) _
  obtain ⟨w3, hst, hres, hbel, _⟩ := (Slot6.zero (HR.out _)).put (List.replicate 16 0) 0 rfl
  have hB3 := hbel w.heap.size w (by omega) (HB.out _)
  have hbu := buildZ6
  have HS : Hid _ := hst
  have HE : Hid _ := hres
  have HU : Hid _ := hbu
  clear hst hres hbel hbu HR HB
  have ht : (decide (n < 0) || decide (128 < n)) = true := by rcases hn with h | h <;> simp [h]
  go_enter Tryd.func44, Tryd.ntmps44
  rcases hn with hn | hn
  all_goals
    go_wp2_with first
      | ((with_reducible show wpList _ _ _ _ _ _); refine arm_build rfl 40 [] rfl rfl (HU.out _) ?_)
      | ((with_reducible show wpList _ _ _ _ _ _); refine arm_store rfl _ _ 40 rfl rfl rfl HS.out ?_)
    refine bodyPost_ret (res_cell2 rfl rfl HE.out) rfl ?_
    exact ⟨rfl, hB3⟩

end Go.Proofs.YthejkiocndoflaaDoor
