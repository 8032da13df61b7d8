/-
  IPv6 prefixes: cut6, Cut6.
-/
import Derived.Test.YthejkiocndoflaaDoorSix1
namespace Go.Proofs.YthejkiocndoflaaDoor
open Go Go.RowKit
set_option linter.unusedVariables false
set_option linter.unusedSimpArgs false

theorem blankL_get (zs : List Int) (n : Int) (k i : Nat) : (blankL zs n k)[i]? = if i < k then (zs[i]?).map (fun z => bl z (n - 8 * i)) else zs[i]? := by
  induction k with
  | zero => simp [blankL]
  | succ k ih =>
    simp only [blankL]
    by_cases e : i = k
    · subst e
      rw [if_pos (by omega)]
      by_cases hi : i < zs.length
      · rw [List.getElem?_set_self (by simpa using hi)]
        have e2 : (blankL zs n i)[i]? = zs[i]? := by rw [ih, if_neg (by omega)]
        rw [e2, List.getElem?_eq_getElem hi]
        rfl
      · rw [List.getElem?_eq_none (by simpa using hi), List.getElem?_eq_none (by omega)]
        rfl
    · rw [List.getElem?_set_ne (by omega), ih]
      by_cases hi : i < k
      · rw [if_pos hi, if_pos (by omega)]
      · rw [if_neg hi, if_neg (by omega)]
theorem blankL_all (zs : List Int) (n : Int) : blankL zs n zs.length = blR n zs := by
  apply List.ext_getElem?
  intro i
  rw [blankL_get]
  unfold blR
  rw [List.getElem?_mapIdx]
  by_cases h : i < zs.length
  · rw [if_pos h]
  · rw [if_neg h, List.getElem?_eq_none (by omega)]
    rfl
theorem blR_length (n : Int) (l : List Int) : (blR n l).length = l.length := by simp [blR]
theorem blR_fit {n : Int} {l : List Int} (h : FitB l) : FitB (blR n l) := by
  intro z hz
  unfold blR at hz
  rw [List.mem_mapIdx] at hz
  obtain ⟨i, hi, rfl⟩ := hz
  exact bl_fit _ _ (h _ (List.getElem_mem hi))

theorem OwnG.cells {w : World} {b : Nat} {l : List Int} (h : OwnG w b l) : CellsAt w b 0 (u8s l) := by
  intro j v hj
  unfold u8s at hj
  rw [List.getElem?_map] at hj
  cases hz : l[j]? with
  | none => simp [hz] at hj
  | some z =>
    simp [hz] at hj
    subst hj
    have := h.cell j (List.getElem?_eq_some_iff.1 hz).1
    rw [hz] at this
    simpa using this
theorem OwnG.of_blk {w : World} {b : Nat} {l : List Int} {t : TypeId} (h : w.heap[b]? = some (.cells (u8s l).toArray t)) : OwnG w b l := by
  refine ⟨⟨_, _, h⟩, fun j hj => ?_⟩
  simp [World.cell?, h, A6, Value.cells, u8s, hj]

set_option maxHeartbeats 2000000 in
set_option maxRecDepth 100000 in
theorem cut6_calls (l : List Int) (n : Int) (w : World) (hf : FitB l) (hl : l.length = 16) (hn : 0 ≤ n ∧ n ≤ 128) :
    Calls Tryd.prog 70 #[A6 l, .int .i64 n] w fun e w' => e = .returned (P6 (blR n l) n) ∧ Below w.heap.size w w' := by
  have hb0 : (w.alloc (.cells (u8s l).toArray 31)).heap[w.heap.size]? = some (.cells (u8s l).toArray 31) := blk_new _ _
  go_enter Tryd.func70, Tryd.ntmps70
  go_wp2_with fail
  generalize hz : Obj.cells #[.int .u8 0, .int .u8 0, .int .u8 0, .int .u8 0, .int .u8 0, .int .u8 0, .int .u8 0, .int .u8 0, .int .u8 0, .int .u8 0, .int .u8 0, .int .u8 0, .int .u8 0, .int .u8 0, .int .u8 0, .int .u8 0, .int .i64 0] 40 = zo
  have hb1 := blk_alloc hb0 zo
  have hR := blk_new (w.alloc (.cells (u8s l).toArray 31)) zo
  have hB : Below w.heap.size w ((w.alloc (.cells (u8s l).toArray 31)).alloc zo) := ((Below.refl _ w).alloc (Nat.le_refl _) _).alloc (by simp) _
  rw [World.size_alloc] at hR
  have hbl := blank_calls w.heap.size 16 l n ((w.alloc (.cells (u8s l).toArray 31)).alloc zo) hf (by omega) hn (OwnG.of_blk hb1)
  rw [hl] at hbl
  refine hbl.mono ?_
  rintro e w2 ⟨rfl, hG2, hO⟩
  have hR2 := (hO.other (w.heap.size + 1) (by omega)).trans hR
  have hB2 := hB.trans (hO.below (Nat.le_refl _))
  rw [← hl, blankL_all] at hG2
  have hfz : ∀ i, w2.frozen? ⟨w.heap.size + 1, i, none⟩ = false := fun i => by rw [← hz] at hR2; simp [World.frozen?, hR2]
  have hsome : ∀ i, i < 17 → (w2.cell? ⟨w.heap.size + 1, i, none⟩).isSome = true := fun i hi => by rw [← hz] at hR2; simp [World.cell?, hR2, hi]
  have hlen : (blR n l).length = 16 := by rw [blR_length, hl]
  have hld := load6 hlen hG2.cells
  have hbu := build6 (blR n l) n hlen
  have hst := agg_store (t := 40) (w := w2) (b := w.heap.size + 1) (o := 0) (vs := cp6 (blR n l) n) Tryd.sizeOf40 (cp6_length _ _ hlen) (cp6_one _ _) (fun j hj => by rw [cp6_length _ _ hlen] at hj; simpa using hsome j hj) hfz
  have hcs : CellsAt (w2.setCells (w.heap.size + 1) 0 (cp6 (blR n l) n)) (w.heap.size + 1) 0 (cp6 (blR n l) n) := CellsAt.stored _ (fun j hj => by rw [cp6_length _ _ hlen] at hj; simpa using hsome j hj)
  have hB3 : Below w.heap.size w (w2.setCells (w.heap.size + 1) 0 (cp6 (blR n l) n)) := Below.sets (by omega) _ 0 _ hB2
  have hres := loadVarP6 hlen hcs
  generalize w2.setCells (w.heap.size + 1) 0 (cp6 (blR n l) n) = w3 at *
  clear hG2 hO hR2 hR hb1 hb0 hz hsome hfz hB hbl hcs
  generalize hx : blR n l = x at *
  have HX : Hid _ := hx
  have HL : Hid _ := hld
  have HU : Hid _ := hbu
  have HS : Hid _ := hst
  have HR : Hid _ := hres
  clear hx hld hbu hst hres
  go_wp2_with first
    | ((with_reducible show wpList _ _ _ _ _ _); refine arm_load rfl (.tmp 2) 31 rfl rfl HL.out ?_)
    | ((with_reducible show wpList _ _ _ _ _ _); refine arm_build rfl 40 [(0, .tmp 8), (1, .tmp 9)] rfl rfl (HU.out _) ?_)
    | ((with_reducible show wpList _ _ _ _ _ _); refine arm_store rfl (.tmp 4) (.tmp 10) 40 rfl rfl rfl HS.out ?_)
  refine bodyPost_ret (res_cell1 rfl rfl HR.out) rfl ?_
  refine ⟨?_, hB3⟩
  rw [HX.out]

end Go.Proofs.YthejkiocndoflaaDoor
