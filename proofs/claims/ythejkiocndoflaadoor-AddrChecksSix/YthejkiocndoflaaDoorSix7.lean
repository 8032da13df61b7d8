/-
  IPv6 prefixes: the document's Low6 and Check6.
-/
import Derived.Test.YthejkiocndoflaaDoorSix5
import Derived.Test.YthejkiocndoflaaDoorAddrRcut
namespace Go.Proofs.YthejkiocndoflaaDoor
open Go Go.RowKit
set_option linter.unusedVariables false
set_option linter.unusedSimpArgs false

theorem bitN_blR {l : List Int} (h : FitB l) (n i : Nat) (hi : i < 8 * l.length) : bitN (blR n l) i = if i < n then bitN l i else 0 := by
  unfold bitN blR
  have hlt : i / 8 < l.length := by omega
  rw [List.getElem?_mapIdx, List.getElem?_eq_getElem hlt]
  simp only [Option.map_some, Option.getD_some]
  rw [bk_bl _ _ _ (Nat.mod_lt _ (by decide)) (h _ (List.getElem_mem hlt))]
  by_cases c : i < n
  · rw [if_pos c, if_pos (by omega)]
  · rw [if_neg c, if_neg (by omega)]
theorem low_blR {l : List Int} (h : FitB l) (n : Nat) : lowB l n = decide (l = blR n l) := by
  unfold lowB
  rw [decide_eq_decide]
  constructor
  · intro g
    refine row_ext (by rw [blR_length]) h (blR_fit h) fun p hp => ?_
    rw [bitN_blR h n p hp]
    by_cases c : p < n
    · rw [if_pos c]
    · rw [if_neg c]; exact g p hp (by omega)
  · intro e i hi hni
    rw [e, bitN_blR h n i hi, if_neg (by omega)]
theorem clr_blR {l : List Int} (h : FitB l) (n : Nat) (hn : n ≤ 8 * l.length) : clrL l n (8 * l.length - n) = blR n l := by
  refine row_ext (by simp [blR_length]) (clrL_fit h _ _) (blR_fit h) fun p hp => ?_
  have hp' : p < 8 * l.length := by simpa using hp
  rw [bitN_clrL h _ _ _ (by omega), bitN_blR h n p hp']
  by_cases c : p < n
  · rw [if_neg (by omega), if_pos c]
  · rw [if_pos (by omega), if_neg c]

set_option maxHeartbeats 1000000 in
set_option maxRecDepth 100000 in
theorem Low6_calls (l : List Int) (n : Nat) (w : World) (hf : FitB l) (hl : l.length = 16) (hn : n ≤ 128) :
    Calls Tryd.prog 71 #[A6 l, .int .i64 n] w fun e w' => e = .returned (.bool (lowB l n)) ∧ Below w.heap.size w w' := by
  have hB := (Below.refl w.heap.size w).alloc (Nat.le_refl _) (.cells (u8s l).toArray 31)
  have hG : OwnG (w.alloc (.cells (u8s l).toArray 31)) w.heap.size l := OwnG.of_blk (blk_new _ _)
  have hc : ∀ j, j < 16 → (w.alloc (.cells (u8s l).toArray 31)).cell? ⟨w.heap.size, j, none⟩ = some (.int .u8 (l[j]?.getD 0)) := fun j hj => hG.cell j (by omega)
  have HC : Hid _ := hc
  have HB : Hid _ := hB
  clear hc hB hG
  go_enter Tryd.func71, Tryd.ntmps71
  go_wp2
  generalize w.alloc (.cells (u8s l).toArray 31) = w1 at *
  go_loopw [5] (fun i wr => ∃ k : Nat, n ≤ k ∧ k ≤ 128 ∧ i = .int .i64 k ∧ (∀ i, n ≤ i → i < k → bitN l i = 0) ∧ wr = w1) (fun i _ => 128 - (intOf i).toNat)
  case atStart => exact ⟨n, Nat.le_refl _, hn, rfl, fun i h1 h2 => by omega, rfl⟩
  case round =>
    obtain ⟨k, hk1, hk2, rfl, hal, rfl⟩ := hrel
    have HA : Hid _ := hal
    clear hal
    by_cases hlt : k < 128
    · have hcc := HC.out (k / 8) (by omega)
      have hfit := fit_at hf (k / 8)
      have hbit := lbit_u8 (l[k / 8]?.getD 0) (7 - k % 8) hfit.1 hfit.2
      have hbn : bitN l k = bk (l[k / 8]?.getD 0).toNat (7 - k % 8) := rfl
      have hb2 := bitN_lt l k
      have hyes : bitN l k = 0 → ∀ i, n ≤ i → i < k + 1 → bitN l i = 0 := fun h0 i h1 h2 => by
        by_cases c : i = k
        · rw [c]; exact h0
        · exact HA.out i h1 (by omega)
      have hno : bitN l k ≠ 0 → lowB l n = false := fun h0 => by
        unfold lowB
        exact decide_eq_false (fun h => h0 (h k (by omega) hk1))
      rw [← hbn] at hbit
      generalize l[k / 8]?.getD 0 = z at *
      generalize bitN l k = bb at *
      have HY : Hid _ := hyes
      have HN : Hid _ := hno
      clear hyes hno hbn HA
      have hbb : bb = 0 ∨ bb = 1 := by omega
      rcases hbb with rfl | rfl
      · go_wp2
        exact ⟨⟨k + 1, by omega, by omega, by simp, HY.out rfl, trivial⟩, by simp [intOf]; omega⟩
      · go_wp2
        go_ret
        rw [HN.out (by decide)]
        exact ⟨rfl, HB.out⟩
    · have hlow : lowB l n = true := by
        unfold lowB
        exact decide_eq_true (fun i hi hn' => HA.out i hn' (by omega))
      have HL : Hid _ := hlow
      clear hlow
      go_wp2
      go_ret
      rw [HL.out]
      exact ⟨rfl, HB.out⟩


set_option maxHeartbeats 2000000 in
set_option maxRecDepth 100000 in
theorem RCheck6_calls (l : List Int) (n : Int) (w : World) (hf : FitB l) (hl : l.length = 16) (hb : -9223372036854775808 ≤ n ∧ n ≤ 9223372036854775807) :
    Calls Tryd.prog 47 #[P6 l n] w fun e w' => e = .returned (.int .i64 (if okP6 l n then 0 else 22)) ∧ Below w.heap.size w w' := by
  have hb0 := blk_new w (.cells (cp6 l n).toArray 40)
  obtain ⟨c1, c2, c3⟩ := CellsAt.pfx hl hb0
  have hB := (Below.refl w.heap.size w).alloc (Nat.le_refl _) (.cells (cp6 l n).toArray 40)
  have HA : Hid _ := load6 hl c2
  clear c1 c2 hb0
  by_cases hn : 0 ≤ n ∧ n ≤ 128
  · obtain ⟨m, rfl⟩ := Int.eq_ofNat_of_zero_le hn.1
    have hlow := Low6_calls l m (w.alloc (.cells (cp6 l m).toArray 40)) hf hl (by omega)
    rw [low_blR hf] at hlow
    have hok : okP6 l m = decide (l = blR m l) := by
      unfold okP6
      rw [decide_eq_true hn, Bool.true_and]
    rw [hok]
    generalize decide (l = blR m l) = bb at *
    have HL : Hid _ := hlow
    have HB : Hid _ := hB
    clear hlow hB hok
    have q1 : decide ((m : Int) < 0) = false := by simp
    have q2 : decide ((128 : Int) < (m : Int)) = false := by simp; omega
    go_enter Tryd.func47, Tryd.ntmps47
    go_wp2_with ((with_reducible show wpList _ _ _ _ _ _); refine arm_load rfl _ 31 rfl rfl HA.out ?_)
    refine Calls.mono HL.out ?_
    rintro e w2 ⟨rfl, hB2⟩
    have hBB := HB.out.trans (hB2.mono HB.out.size)
    clear HL HB hB2
    cases bb
    all_goals
      go_wp2
      go_ret
      exact ⟨rfl, hBB⟩
  · have hok : okP6 l n = false := by unfold okP6; rw [decide_eq_false hn, Bool.false_and]
    rw [hok]
    clear hok
    have hn' : n < 0 ∨ 128 < n := by omega
    rcases hn' with hn' | hn'
    all_goals
      go_enter Tryd.func47, Tryd.ntmps47
      go_wp2
      go_ret
      exact ⟨rfl, hB⟩

end Go.Proofs.YthejkiocndoflaaDoor
