/-
  The contract of write: bits of a row of one's own are set.
-/
import Derived.Test.YtcncjclolpfddaaFldGet
namespace Go.Proofs.Ytcncjclolpfddaa
set_option linter.unusedVariables false
set_option linter.unusedSimpArgs false
open Go Go.RowKit
attribute [local go_sem] Oper.semAt_some

theorem below_set {B g : Nat} {w : World} (i : Nat) (v : Value) (hB : B ≤ g) : Below B w (w.setCell ⟨g, i, none⟩ v) :=
  ⟨rfl, rfl, rfl, by simp [World.setCell], fun j hj => Below.heap_setCell _ _ _ _ (by intro e; simp at e; omega)⟩

/-- An own row in its block. -/
structure OwnG (base : Nat) (w : World) (g : Nat) (zs : List Int) : Prop where
  low : base ≤ g
  typed : ∃ cs, w.heap[g]? = some (.cells cs 5 (0, 0))
  cell : ∀ j, j < zs.length → w.cell? ⟨g, j, none⟩ = some (.int .u8 (zs[j]?.getD 0))

theorem OwnG.open {base g : Nat} {w : World} {zs : List Int} (h : OwnG base w g zs) (i : Nat) : w.frozen? ⟨g, i, none⟩ = false := by
  obtain ⟨cs, hc⟩ := h.typed
  simp [World.frozen?, hc]
theorem OwnG.set {base g : Nat} {w : World} {zs : List Int} (h : OwnG base w g zs) (j : Nat) (hj : j < zs.length) (z : Int) : OwnG base (w.setCell ⟨g, j, none⟩ (.int .u8 z)) g (zs.set j z) := by
  refine ⟨h.low, ?_, fun i hi => ?_⟩
  · obtain ⟨cs, hc⟩ := h.typed
    exact ⟨cs.setIfInBounds j (.int .u8 z), by simp [World.setCell, Array.getElem?_modify, hc]⟩
  · by_cases e : i = j
    · subst e
      rw [List.getElem?_set_self hj]
      have := h.cell i hj
      obtain ⟨cs, hc⟩ := h.typed
      simp only [World.cell?, hc] at this
      simp only [World.cell?, World.setCell, Array.getElem?_modify, hc]
      have hlt := (Array.getElem?_eq_some_iff.1 this).1
      simp [hlt]
    · rw [List.getElem?_set_ne (by omega), World.cell?_setCell_other _ _ _ _ (by intro c; injection c; omega)]
      exact h.cell i (by simpa using hi)
theorem OwnG.own {base g cap : Nat} {w : World} {zs : List Int} (h : OwnG base w g zs) (hf : FitB zs) (hl : zs.length ≤ 140737488351232) : OwnB base w (.slice (some ⟨g, 0, none⟩) zs.length cap) zs :=
  ⟨hf, hl, _, cap, rfl, .inr ⟨g, rfl, h.low, h.typed, h.cell⟩⟩
theorem OwnG.block {base g : Nat} {w : World} {zs : List Int} (h : OwnG base w g zs) : g < w.heap.size := by
  obtain ⟨cs, hc⟩ := h.typed
  exact (Array.getElem?_eq_some_iff.1 hc).1
theorem OwnG.keep {base g : Nat} {w w' : World} {zs : List Int} (h : OwnG base w g zs) (hb : Below w.heap.size w w') : OwnG base w' g zs := by
  have hg := h.block
  exact ⟨h.low, by obtain ⟨cs, hc⟩ := h.typed; exact ⟨cs, (hb.block g hg).trans hc⟩, fun j hj => (hb.cell (p := ⟨g, j, none⟩) hg).trans (h.cell j hj)⟩

/-- Bits, set and cleared by a mask. -/
theorem mask_eq (q : Nat) : ((128 : Int) / 2 ^ (q % 8)) = ((2 ^ (7 - q % 8) : Nat) : Int) := by
  have : ∀ j, j < 8 → ((128 : Int) / 2 ^ j) = ((2 ^ (7 - j) : Nat) : Int) := by decide
  exact this _ (Nat.mod_lt _ (by decide))
theorem or_mask (z : Int) (q : Nat) (h0 : 0 ≤ z ∧ z < 256) : bits .or .u8 z ((128 : Int) / 2 ^ (q % 8)) = ((setN z.toNat (7 - q % 8) 1 : Nat) : Int) := by
  have hp : ∀ j, j < 8 → 2 ^ j < 256 := by decide
  have h := u8_or_nat z.toNat (2 ^ (7 - q % 8)) (by omega) (hp _ (by omega))
  rw [mask_eq, ← tab_or (7 - q % 8) (by omega) _ (by omega), ← h, Int.toNat_of_nonneg h0.1]
theorem an_mask (z : Int) (q : Nat) (h0 : 0 ≤ z ∧ z < 256) : bits .andNot .u8 z ((128 : Int) / 2 ^ (q % 8)) = ((setN z.toNat (7 - q % 8) 0 : Nat) : Int) := by
  have hp : ∀ j, j < 8 → 2 ^ j < 256 := by decide
  have h := u8_andNot_nat z.toNat (2 ^ (7 - q % 8)) (by omega) (hp _ (by omega))
  rw [mask_eq, ← tab_an (7 - q % 8) (by omega) _ (by omega), ← h, Int.toNat_of_nonneg h0.1]

set_option maxHeartbeats 1000000 in
theorem write_calls (g cap base : Nat) (zs : List Int) (p n v : Nat) (w : World) (hf : FitB zs) (hl : zs.length ≤ 140737488351232) (h : OwnG base w g zs) (hp : p + n ≤ 8 * zs.length) (hn : n ≤ 64) (hv : v < 18446744073709551616) :
    Calls Try.prog 33 #[.slice (some ⟨g, 0, none⟩) zs.length cap, .int .i64 p, .int .i64 n, .int .u64 v] w fun e w' => e = .returned (.tuple #[]) ∧ OwnG base w' g (writeL zs p n v n) ∧ Below base w w' ∧ w'.heap.size = w.heap.size := by
  go_enter Try.func33, Try.ntmps33
  go_wp2
  go_loopw [11] (fun i wr => ∃ k : Nat, k ≤ n ∧ i = .int .i64 k ∧ OwnG base wr g (writeL zs p n v k) ∧ Below base w wr ∧ wr.heap.size = w.heap.size) (fun i _ => n - (intOf i).toNat)
  case atStart => exact ⟨0, Nat.zero_le _, rfl, h, Below.refl _ _, rfl⟩
  case round =>
    obtain ⟨k, hk, rfl, ho, hB, hs⟩ := hrel
    by_cases hlt : k < n
    · have hset : writeL zs p n v (k + 1) = (writeL zs p n v k).set ((p + k) / 8) ((setN ((writeL zs p n v k)[(p + k) / 8]?.getD 0).toNat (7 - (p + k) % 8) (bk v (n - 1 - k)) : Nat) : Int) := rfl
      have hfit := fit_at (writeL_fit hf p n v k) ((p + k) / 8)
      have hlen : (writeL zs p n v k).length = zs.length := writeL_length ..
      have hcc := ho.cell ((p + k) / 8) (by omega)
      have hop := ho.open ((p + k) / 8)
      have hos := ho.set ((p + k) / 8) (by omega)
      generalize hy : writeL zs p n v (k + 1) = y at *
      have HY : Hid _ := hy
      clear hy
      generalize writeL zs p n v k = x at *
      have hbit := bit_u64 v (n - 1 - k) (by omega) (by omega)
      rw [Int.toNat_natCast] at hbit
      have ho1 := or_mask (x[(p + k) / 8]?.getD 0) (p + k) hfit
      have ho2 := an_mask (x[(p + k) / 8]?.getD 0) (p + k) hfit
      generalize x[(p + k) / 8]?.getD 0 = z at *
      have hb2 := bk_lt v (n - 1 - k)
      generalize bk v (n - 1 - k) = bb at *
      have hbb : bb = 0 ∨ bb = 1 := by omega
      rcases hbb with rfl | rfl
      · generalize setN z.toNat (7 - (p + k) % 8) 0 = s at *
        have HS : Hid _ := hset
        have HO : Hid _ := hos
        clear hset hos ho1
        go_wp2
        refine ⟨⟨k + 1, by omega, by simp, ?_, hB.trans (below_set _ _ ho.low), by rw [← hs]; simp [World.setCell]⟩, by simp [intOf]; omega⟩
        rw [HY.out, HS.out]
        exact HO.out _
      · generalize setN z.toNat (7 - (p + k) % 8) 1 = s at *
        have HS : Hid _ := hset
        have HO : Hid _ := hos
        clear hset hos ho2
        go_wp2
        refine ⟨⟨k + 1, by omega, by simp, ?_, hB.trans (below_set _ _ ho.low), by rw [← hs]; simp [World.setCell]⟩, by simp [intOf]; omega⟩
        rw [HY.out, HS.out]
        exact HO.out _
    · obtain rfl : k = n := by omega
      go_wp2
      exact bodyPost_end (results_none rfl _ _ _) rfl ⟨rfl, ho, hB, hs⟩

end Go.Proofs.Ytcncjclolpfddaa
