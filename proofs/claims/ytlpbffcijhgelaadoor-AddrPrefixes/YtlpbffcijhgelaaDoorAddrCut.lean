/-
  Prefixes: a byte's first bits, all bits behind the first ones set to 0.
-/
import Derived.Test.YtlpbffcijhgelaaDoorAddrMem
import Derived.Test.YtlpbffcijhgelaaDoorFldPure
import Derived.Laws.BitsAllLaws
import Derived.Deep.RegionWith
namespace Go.Proofs.YtlpbffcijhgelaaDoor
open Go Go.RowKit
set_option linter.unusedVariables false
set_option linter.unusedSimpArgs false

/-- A byte whose first n bits are 1. -/
def msk (n : Int) : Nat := 255 - 255 / 2 ^ (min (max n 0) 8).toNat
theorem msk_lt (n : Int) : msk n < 256 := by
  unfold msk
  exact Nat.lt_of_le_of_lt (Nat.sub_le _ _) (by decide)
theorem not_u8 : ∀ k, k < 9 → bits .xor .u8 IntKind.u8.max ((255 : Int) / 2 ^ k) = ((255 - 255 / 2 ^ k : Nat) : Int) := by decide

set_option maxHeartbeats 400000 in
theorem first_calls (n : Int) (w : World) (hn : -1000 ≤ n ∧ n ≤ 1000) : Calls Tryd.prog 68 #[.int .i64 n] w fun e w' => e = .returned (.int .u8 (msk n : Nat)) ∧ w' = w := by
  by_cases h0 : n < 0
  · have hm : msk n = 0 := by unfold msk; rw [show (min (max n 0) 8).toNat = 0 by omega]
    have hx : bits .xor .u8 IntKind.u8.max 255 = 0 := by decide
    rw [hm]
    clear hm
    go_enter Tryd.func68, Tryd.ntmps68
    go_wp2
    all_goals first
      | (exfalso; omega)
      | (go_ret; exact ⟨rfl, rfl⟩)
  · obtain ⟨k, rfl⟩ := Int.eq_ofNat_of_zero_le (by omega : 0 ≤ n)
    by_cases h8 : k ≤ 8
    · have hm : msk k = 255 - 255 / 2 ^ k := by unfold msk; rw [show (min (max (k : Int) 0) 8).toNat = k by omega]
      have hx := not_u8 k (by omega)
      rw [hm]
      clear hm
      generalize (255 - 255 / 2 ^ k) = r at *
      go_enter Tryd.func68, Tryd.ntmps68
      go_wp2
      all_goals first
        | (exfalso; omega)
        | (go_ret; exact ⟨rfl, rfl⟩)
    · have hm : msk k = 255 := by unfold msk; rw [show (min (max (k : Int) 0) 8).toNat = 8 by omega]
      have hx : bits .xor .u8 IntKind.u8.max 0 = 255 := by decide
      rw [hm]
      clear hm
      go_enter Tryd.func68, Tryd.ntmps68
      go_wp2
      all_goals first
        | (exfalso; omega)
        | (go_ret; exact ⟨rfl, rfl⟩)

theorem wrap_i64 (x : Int) (h : -9223372036854775808 ≤ x ∧ x ≤ 9223372036854775807) : IntKind.i64.wrap x = x := by
  have e : IntKind.i64.wrap x = (x + 9223372036854775808) % 18446744073709551616 - 9223372036854775808 := by
    simp [IntKind.wrap, IntKind.bits, IntKind.signed]
    split <;> omega
  rw [e]
  omega

/-- Bytes, all bits behind the first n set to 0, k of them done. -/
def blankL (zs : List Int) (n : Int) : Nat → List Int
  | 0 => zs
  | k + 1 => (blankL zs n k).set k (((((blankL zs n k)[k]?.getD 0).toNat &&& msk (n - 8 * k) : Nat) : Int))
@[simp] theorem blankL_length (zs : List Int) (n : Int) (k : Nat) : (blankL zs n k).length = zs.length := by
  induction k with
  | zero => rfl
  | succ k ih => simp [blankL, ih]
theorem blankL_fit {zs : List Int} (h : FitB zs) (n : Int) (k : Nat) : FitB (blankL zs n k) := by
  induction k with
  | zero => exact h
  | succ k ih =>
    intro z hz
    rcases List.mem_or_eq_of_mem_set hz with hz | rfl
    · exact ih z hz
    · have := fit_at ih k
      have h2 : ((blankL zs n k)[k]?.getD 0).toNat &&& msk (n - 8 * k) ≤ ((blankL zs n k)[k]?.getD 0).toNat := Nat.and_le_left
      omega

/-- Bytes that begin block b, which is open. -/
structure OwnG (w : World) (b : Nat) (zs : List Int) : Prop where
  typed : ∃ cs t, w.heap[b]? = some (.cells cs t (0, 0))
  cell : ∀ j, j < zs.length → w.cell? ⟨b, j, none⟩ = some (.int .u8 (zs[j]?.getD 0))
theorem OwnG.open {b : Nat} {w : World} {zs : List Int} (h : OwnG w b zs) (i : Nat) : w.frozen? ⟨b, i, none⟩ = false := by
  obtain ⟨cs, t, hc⟩ := h.typed
  simp [World.frozen?, hc]
theorem OwnG.set {b : Nat} {w : World} {zs : List Int} (h : OwnG w b zs) (j : Nat) (hj : j < zs.length) (z : Int) : OwnG (w.setCell ⟨b, j, none⟩ (.int .u8 z)) b (zs.set j z) := by
  refine ⟨?_, fun i hi => ?_⟩
  · obtain ⟨cs, t, hc⟩ := h.typed
    exact ⟨cs.setIfInBounds j (.int .u8 z), t, by simp [World.setCell, Array.getElem?_modify, hc]⟩
  · by_cases e : i = j
    · subst e
      rw [List.getElem?_set_self hj]
      have := h.cell i hj
      obtain ⟨cs, t, hc⟩ := h.typed
      simp only [World.cell?, hc] at this
      simp only [World.cell?, World.setCell, Array.getElem?_modify, hc]
      have hlt := (Array.getElem?_eq_some_iff.1 this).1
      simp [hlt]
    · rw [List.getElem?_set_ne (by omega), World.cell?_setCell_other _ _ _ _ (by intro c; injection c; omega)]
      exact h.cell i (by simpa using hi)

/-- Nothing but block b is turned. -/
structure Only (b : Nat) (w w' : World) : Prop where
  os : w'.os = w.os
  tape : w'.tape = w.tape
  output : w'.output = w.output
  size : w'.heap.size = w.heap.size
  other : ∀ j, j ≠ b → w'.heap[j]? = w.heap[j]?
theorem Only.refl (b : Nat) (w : World) : Only b w w := ⟨rfl, rfl, rfl, rfl, fun _ _ => rfl⟩
theorem Only.set {b : Nat} {u w : World} (h : Only b u w) (i : Nat) (v : Value) : Only b u (w.setCell ⟨b, i, none⟩ v) :=
  ⟨h.os, h.tape, h.output, by rw [← h.size]; simp [World.setCell], fun j hj => (Below.heap_setCell _ _ _ _ hj).trans (h.other j hj)⟩
theorem Only.drew {b : Nat} {u w : World} (h : Only b u w) : Only b u w.drew := ⟨h.os, h.tape, h.output, h.size, h.other⟩
theorem Only.below {b B : Nat} {u w : World} (h : Only b u w) (hB : B ≤ b) : Below B u w := ⟨h.os, h.tape, h.output, by rw [h.size]; exact Nat.le_refl _, fun j hj => h.other j (by omega)⟩

set_option maxHeartbeats 2000000 in
set_option maxRecDepth 100000 in
theorem blank_calls (b cap : Nat) (zs : List Int) (n : Int) (w : World) (hf : FitB zs) (hl : zs.length ≤ 16) (hn : 0 ≤ n ∧ n ≤ 128) (h : OwnG w b zs) :
    Calls Tryd.prog 83 #[.slice (some ⟨b, 0, none⟩) zs.length cap, .int .i64 n] w fun e w' => e = .returned (.tuple #[]) ∧ OwnG w' b (blankL zs n zs.length) ∧ Only b w w' := by
  go_enter Tryd.func83, Tryd.ntmps83
  go_wp2
  go_loopw [7] (fun i wr => ∃ k : Nat, k ≤ zs.length ∧ i = .int .i64 k ∧ OwnG wr b (blankL zs n k) ∧ Only b w wr) (fun i _ => zs.length - (intOf i).toNat)
  case atStart => exact ⟨0, Nat.zero_le _, rfl, h, Only.refl _ _⟩
  case round =>
    obtain ⟨k, hk, rfl, ho, hB⟩ := hrel
    by_cases hlt : k < zs.length
    · have hset : blankL zs n (k + 1) = (blankL zs n k).set k (((((blankL zs n k)[k]?.getD 0).toNat &&& msk (n - 8 * k) : Nat) : Int)) := rfl
      have hfit := fit_at (blankL_fit hf n k) k
      have hlen : (blankL zs n k).length = zs.length := blankL_length ..
      have hcc := ho.cell k (by omega)
      have hop := ho.open k
      have hos := ho.set k (by omega)
      have hfc := fun w => first_calls (n - 8 * k) w (by omega)
      have hml := msk_lt (n - 8 * k)
      generalize hy : blankL zs n (k + 1) = y at *
      have HY : Hid _ := hy
      clear hy
      generalize blankL zs n k = x at *
      generalize x[k]?.getD 0 = z at *
      generalize msk (n - 8 * k) = mk at *
      have hand := u8_and z (mk : Int) hfit.1 hfit.2 (by omega) (by omega)
      rw [Int.toNat_natCast] at hand
      generalize z.toNat &&& mk = s at *
      have HS : Hid _ := hset
      have HO : Hid _ := hos
      have HF : Hid _ := hfc
      clear hset hos hfc
      have hw1 := wrap_i64 (8 * (k : Int)) (by omega)
      have hw2 := wrap_i64 (n - 8 * (k : Int)) (by omega)
      go_wp2_with fail
      go_region_with (go_at_call 68; refine Calls.mono (HF.out _) ?_; rintro e w1 ⟨rfl, rfl⟩)
      all_goals
        go_wp2
        refine ⟨⟨k + 1, by omega, by simp, ?_, (hB.set _ _).drew⟩, by simp [intOf]; omega⟩
        rw [HY.out, HS.out]
        have ho2 := HO.out (s : Int)
        exact ⟨ho2.typed, ho2.cell⟩
    · obtain rfl : k = zs.length := by omega
      go_wp2
      exact bodyPost_end (results_none rfl _ _ _) rfl ⟨rfl, ho, hB⟩

end Go.Proofs.YtlpbffcijhgelaaDoor
