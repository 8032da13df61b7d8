/-
  Embedded addresses, length by length.
-/
import Derived.Test.YtfiiopgdgfbkkaaDoorQc5
import Derived.Test.YtfiiopgdgfbkkaaDoorQc6
namespace Go.Proofs.YtfiiopgdgfbkkaaDoor
set_option linter.unusedVariables false
set_option linter.unusedSimpArgs false
open Go Go.RowKit

theorem bl_zero (z k : Int) (h : k ≤ 0) : bl z k = 0 := by
  have e : msk k = 0 := by
    unfold msk
    have : (min (max k 0) 8).toNat = 0 := by omega
    rw [this]
  unfold bl
  rw [e]
  simp
theorem bl_full (z k : Int) (hz : 0 ≤ z ∧ z < 256) (h : 8 ≤ k) : bl z k = z := by
  have e : msk k = 255 := by
    unfold msk
    have : (min (max k 0) 8).toNat = 8 := by omega
    rw [this]
  unfold bl
  rw [e, show (255 : Nat) = 2 ^ 8 - 1 from rfl, Nat.and_two_pow_sub_one_eq_mod]
  omega
theorem bl_nil (k : Int) : bl 0 k = 0 := by
  unfold bl
  simp
theorem bl_eq (z k1 k2 : Int) (hz : 0 ≤ z ∧ z < 256) (h : k1 = k2 ∨ (8 ≤ k1 ∧ 8 ≤ k2) ∨ (k1 ≤ 0 ∧ k2 ≤ 0)) : bl z k1 = bl z k2 := by
  rcases h with rfl | ⟨h1, h2⟩ | ⟨h1, h2⟩
  · rfl
  · rw [bl_full z k1 hz h1, bl_full z k2 hz h2]
  · rw [bl_zero z k1 h1, bl_zero z k2 h2]

theorem blR16 (n x0 x1 x2 x3 x4 x5 x6 x7 x8 x9 x10 x11 x12 x13 x14 x15 : Int) : blR n [x0, x1, x2, x3, x4, x5, x6, x7, x8, x9, x10, x11, x12, x13, x14, x15] = [bl x0 n, bl x1 (n - 8), bl x2 (n - 16), bl x3 (n - 24), bl x4 (n - 32), bl x5 (n - 40), bl x6 (n - 48), bl x7 (n - 56), bl x8 (n - 64), bl x9 (n - 72), bl x10 (n - 80), bl x11 (n - 88), bl x12 (n - 96), bl x13 (n - 104), bl x14 (n - 112), bl x15 (n - 120)] := by
  simp [blR]
theorem blR4' (n x0 x1 x2 x3 : Int) : blR n [x0, x1, x2, x3] = [bl x0 n, bl x1 (n - 8), bl x2 (n - 16), bl x3 (n - 24)] := by
  simp [blR]

/-- What is known of an address in a prefix. -/
structure Emb (l : List Int) (n : Int) (a : List Int) : Prop where
  inn : blR n (putL l n a) = l
  got : getL (putL l n a) (plc n) = a
  nil8 : (putL l n a).getD 8 0 = 0
  cut : ∀ m : Int, 0 ≤ m → m ≤ 32 → blR (rngN n m) (putL l n a) = putL l n (blR m a)

set_option maxHeartbeats 1000000 in
theorem emb_32 (l a : List Int) (hl : l.length = 16) (hf : FitB l) (h : l = blR 32 l) (h8 : l.getD 8 0 = 0) (ha : a.length = 4) (hfa : FitB a) : Emb l 32 a := by
  obtain ⟨x0, x1, x2, x3, x4, x5, x6, x7, x8, x9, x10, x11, x12, x13, x14, x15, rfl⟩ := six16 hl
  obtain ⟨a0, a1, a2, a3, rfl⟩ := list4 ha
  rw [blR16] at h
  simp only [List.cons.injEq, and_true] at h
  obtain ⟨e0, e1, e2, e3, e4, e5, e6, e7, e8, e9, e10, e11, e12, e13, e14, e15⟩ := h
  have z4 : x4 = 0 := e4.trans (bl_zero _ _ (by decide))
  have z5 : x5 = 0 := e5.trans (bl_zero _ _ (by decide))
  have z6 : x6 = 0 := e6.trans (bl_zero _ _ (by decide))
  have z7 : x7 = 0 := e7.trans (bl_zero _ _ (by decide))
  have z8 : x8 = 0 := e8.trans (bl_zero _ _ (by decide))
  have z9 : x9 = 0 := e9.trans (bl_zero _ _ (by decide))
  have z10 : x10 = 0 := e10.trans (bl_zero _ _ (by decide))
  have z11 : x11 = 0 := e11.trans (bl_zero _ _ (by decide))
  have z12 : x12 = 0 := e12.trans (bl_zero _ _ (by decide))
  have z13 : x13 = 0 := e13.trans (bl_zero _ _ (by decide))
  have z14 : x14 = 0 := e14.trans (bl_zero _ _ (by decide))
  have z15 : x15 = 0 := e15.trans (bl_zero _ _ (by decide))
  clear e0 e1 e2 e3 e4 e5 e6 e7 e8 e9 e10 e11 e12 e13 e14 e15 h8
  subst z4 z5 z6 z7 z8 z9 z10 z11 z12 z13 z14 z15
  have f0 := hf x0 (by simp)
  have f1 := hf x1 (by simp)
  have f2 := hf x2 (by simp)
  have f3 := hf x3 (by simp)
  have g0 := hfa a0 (by simp)
  have g1 := hfa a1 (by simp)
  have g2 := hfa a2 (by simp)
  have g3 := hfa a3 (by simp)
  have hp : ∀ b0 b1 b2 b3 : Int, putL [x0, x1, x2, x3, 0, 0, 0, 0, 0, 0, 0, 0, 0, 0, 0, 0] 32 [b0, b1, b2, b3] = [x0, x1, x2, x3, b0, b1, b2, b3, 0, 0, 0, 0, 0, 0, 0, 0] := fun b0 b1 b2 b3 => rfl
  refine ⟨?_, ?_, ?_, fun m h0 h32 => ?_⟩
  · rw [hp, blR16]
    rw [show bl x0 32 = x0 from bl_full _ _ f0 (by decide), show bl x1 (32 - 8) = x1 from bl_full _ _ f1 (by decide), show bl x2 (32 - 16) = x2 from bl_full _ _ f2 (by decide), show bl x3 (32 - 24) = x3 from bl_full _ _ f3 (by decide), show bl a0 (32 - 32) = 0 from bl_zero _ _ (by decide), show bl a1 (32 - 40) = 0 from bl_zero _ _ (by decide), show bl a2 (32 - 48) = 0 from bl_zero _ _ (by decide), show bl a3 (32 - 56) = 0 from bl_zero _ _ (by decide), show bl 0 (32 - 64) = 0 from bl_nil _, show bl 0 (32 - 72) = 0 from bl_nil _, show bl 0 (32 - 80) = 0 from bl_nil _, show bl 0 (32 - 88) = 0 from bl_nil _, show bl 0 (32 - 96) = 0 from bl_nil _, show bl 0 (32 - 104) = 0 from bl_nil _, show bl 0 (32 - 112) = 0 from bl_nil _, show bl 0 (32 - 120) = 0 from bl_nil _]
  · rw [hp]; rfl
  · rw [hp]; rfl
  · rw [hp, blR16, blR4', hp]
    have hN : (rngN 32 m = 32 + m) ∨ (rngN 32 m = 32 + m + 8 ∧ 32 + m > 64 ∧ (32 : Int) ≤ 64) := by unfold rngN; split <;> omega
    have hN2 : rngN 32 m = 32 + m → ¬ (32 ≤ 64 ∧ (64 : Int) < 32 + m) := fun e h => by unfold rngN at e; rw [if_pos (by omega)] at e; omega
    generalize rngN 32 m = N at *
    have hN3 : (N = 32 + m ∧ ¬ (32 ≤ 64 ∧ (64 : Int) < 32 + m)) ∨ (N = 32 + m + 8 ∧ 32 + m > 64 ∧ (32 : Int) ≤ 64) := hN.elim (fun e => .inl ⟨e, hN2 e⟩) .inr
    clear hN hN2
    rw [show bl x0 (N) = x0 from bl_full _ _ f0 (by omega), show bl x1 (N - 8) = x1 from bl_full _ _ f1 (by omega), show bl x2 (N - 16) = x2 from bl_full _ _ f2 (by omega), show bl x3 (N - 24) = x3 from bl_full _ _ f3 (by omega), show bl a0 (N - 32) = bl a0 (m) from bl_eq _ _ _ g0 (by omega), show bl a1 (N - 40) = bl a1 (m - 8) from bl_eq _ _ _ g1 (by omega), show bl a2 (N - 48) = bl a2 (m - 16) from bl_eq _ _ _ g2 (by omega), show bl a3 (N - 56) = bl a3 (m - 24) from bl_eq _ _ _ g3 (by omega), show bl 0 (N - 64) = 0 from bl_nil _, show bl 0 (N - 72) = 0 from bl_nil _, show bl 0 (N - 80) = 0 from bl_nil _, show bl 0 (N - 88) = 0 from bl_nil _, show bl 0 (N - 96) = 0 from bl_nil _, show bl 0 (N - 104) = 0 from bl_nil _, show bl 0 (N - 112) = 0 from bl_nil _, show bl 0 (N - 120) = 0 from bl_nil _]
set_option maxHeartbeats 1000000 in
theorem emb_40 (l a : List Int) (hl : l.length = 16) (hf : FitB l) (h : l = blR 40 l) (h8 : l.getD 8 0 = 0) (ha : a.length = 4) (hfa : FitB a) : Emb l 40 a := by
  obtain ⟨x0, x1, x2, x3, x4, x5, x6, x7, x8, x9, x10, x11, x12, x13, x14, x15, rfl⟩ := six16 hl
  obtain ⟨a0, a1, a2, a3, rfl⟩ := list4 ha
  rw [blR16] at h
  simp only [List.cons.injEq, and_true] at h
  obtain ⟨e0, e1, e2, e3, e4, e5, e6, e7, e8, e9, e10, e11, e12, e13, e14, e15⟩ := h
  have z5 : x5 = 0 := e5.trans (bl_zero _ _ (by decide))
  have z6 : x6 = 0 := e6.trans (bl_zero _ _ (by decide))
  have z7 : x7 = 0 := e7.trans (bl_zero _ _ (by decide))
  have z8 : x8 = 0 := e8.trans (bl_zero _ _ (by decide))
  have z9 : x9 = 0 := e9.trans (bl_zero _ _ (by decide))
  have z10 : x10 = 0 := e10.trans (bl_zero _ _ (by decide))
  have z11 : x11 = 0 := e11.trans (bl_zero _ _ (by decide))
  have z12 : x12 = 0 := e12.trans (bl_zero _ _ (by decide))
  have z13 : x13 = 0 := e13.trans (bl_zero _ _ (by decide))
  have z14 : x14 = 0 := e14.trans (bl_zero _ _ (by decide))
  have z15 : x15 = 0 := e15.trans (bl_zero _ _ (by decide))
  clear e0 e1 e2 e3 e4 e5 e6 e7 e8 e9 e10 e11 e12 e13 e14 e15 h8
  subst z5 z6 z7 z8 z9 z10 z11 z12 z13 z14 z15
  have f0 := hf x0 (by simp)
  have f1 := hf x1 (by simp)
  have f2 := hf x2 (by simp)
  have f3 := hf x3 (by simp)
  have f4 := hf x4 (by simp)
  have g0 := hfa a0 (by simp)
  have g1 := hfa a1 (by simp)
  have g2 := hfa a2 (by simp)
  have g3 := hfa a3 (by simp)
  have hp : ∀ b0 b1 b2 b3 : Int, putL [x0, x1, x2, x3, x4, 0, 0, 0, 0, 0, 0, 0, 0, 0, 0, 0] 40 [b0, b1, b2, b3] = [x0, x1, x2, x3, x4, b0, b1, b2, 0, b3, 0, 0, 0, 0, 0, 0] := fun b0 b1 b2 b3 => rfl
  refine ⟨?_, ?_, ?_, fun m h0 h32 => ?_⟩
  · rw [hp, blR16]
    rw [show bl x0 40 = x0 from bl_full _ _ f0 (by decide), show bl x1 (40 - 8) = x1 from bl_full _ _ f1 (by decide), show bl x2 (40 - 16) = x2 from bl_full _ _ f2 (by decide), show bl x3 (40 - 24) = x3 from bl_full _ _ f3 (by decide), show bl x4 (40 - 32) = x4 from bl_full _ _ f4 (by decide), show bl a0 (40 - 40) = 0 from bl_zero _ _ (by decide), show bl a1 (40 - 48) = 0 from bl_zero _ _ (by decide), show bl a2 (40 - 56) = 0 from bl_zero _ _ (by decide), show bl 0 (40 - 64) = 0 from bl_nil _, show bl a3 (40 - 72) = 0 from bl_zero _ _ (by decide), show bl 0 (40 - 80) = 0 from bl_nil _, show bl 0 (40 - 88) = 0 from bl_nil _, show bl 0 (40 - 96) = 0 from bl_nil _, show bl 0 (40 - 104) = 0 from bl_nil _, show bl 0 (40 - 112) = 0 from bl_nil _, show bl 0 (40 - 120) = 0 from bl_nil _]
  · rw [hp]; rfl
  · rw [hp]; rfl
  · rw [hp, blR16, blR4', hp]
    have hN : (rngN 40 m = 40 + m) ∨ (rngN 40 m = 40 + m + 8 ∧ 40 + m > 64 ∧ (40 : Int) ≤ 64) := by unfold rngN; split <;> omega
    have hN2 : rngN 40 m = 40 + m → ¬ (40 ≤ 64 ∧ (64 : Int) < 40 + m) := fun e h => by unfold rngN at e; rw [if_pos (by omega)] at e; omega
    generalize rngN 40 m = N at *
    have hN3 : (N = 40 + m ∧ ¬ (40 ≤ 64 ∧ (64 : Int) < 40 + m)) ∨ (N = 40 + m + 8 ∧ 40 + m > 64 ∧ (40 : Int) ≤ 64) := hN.elim (fun e => .inl ⟨e, hN2 e⟩) .inr
    clear hN hN2
    rw [show bl x0 (N) = x0 from bl_full _ _ f0 (by omega), show bl x1 (N - 8) = x1 from bl_full _ _ f1 (by omega), show bl x2 (N - 16) = x2 from bl_full _ _ f2 (by omega), show bl x3 (N - 24) = x3 from bl_full _ _ f3 (by omega), show bl x4 (N - 32) = x4 from bl_full _ _ f4 (by omega), show bl a0 (N - 40) = bl a0 (m) from bl_eq _ _ _ g0 (by omega), show bl a1 (N - 48) = bl a1 (m - 8) from bl_eq _ _ _ g1 (by omega), show bl a2 (N - 56) = bl a2 (m - 16) from bl_eq _ _ _ g2 (by omega), show bl 0 (N - 64) = 0 from bl_nil _, show bl a3 (N - 72) = bl a3 (m - 24) from bl_eq _ _ _ g3 (by omega), show bl 0 (N - 80) = 0 from bl_nil _, show bl 0 (N - 88) = 0 from bl_nil _, show bl 0 (N - 96) = 0 from bl_nil _, show bl 0 (N - 104) = 0 from bl_nil _, show bl 0 (N - 112) = 0 from bl_nil _, show bl 0 (N - 120) = 0 from bl_nil _]
set_option maxHeartbeats 1000000 in
theorem emb_48 (l a : List Int) (hl : l.length = 16) (hf : FitB l) (h : l = blR 48 l) (h8 : l.getD 8 0 = 0) (ha : a.length = 4) (hfa : FitB a) : Emb l 48 a := by
  obtain ⟨x0, x1, x2, x3, x4, x5, x6, x7, x8, x9, x10, x11, x12, x13, x14, x15, rfl⟩ := six16 hl
  obtain ⟨a0, a1, a2, a3, rfl⟩ := list4 ha
  rw [blR16] at h
  simp only [List.cons.injEq, and_true] at h
  obtain ⟨e0, e1, e2, e3, e4, e5, e6, e7, e8, e9, e10, e11, e12, e13, e14, e15⟩ := h
  have z6 : x6 = 0 := e6.trans (bl_zero _ _ (by decide))
  have z7 : x7 = 0 := e7.trans (bl_zero _ _ (by decide))
  have z8 : x8 = 0 := e8.trans (bl_zero _ _ (by decide))
  have z9 : x9 = 0 := e9.trans (bl_zero _ _ (by decide))
  have z10 : x10 = 0 := e10.trans (bl_zero _ _ (by decide))
  have z11 : x11 = 0 := e11.trans (bl_zero _ _ (by decide))
  have z12 : x12 = 0 := e12.trans (bl_zero _ _ (by decide))
  have z13 : x13 = 0 := e13.trans (bl_zero _ _ (by decide))
  have z14 : x14 = 0 := e14.trans (bl_zero _ _ (by decide))
  have z15 : x15 = 0 := e15.trans (bl_zero _ _ (by decide))
  clear e0 e1 e2 e3 e4 e5 e6 e7 e8 e9 e10 e11 e12 e13 e14 e15 h8
  subst z6 z7 z8 z9 z10 z11 z12 z13 z14 z15
  have f0 := hf x0 (by simp)
  have f1 := hf x1 (by simp)
  have f2 := hf x2 (by simp)
  have f3 := hf x3 (by simp)
  have f4 := hf x4 (by simp)
  have f5 := hf x5 (by simp)
  have g0 := hfa a0 (by simp)
  have g1 := hfa a1 (by simp)
  have g2 := hfa a2 (by simp)
  have g3 := hfa a3 (by simp)
  have hp : ∀ b0 b1 b2 b3 : Int, putL [x0, x1, x2, x3, x4, x5, 0, 0, 0, 0, 0, 0, 0, 0, 0, 0] 48 [b0, b1, b2, b3] = [x0, x1, x2, x3, x4, x5, b0, b1, 0, b2, b3, 0, 0, 0, 0, 0] := fun b0 b1 b2 b3 => rfl
  refine ⟨?_, ?_, ?_, fun m h0 h32 => ?_⟩
  · rw [hp, blR16]
    rw [show bl x0 48 = x0 from bl_full _ _ f0 (by decide), show bl x1 (48 - 8) = x1 from bl_full _ _ f1 (by decide), show bl x2 (48 - 16) = x2 from bl_full _ _ f2 (by decide), show bl x3 (48 - 24) = x3 from bl_full _ _ f3 (by decide), show bl x4 (48 - 32) = x4 from bl_full _ _ f4 (by decide), show bl x5 (48 - 40) = x5 from bl_full _ _ f5 (by decide), show bl a0 (48 - 48) = 0 from bl_zero _ _ (by decide), show bl a1 (48 - 56) = 0 from bl_zero _ _ (by decide), show bl 0 (48 - 64) = 0 from bl_nil _, show bl a2 (48 - 72) = 0 from bl_zero _ _ (by decide), show bl a3 (48 - 80) = 0 from bl_zero _ _ (by decide), show bl 0 (48 - 88) = 0 from bl_nil _, show bl 0 (48 - 96) = 0 from bl_nil _, show bl 0 (48 - 104) = 0 from bl_nil _, show bl 0 (48 - 112) = 0 from bl_nil _, show bl 0 (48 - 120) = 0 from bl_nil _]
  · rw [hp]; rfl
  · rw [hp]; rfl
  · rw [hp, blR16, blR4', hp]
    have hN : (rngN 48 m = 48 + m) ∨ (rngN 48 m = 48 + m + 8 ∧ 48 + m > 64 ∧ (48 : Int) ≤ 64) := by unfold rngN; split <;> omega
    have hN2 : rngN 48 m = 48 + m → ¬ (48 ≤ 64 ∧ (64 : Int) < 48 + m) := fun e h => by unfold rngN at e; rw [if_pos (by omega)] at e; omega
    generalize rngN 48 m = N at *
    have hN3 : (N = 48 + m ∧ ¬ (48 ≤ 64 ∧ (64 : Int) < 48 + m)) ∨ (N = 48 + m + 8 ∧ 48 + m > 64 ∧ (48 : Int) ≤ 64) := hN.elim (fun e => .inl ⟨e, hN2 e⟩) .inr
    clear hN hN2
    rw [show bl x0 (N) = x0 from bl_full _ _ f0 (by omega), show bl x1 (N - 8) = x1 from bl_full _ _ f1 (by omega), show bl x2 (N - 16) = x2 from bl_full _ _ f2 (by omega), show bl x3 (N - 24) = x3 from bl_full _ _ f3 (by omega), show bl x4 (N - 32) = x4 from bl_full _ _ f4 (by omega), show bl x5 (N - 40) = x5 from bl_full _ _ f5 (by omega), show bl a0 (N - 48) = bl a0 (m) from bl_eq _ _ _ g0 (by omega), show bl a1 (N - 56) = bl a1 (m - 8) from bl_eq _ _ _ g1 (by omega), show bl 0 (N - 64) = 0 from bl_nil _, show bl a2 (N - 72) = bl a2 (m - 16) from bl_eq _ _ _ g2 (by omega), show bl a3 (N - 80) = bl a3 (m - 24) from bl_eq _ _ _ g3 (by omega), show bl 0 (N - 88) = 0 from bl_nil _, show bl 0 (N - 96) = 0 from bl_nil _, show bl 0 (N - 104) = 0 from bl_nil _, show bl 0 (N - 112) = 0 from bl_nil _, show bl 0 (N - 120) = 0 from bl_nil _]
set_option maxHeartbeats 1000000 in
theorem emb_56 (l a : List Int) (hl : l.length = 16) (hf : FitB l) (h : l = blR 56 l) (h8 : l.getD 8 0 = 0) (ha : a.length = 4) (hfa : FitB a) : Emb l 56 a := by
  obtain ⟨x0, x1, x2, x3, x4, x5, x6, x7, x8, x9, x10, x11, x12, x13, x14, x15, rfl⟩ := six16 hl
  obtain ⟨a0, a1, a2, a3, rfl⟩ := list4 ha
  rw [blR16] at h
  simp only [List.cons.injEq, and_true] at h
  obtain ⟨e0, e1, e2, e3, e4, e5, e6, e7, e8, e9, e10, e11, e12, e13, e14, e15⟩ := h
  have z7 : x7 = 0 := e7.trans (bl_zero _ _ (by decide))
  have z8 : x8 = 0 := e8.trans (bl_zero _ _ (by decide))
  have z9 : x9 = 0 := e9.trans (bl_zero _ _ (by decide))
  have z10 : x10 = 0 := e10.trans (bl_zero _ _ (by decide))
  have z11 : x11 = 0 := e11.trans (bl_zero _ _ (by decide))
  have z12 : x12 = 0 := e12.trans (bl_zero _ _ (by decide))
  have z13 : x13 = 0 := e13.trans (bl_zero _ _ (by decide))
  have z14 : x14 = 0 := e14.trans (bl_zero _ _ (by decide))
  have z15 : x15 = 0 := e15.trans (bl_zero _ _ (by decide))
  clear e0 e1 e2 e3 e4 e5 e6 e7 e8 e9 e10 e11 e12 e13 e14 e15 h8
  subst z7 z8 z9 z10 z11 z12 z13 z14 z15
  have f0 := hf x0 (by simp)
  have f1 := hf x1 (by simp)
  have f2 := hf x2 (by simp)
  have f3 := hf x3 (by simp)
  have f4 := hf x4 (by simp)
  have f5 := hf x5 (by simp)
  have f6 := hf x6 (by simp)
  have g0 := hfa a0 (by simp)
  have g1 := hfa a1 (by simp)
  have g2 := hfa a2 (by simp)
  have g3 := hfa a3 (by simp)
  have hp : ∀ b0 b1 b2 b3 : Int, putL [x0, x1, x2, x3, x4, x5, x6, 0, 0, 0, 0, 0, 0, 0, 0, 0] 56 [b0, b1, b2, b3] = [x0, x1, x2, x3, x4, x5, x6, b0, 0, b1, b2, b3, 0, 0, 0, 0] := fun b0 b1 b2 b3 => rfl
  refine ⟨?_, ?_, ?_, fun m h0 h32 => ?_⟩
  · rw [hp, blR16]
    rw [show bl x0 56 = x0 from bl_full _ _ f0 (by decide), show bl x1 (56 - 8) = x1 from bl_full _ _ f1 (by decide), show bl x2 (56 - 16) = x2 from bl_full _ _ f2 (by decide), show bl x3 (56 - 24) = x3 from bl_full _ _ f3 (by decide), show bl x4 (56 - 32) = x4 from bl_full _ _ f4 (by decide), show bl x5 (56 - 40) = x5 from bl_full _ _ f5 (by decide), show bl x6 (56 - 48) = x6 from bl_full _ _ f6 (by decide), show bl a0 (56 - 56) = 0 from bl_zero _ _ (by decide), show bl 0 (56 - 64) = 0 from bl_nil _, show bl a1 (56 - 72) = 0 from bl_zero _ _ (by decide), show bl a2 (56 - 80) = 0 from bl_zero _ _ (by decide), show bl a3 (56 - 88) = 0 from bl_zero _ _ (by decide), show bl 0 (56 - 96) = 0 from bl_nil _, show bl 0 (56 - 104) = 0 from bl_nil _, show bl 0 (56 - 112) = 0 from bl_nil _, show bl 0 (56 - 120) = 0 from bl_nil _]
  · rw [hp]; rfl
  · rw [hp]; rfl
  · rw [hp, blR16, blR4', hp]
    have hN : (rngN 56 m = 56 + m) ∨ (rngN 56 m = 56 + m + 8 ∧ 56 + m > 64 ∧ (56 : Int) ≤ 64) := by unfold rngN; split <;> omega
    have hN2 : rngN 56 m = 56 + m → ¬ (56 ≤ 64 ∧ (64 : Int) < 56 + m) := fun e h => by unfold rngN at e; rw [if_pos (by omega)] at e; omega
    generalize rngN 56 m = N at *
    have hN3 : (N = 56 + m ∧ ¬ (56 ≤ 64 ∧ (64 : Int) < 56 + m)) ∨ (N = 56 + m + 8 ∧ 56 + m > 64 ∧ (56 : Int) ≤ 64) := hN.elim (fun e => .inl ⟨e, hN2 e⟩) .inr
    clear hN hN2
    rw [show bl x0 (N) = x0 from bl_full _ _ f0 (by omega), show bl x1 (N - 8) = x1 from bl_full _ _ f1 (by omega), show bl x2 (N - 16) = x2 from bl_full _ _ f2 (by omega), show bl x3 (N - 24) = x3 from bl_full _ _ f3 (by omega), show bl x4 (N - 32) = x4 from bl_full _ _ f4 (by omega), show bl x5 (N - 40) = x5 from bl_full _ _ f5 (by omega), show bl x6 (N - 48) = x6 from bl_full _ _ f6 (by omega), show bl a0 (N - 56) = bl a0 (m) from bl_eq _ _ _ g0 (by omega), show bl 0 (N - 64) = 0 from bl_nil _, show bl a1 (N - 72) = bl a1 (m - 8) from bl_eq _ _ _ g1 (by omega), show bl a2 (N - 80) = bl a2 (m - 16) from bl_eq _ _ _ g2 (by omega), show bl a3 (N - 88) = bl a3 (m - 24) from bl_eq _ _ _ g3 (by omega), show bl 0 (N - 96) = 0 from bl_nil _, show bl 0 (N - 104) = 0 from bl_nil _, show bl 0 (N - 112) = 0 from bl_nil _, show bl 0 (N - 120) = 0 from bl_nil _]
set_option maxHeartbeats 1000000 in
theorem emb_64 (l a : List Int) (hl : l.length = 16) (hf : FitB l) (h : l = blR 64 l) (h8 : l.getD 8 0 = 0) (ha : a.length = 4) (hfa : FitB a) : Emb l 64 a := by
  obtain ⟨x0, x1, x2, x3, x4, x5, x6, x7, x8, x9, x10, x11, x12, x13, x14, x15, rfl⟩ := six16 hl
  obtain ⟨a0, a1, a2, a3, rfl⟩ := list4 ha
  rw [blR16] at h
  simp only [List.cons.injEq, and_true] at h
  obtain ⟨e0, e1, e2, e3, e4, e5, e6, e7, e8, e9, e10, e11, e12, e13, e14, e15⟩ := h
  have z8 : x8 = 0 := e8.trans (bl_zero _ _ (by decide))
  have z9 : x9 = 0 := e9.trans (bl_zero _ _ (by decide))
  have z10 : x10 = 0 := e10.trans (bl_zero _ _ (by decide))
  have z11 : x11 = 0 := e11.trans (bl_zero _ _ (by decide))
  have z12 : x12 = 0 := e12.trans (bl_zero _ _ (by decide))
  have z13 : x13 = 0 := e13.trans (bl_zero _ _ (by decide))
  have z14 : x14 = 0 := e14.trans (bl_zero _ _ (by decide))
  have z15 : x15 = 0 := e15.trans (bl_zero _ _ (by decide))
  clear e0 e1 e2 e3 e4 e5 e6 e7 e8 e9 e10 e11 e12 e13 e14 e15 h8
  subst z8 z9 z10 z11 z12 z13 z14 z15
  have f0 := hf x0 (by simp)
  have f1 := hf x1 (by simp)
  have f2 := hf x2 (by simp)
  have f3 := hf x3 (by simp)
  have f4 := hf x4 (by simp)
  have f5 := hf x5 (by simp)
  have f6 := hf x6 (by simp)
  have f7 := hf x7 (by simp)
  have g0 := hfa a0 (by simp)
  have g1 := hfa a1 (by simp)
  have g2 := hfa a2 (by simp)
  have g3 := hfa a3 (by simp)
  have hp : ∀ b0 b1 b2 b3 : Int, putL [x0, x1, x2, x3, x4, x5, x6, x7, 0, 0, 0, 0, 0, 0, 0, 0] 64 [b0, b1, b2, b3] = [x0, x1, x2, x3, x4, x5, x6, x7, 0, b0, b1, b2, b3, 0, 0, 0] := fun b0 b1 b2 b3 => rfl
  refine ⟨?_, ?_, ?_, fun m h0 h32 => ?_⟩
  · rw [hp, blR16]
    rw [show bl x0 64 = x0 from bl_full _ _ f0 (by decide), show bl x1 (64 - 8) = x1 from bl_full _ _ f1 (by decide), show bl x2 (64 - 16) = x2 from bl_full _ _ f2 (by decide), show bl x3 (64 - 24) = x3 from bl_full _ _ f3 (by decide), show bl x4 (64 - 32) = x4 from bl_full _ _ f4 (by decide), show bl x5 (64 - 40) = x5 from bl_full _ _ f5 (by decide), show bl x6 (64 - 48) = x6 from bl_full _ _ f6 (by decide), show bl x7 (64 - 56) = x7 from bl_full _ _ f7 (by decide), show bl 0 (64 - 64) = 0 from bl_nil _, show bl a0 (64 - 72) = 0 from bl_zero _ _ (by decide), show bl a1 (64 - 80) = 0 from bl_zero _ _ (by decide), show bl a2 (64 - 88) = 0 from bl_zero _ _ (by decide), show bl a3 (64 - 96) = 0 from bl_zero _ _ (by decide), show bl 0 (64 - 104) = 0 from bl_nil _, show bl 0 (64 - 112) = 0 from bl_nil _, show bl 0 (64 - 120) = 0 from bl_nil _]
  · rw [hp]; rfl
  · rw [hp]; rfl
  · rw [hp, blR16, blR4', hp]
    have hN : (rngN 64 m = 64 + m) ∨ (rngN 64 m = 64 + m + 8 ∧ 64 + m > 64 ∧ (64 : Int) ≤ 64) := by unfold rngN; split <;> omega
    have hN2 : rngN 64 m = 64 + m → ¬ (64 ≤ 64 ∧ (64 : Int) < 64 + m) := fun e h => by unfold rngN at e; rw [if_pos (by omega)] at e; omega
    generalize rngN 64 m = N at *
    have hN3 : (N = 64 + m ∧ ¬ (64 ≤ 64 ∧ (64 : Int) < 64 + m)) ∨ (N = 64 + m + 8 ∧ 64 + m > 64 ∧ (64 : Int) ≤ 64) := hN.elim (fun e => .inl ⟨e, hN2 e⟩) .inr
    clear hN hN2
    rw [show bl x0 (N) = x0 from bl_full _ _ f0 (by omega), show bl x1 (N - 8) = x1 from bl_full _ _ f1 (by omega), show bl x2 (N - 16) = x2 from bl_full _ _ f2 (by omega), show bl x3 (N - 24) = x3 from bl_full _ _ f3 (by omega), show bl x4 (N - 32) = x4 from bl_full _ _ f4 (by omega), show bl x5 (N - 40) = x5 from bl_full _ _ f5 (by omega), show bl x6 (N - 48) = x6 from bl_full _ _ f6 (by omega), show bl x7 (N - 56) = x7 from bl_full _ _ f7 (by omega), show bl 0 (N - 64) = 0 from bl_nil _, show bl a0 (N - 72) = bl a0 (m) from bl_eq _ _ _ g0 (by omega), show bl a1 (N - 80) = bl a1 (m - 8) from bl_eq _ _ _ g1 (by omega), show bl a2 (N - 88) = bl a2 (m - 16) from bl_eq _ _ _ g2 (by omega), show bl a3 (N - 96) = bl a3 (m - 24) from bl_eq _ _ _ g3 (by omega), show bl 0 (N - 104) = 0 from bl_nil _, show bl 0 (N - 112) = 0 from bl_nil _, show bl 0 (N - 120) = 0 from bl_nil _]
set_option maxHeartbeats 1000000 in
theorem emb_96 (l a : List Int) (hl : l.length = 16) (hf : FitB l) (h : l = blR 96 l) (h8 : l.getD 8 0 = 0) (ha : a.length = 4) (hfa : FitB a) : Emb l 96 a := by
  obtain ⟨x0, x1, x2, x3, x4, x5, x6, x7, x8, x9, x10, x11, x12, x13, x14, x15, rfl⟩ := six16 hl
  obtain ⟨a0, a1, a2, a3, rfl⟩ := list4 ha
  rw [blR16] at h
  simp only [List.cons.injEq, and_true] at h
  obtain ⟨e0, e1, e2, e3, e4, e5, e6, e7, e8, e9, e10, e11, e12, e13, e14, e15⟩ := h
  have z12 : x12 = 0 := e12.trans (bl_zero _ _ (by decide))
  have z13 : x13 = 0 := e13.trans (bl_zero _ _ (by decide))
  have z14 : x14 = 0 := e14.trans (bl_zero _ _ (by decide))
  have z15 : x15 = 0 := e15.trans (bl_zero _ _ (by decide))
  have z8 : x8 = 0 := h8
  clear e0 e1 e2 e3 e4 e5 e6 e7 e8 e9 e10 e11 e12 e13 e14 e15 h8
  subst z12 z13 z14 z15 z8
  have f0 := hf x0 (by simp)
  have f1 := hf x1 (by simp)
  have f2 := hf x2 (by simp)
  have f3 := hf x3 (by simp)
  have f4 := hf x4 (by simp)
  have f5 := hf x5 (by simp)
  have f6 := hf x6 (by simp)
  have f7 := hf x7 (by simp)
  have f9 := hf x9 (by simp)
  have f10 := hf x10 (by simp)
  have f11 := hf x11 (by simp)
  have g0 := hfa a0 (by simp)
  have g1 := hfa a1 (by simp)
  have g2 := hfa a2 (by simp)
  have g3 := hfa a3 (by simp)
  have hp : ∀ b0 b1 b2 b3 : Int, putL [x0, x1, x2, x3, x4, x5, x6, x7, 0, x9, x10, x11, 0, 0, 0, 0] 96 [b0, b1, b2, b3] = [x0, x1, x2, x3, x4, x5, x6, x7, 0, x9, x10, x11, b0, b1, b2, b3] := fun b0 b1 b2 b3 => rfl
  refine ⟨?_, ?_, ?_, fun m h0 h32 => ?_⟩
  · rw [hp, blR16]
    rw [show bl x0 96 = x0 from bl_full _ _ f0 (by decide), show bl x1 (96 - 8) = x1 from bl_full _ _ f1 (by decide), show bl x2 (96 - 16) = x2 from bl_full _ _ f2 (by decide), show bl x3 (96 - 24) = x3 from bl_full _ _ f3 (by decide), show bl x4 (96 - 32) = x4 from bl_full _ _ f4 (by decide), show bl x5 (96 - 40) = x5 from bl_full _ _ f5 (by decide), show bl x6 (96 - 48) = x6 from bl_full _ _ f6 (by decide), show bl x7 (96 - 56) = x7 from bl_full _ _ f7 (by decide), show bl 0 (96 - 64) = 0 from bl_nil _, show bl x9 (96 - 72) = x9 from bl_full _ _ f9 (by decide), show bl x10 (96 - 80) = x10 from bl_full _ _ f10 (by decide), show bl x11 (96 - 88) = x11 from bl_full _ _ f11 (by decide), show bl a0 (96 - 96) = 0 from bl_zero _ _ (by decide), show bl a1 (96 - 104) = 0 from bl_zero _ _ (by decide), show bl a2 (96 - 112) = 0 from bl_zero _ _ (by decide), show bl a3 (96 - 120) = 0 from bl_zero _ _ (by decide)]
  · rw [hp]; rfl
  · rw [hp]; rfl
  · rw [hp, blR16, blR4', hp]
    have hN : (rngN 96 m = 96 + m) ∨ (rngN 96 m = 96 + m + 8 ∧ 96 + m > 64 ∧ (96 : Int) ≤ 64) := by unfold rngN; split <;> omega
    have hN2 : rngN 96 m = 96 + m → ¬ (96 ≤ 64 ∧ (64 : Int) < 96 + m) := fun e h => by unfold rngN at e; rw [if_pos (by omega)] at e; omega
    generalize rngN 96 m = N at *
    have hN3 : (N = 96 + m ∧ ¬ (96 ≤ 64 ∧ (64 : Int) < 96 + m)) ∨ (N = 96 + m + 8 ∧ 96 + m > 64 ∧ (96 : Int) ≤ 64) := hN.elim (fun e => .inl ⟨e, hN2 e⟩) .inr
    clear hN hN2
    rw [show bl x0 (N) = x0 from bl_full _ _ f0 (by omega), show bl x1 (N - 8) = x1 from bl_full _ _ f1 (by omega), show bl x2 (N - 16) = x2 from bl_full _ _ f2 (by omega), show bl x3 (N - 24) = x3 from bl_full _ _ f3 (by omega), show bl x4 (N - 32) = x4 from bl_full _ _ f4 (by omega), show bl x5 (N - 40) = x5 from bl_full _ _ f5 (by omega), show bl x6 (N - 48) = x6 from bl_full _ _ f6 (by omega), show bl x7 (N - 56) = x7 from bl_full _ _ f7 (by omega), show bl 0 (N - 64) = 0 from bl_nil _, show bl x9 (N - 72) = x9 from bl_full _ _ f9 (by omega), show bl x10 (N - 80) = x10 from bl_full _ _ f10 (by omega), show bl x11 (N - 88) = x11 from bl_full _ _ f11 (by omega), show bl a0 (N - 96) = bl a0 (m) from bl_eq _ _ _ g0 (by omega), show bl a1 (N - 104) = bl a1 (m - 8) from bl_eq _ _ _ g1 (by omega), show bl a2 (N - 112) = bl a2 (m - 16) from bl_eq _ _ _ g2 (by omega), show bl a3 (N - 120) = bl a3 (m - 24) from bl_eq _ _ _ g3 (by omega)]

theorem emb_any {l a : List Int} {n : Int} (hl : l.length = 16) (hf : FitB l) (h : chkE l n = 0) (ha : a.length = 4) (hfa : FitB a) : Emb l n a := by
  obtain ⟨h1, h2, h3⟩ := chkE_ok h
  have hb : l = blR n l := by
    unfold okP6 at h1
    simp only [Bool.and_eq_true, decide_eq_true_eq] at h1
    exact h1.2
  rcases lenOk_six h2 with rfl | rfl | rfl | rfl | rfl | rfl
  · exact emb_32 l a hl hf hb h3 ha hfa
  · exact emb_40 l a hl hf hb h3 ha hfa
  · exact emb_48 l a hl hf hb h3 ha hfa
  · exact emb_56 l a hl hf hb h3 ha hfa
  · exact emb_64 l a hl hf hb h3 ha hfa
  · exact emb_96 l a hl hf hb h3 ha hfa

end Go.Proofs.YtfiiopgdgfbkkaaDoor
