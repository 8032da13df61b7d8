/-
  Rows of runs, plainly: what a walk over all ports collects, where the ports lie in blocks.
-/
import Derived.Test.YtmcofmdogopfjaaPa5
namespace Go.Proofs.Ytmcofmdogopfjaa
open Go Go.RowKit
set_option linter.unusedVariables false

def setLast (L : List (Nat × Nat)) (j : Nat) : List (Nat × Nat) := L.set (L.length - 1) ((L[L.length - 1]?.getD (0, 0)).1, j)
/-- Was the port ahead one of them? -/
def wasN (P : Nat → Bool) : Nat → Bool
  | 0 => false
  | j + 1 => P j
/-- The runs of the ports below j. -/
def runsTo (P : Nat → Bool) : Nat → List (Nat × Nat)
  | 0 => []
  | j + 1 => if P j then (if wasN P j then setLast (runsTo P j) j else runsTo P j ++ [(j, j)]) else runsTo P j

theorem runsTo_gap (P : Nat → Bool) (a : Nat) : ∀ d, (∀ n, a ≤ n → n < a + d → P n = false) → runsTo P (a + d) = runsTo P a ∧ (0 < d → wasN P (a + d) = false)
  | 0, _ => ⟨rfl, fun h => by omega⟩
  | d + 1, h => by
    have ih := runsTo_gap P a d (fun n h1 h2 => h n h1 (by omega))
    have h0 := h (a + d) (by omega) (by omega)
    refine ⟨?_, fun _ => h0⟩
    show runsTo P (a + d + 1) = _
    rw [runsTo, h0, if_neg (by simp), ih.1]
theorem runsTo_block (P : Nat → Bool) (a : Nat) (hw : wasN P a = false) : ∀ d, (∀ n, a ≤ n → n < a + (d + 1) → P n = true) → runsTo P (a + (d + 1)) = runsTo P a ++ [(a, a + d)]
  | 0, h => by
    have h0 := h a (by omega) (by omega)
    show runsTo P (a + 1) = _
    rw [runsTo, h0, if_pos rfl, hw, if_neg (by simp)]
    rfl
  | d + 1, h => by
    have ih := runsTo_block P a hw d (fun n h1 h2 => h n h1 (by omega))
    have h0 := h (a + (d + 1)) (by omega) (by omega)
    have h1 : wasN P (a + (d + 1)) = true := h (a + d) (by omega) (by omega)
    show runsTo P (a + (d + 1) + 1) = _
    rw [runsTo, h0, if_pos rfl, h1, if_pos rfl, ih]
    unfold setLast
    simp

/-- The runs of blocks. -/
def blkL (F S T B : Nat) : List (Nat × Nat) := (List.range B).map (fun i => (F + i * T, F + i * T + S - 1))
theorem blkL_succ (F S T i : Nat) : blkL F S T (i + 1) = blkL F S T i ++ [(F + i * T, F + i * T + S - 1)] := by
  unfold blkL
  rw [List.range_succ, List.map_append]
  rfl
theorem blkL_length (F S T B : Nat) : (blkL F S T B).length = B := by simp [blkL]
theorem blkL_at (F S T B j : Nat) (h : j < B) : (blkL F S T B)[j]? = some (F + j * T, F + j * T + S - 1) := by simp [blkL, h]

theorem runs_blocks (P : Nat → Bool) (F S T B N : Nat) (hS : 1 ≤ S) (hT : S < T) (hN : ∀ a r, a < B → r < S → F + a * T + r < N)
    (hP : ∀ n, n < N → (P n = true ↔ ∃ a r, a < B ∧ r < S ∧ n = F + a * T + r)) : ∀ i, i < B → runsTo P (F + i * T + S) = blkL F S T (i + 1) := by
  have yes : ∀ a r, a < B → r < S → P (F + a * T + r) = true := fun a r ha hr => (hP _ (hN a r ha hr)).2 ⟨a, r, ha, hr, rfl⟩
  have low : ∀ n, n < F → n < N → P n = false := fun n h hn => by
    cases hp : P n with
    | false => rfl
    | true =>
      obtain ⟨a, r, _, _, e⟩ := (hP n hn).1 hp
      omega
  have gap : ∀ a n, F + a * T + S ≤ n → n < F + (a + 1) * T → n < N → P n = false := fun a n h1 h2 hn => by
    cases hp : P n with
    | false => rfl
    | true =>
      obtain ⟨b, r, hb, hr, e⟩ := (hP n hn).1 hp
      rcases Nat.lt_trichotomy a b with h | h | h
      · have h3 : (a + 1) * T ≤ b * T := Nat.mul_le_mul_right _ h
        omega
      · subst h
        omega
      · have h3 : (b + 1) * T ≤ a * T := Nat.mul_le_mul_right _ h
        rw [Nat.add_mul] at h3
        omega
  intro i
  induction i with
  | zero =>
    intro hB
    have hF : F < N := by have := hN 0 0 hB hS; omega
    have g := runsTo_gap P 0 F (fun n _ h => low n (by omega) (by omega))
    rw [Nat.zero_add] at g
    have hw : wasN P F = false := by
      cases F with
      | zero => rfl
      | succ k => exact g.2 (by omega)
    obtain ⟨d, rfl⟩ : ∃ d, S = d + 1 := ⟨S - 1, by omega⟩
    have b := runsTo_block P F hw d (fun n h1 h2 => by
      have := yes 0 (n - F) hB (by omega)
      rw [Nat.zero_mul, Nat.add_zero, Nat.add_sub_cancel' h1] at this
      exact this)
    rw [Nat.zero_mul, Nat.add_zero, b, g.1]
    simp [runsTo, blkL]
  | succ i ih =>
    intro hB
    have ih := ih (by omega)
    have e : F + (i + 1) * T = F + i * T + S + (T - S) := by rw [Nat.add_mul]; omega
    have hb := hN (i + 1) 0 hB hS
    have g := runsTo_gap P (F + i * T + S) (T - S) (fun n h1 h2 => gap i n h1 (by omega) (by omega))
    rw [← e] at g
    have hw := g.2 (by omega)
    obtain ⟨d, rfl⟩ : ∃ d, S = d + 1 := ⟨S - 1, by omega⟩
    have b := runsTo_block P (F + (i + 1) * T) hw d (fun n h1 h2 => by
      have := yes (i + 1) (n - (F + (i + 1) * T)) hB (by omega)
      rw [Nat.add_sub_cancel' h1] at this
      exact this)
    rw [b, g.1, ih, blkL_succ F (d + 1) T (i + 1)]
    congr 1
theorem runs_one (P : Nat → Bool) (F S T N : Nat) (hS : 1 ≤ S) (hN : F + S ≤ N) (hP : ∀ n, n < N → (P n = true ↔ F ≤ n ∧ n < F + S)) : runsTo P (F + S) = blkL F S T 1 := by
  have g := runsTo_gap P 0 F (fun n _ h => by
    cases hp : P n with
    | false => rfl
    | true =>
      have := (hP n (by omega)).1 hp
      omega)
  rw [Nat.zero_add] at g
  have hw : wasN P F = false := by
    cases F with
    | zero => rfl
    | succ k => exact g.2 (by omega)
  obtain ⟨d, rfl⟩ : ∃ d, S = d + 1 := ⟨S - 1, by omega⟩
  have b := runsTo_block P F hw d (fun n h1 h2 => (hP n (by omega)).2 ⟨h1, h2⟩)
  rw [b, g.1]
  simp [runsTo, blkL]

/-- The runs of a set: F, S, T, B of its shape as it is walked. -/
def shS (o l : Nat) : Nat := if sz o l = st o then cnt o l else sz o l
def shB (o l : Nat) : Nat := if sz o l = st o then 1 else bk o
theorem has_form (o l p n : Nat) (ho : o ≤ 15) (hl : l ≤ 16 - o) (hp : p < 2 ^ l) (hn : n < 65536) : hasN o l p n ↔ ∃ a r, a < bk o ∧ r < sz o l ∧ n = fr o l p + a * st o + r := by
  have s1 := (sz_le o l).1
  constructor
  · intro h
    obtain ⟨h1, h2⟩ := port_at o l p n ho hl hp hn h
    generalize idx o l n = i at *
    exact ⟨i / sz o l, i % sz o l, Nat.div_lt_of_lt_mul (by unfold cnt at h1; rw [Nat.mul_comm]; exact h1), Nat.mod_lt _ s1, h2⟩
  · rintro ⟨a, r, ha, hr, rfl⟩
    have hi : a * sz o l + r < cnt o l := by
      have h : (a + 1) * sz o l ≤ bk o * sz o l := Nat.mul_le_mul_right _ ha
      rw [Nat.add_mul] at h
      unfold cnt
      omega
    have e1 : (a * sz o l + r) / sz o l = a := by rw [Nat.add_comm, Nat.add_mul_div_right _ _ s1, Nat.div_eq_of_lt hr, Nat.zero_add]
    have e2 : (a * sz o l + r) % sz o l = r := by rw [Nat.add_comm, Nat.add_mul_mod_self_right, Nat.mod_eq_of_lt hr]
    have h := (at_ok o l p _ ho hl hp hi).2
    unfold atN at h
    rw [e1, e2] at h
    exact h
theorem in_range (o l p a r : Nat) (ho : o ≤ 15) (hl : l ≤ 16 - o) (hp : p < 2 ^ l) (ha : a < bk o) (hr : r < sz o l) : fr o l p + a * st o + r < 65536 := by
  have s1 := (sz_le o l).1
  have hi : a * sz o l + r < cnt o l := by
    have h : (a + 1) * sz o l ≤ bk o * sz o l := Nat.mul_le_mul_right _ ha
    rw [Nat.add_mul] at h
    unfold cnt
    omega
  have e1 : (a * sz o l + r) / sz o l = a := by rw [Nat.add_comm, Nat.add_mul_div_right _ _ s1, Nat.div_eq_of_lt hr, Nat.zero_add]
  have e2 : (a * sz o l + r) % sz o l = r := by rw [Nat.add_comm, Nat.add_mul_mod_self_right, Nat.mod_eq_of_lt hr]
  have h := (at_ok o l p _ ho hl hp hi).1
  unfold atN at h
  rw [e1, e2] at h
  exact h
theorem runs_all (o l p : Nat) (ho : o ≤ 15) (hl : l ≤ 16 - o) (hp : p < 2 ^ l) : runsTo (fun n => decide (hasN o l p n)) 65536 = blkL (fr o l p) (shS o l) (st o) (shB o l) ∧ (∀ i, i < shB o l → fr o l p + i * st o + shS o l ≤ 65536) ∧ 1 ≤ shS o l ∧ 1 ≤ shB o l := by
  have s1 := sz_le o l
  have t1 := st_le o
  have b1 := bk_le o ho
  have hst : sz o l ≤ st o := by rw [st_sz o l ho hl]; exact Nat.le_mul_of_pos_right _ (Nat.two_pow_pos l)
  by_cases h : sz o l = st o
  · have e1 : shS o l = cnt o l := if_pos h
    have e2 : shB o l = 1 := if_pos h
    have hc : cnt o l = bk o * st o := by unfold cnt; rw [h]
    have hcp := cnt_pos o l ho
    have hP : ∀ n, n < 65536 → (decide (hasN o l p n) = true ↔ fr o l p ≤ n ∧ n < fr o l p + cnt o l) := fun n hn => by
      rw [decide_eq_true_eq, has_form o l p n ho hl hp hn]
      constructor
      · rintro ⟨a, r, ha, hr, rfl⟩
        have h3 : (a + 1) * st o ≤ bk o * st o := Nat.mul_le_mul_right _ ha
        rw [Nat.add_mul] at h3
        omega
      · rintro ⟨h3, h4⟩
        refine ⟨(n - fr o l p) / st o, (n - fr o l p) % st o, Nat.div_lt_of_lt_mul (by rw [Nat.mul_comm]; omega), by rw [h]; exact Nat.mod_lt _ t1.1, ?_⟩
        have := Nat.div_add_mod (n - fr o l p) (st o)
        rw [Nat.mul_comm] at this
        omega
    have hlast : fr o l p + cnt o l ≤ 65536 := by
      have h3 := in_range o l p (bk o - 1) (sz o l - 1) ho hl hp (by omega) (by omega)
      have h4 : (bk o - 1 + 1) * st o = bk o * st o := by rw [Nat.sub_add_cancel b1.1]
      rw [Nat.add_mul] at h4
      omega
    rw [e1, e2]
    refine ⟨?_, fun i hi => by rw [show i = 0 by omega]; omega, by omega, by omega⟩
    have r1 := runs_one (fun n => decide (hasN o l p n)) (fr o l p) (cnt o l) (st o) 65536 (by omega) hlast hP
    have g := runsTo_gap (fun n => decide (hasN o l p n)) (fr o l p + cnt o l) (65536 - (fr o l p + cnt o l)) (fun n h1 h2 => by
      have h5 := mt (hP n (by omega)).1 (by omega)
      simpa using h5)
    rw [Nat.add_sub_cancel' hlast] at g
    rw [g.1, r1]
  · have e1 : shS o l = sz o l := if_neg h
    have e2 : shB o l = bk o := if_neg h
    rw [e1, e2]
    have hin : ∀ i, i < bk o → fr o l p + i * st o + sz o l ≤ 65536 := fun i hi => by
      have := in_range o l p i (sz o l - 1) ho hl hp hi (by omega)
      omega
    refine ⟨?_, hin, s1.1, b1.1⟩
    have hP : ∀ n, n < 65536 → (decide (hasN o l p n) = true ↔ ∃ a r, a < bk o ∧ r < sz o l ∧ n = fr o l p + a * st o + r) := fun n hn => by
      rw [decide_eq_true_eq, has_form o l p n ho hl hp hn]
    have r1 := runs_blocks (fun n => decide (hasN o l p n)) (fr o l p) (sz o l) (st o) (bk o) 65536 s1.1 (by omega) (fun a r ha hr => in_range o l p a r ho hl hp ha hr) hP (bk o - 1) (by omega)
    rw [Nat.sub_add_cancel b1.1] at r1
    have hlast := hin (bk o - 1) (by omega)
    have g := runsTo_gap (fun n => decide (hasN o l p n)) (fr o l p + (bk o - 1) * st o + sz o l) (65536 - (fr o l p + (bk o - 1) * st o + sz o l)) (fun n h1 h2 => by
      have h5 : ¬ (decide (hasN o l p n) = true) := mt (hP n (by omega)).1 (by
        rintro ⟨a, r, ha, hr, e⟩
        have h3 : a * st o ≤ (bk o - 1) * st o := Nat.mul_le_mul_right _ (by omega)
        omega)
      simpa using h5)
    rw [Nat.add_sub_cancel' hlast] at g
    rw [g.1, r1]

end Go.Proofs.Ytmcofmdogopfjaa
