/-
  The contracts of Clear, of the program and of the document.
-/
import Derived.Test.YtcncjclolpfddaaFldSame
import Derived.Laws.IdiomCopy
namespace Go.Proofs.Ytcncjclolpfddaa
set_option linter.unusedVariables false
set_option linter.unusedSimpArgs false
open Go Go.RowKit
attribute [local go_sem] Oper.semAt_some

theorem own_setCells {base g : Nat} : ∀ (zs : List Int) (o : Nat) (w : World) (l : List Int), OwnG base w g l → o + zs.length ≤ l.length →
    OwnG base (w.setCells g o (zs.map (fun z => Value.int .u8 z))) g (l.take o ++ zs ++ l.drop (o + zs.length)) ∧ Below base w (w.setCells g o (zs.map (fun z => Value.int .u8 z)))
  | [], o, w, l, h, _ => by
    refine ⟨?_, Below.refl _ _⟩
    have e : l.take o ++ [] ++ l.drop (o + ([] : List Int).length) = l := by simp
    rw [e]
    exact h
  | z :: r, o, w, l, h, hl => by
    simp only [List.length_cons] at hl
    have h1 := h.set o (by omega) z
    obtain ⟨h2, h3⟩ := own_setCells r (o + 1) _ _ h1 (by simp; omega)
    have e : (l.set o z).take (o + 1) ++ r ++ (l.set o z).drop (o + 1 + r.length) = l.take o ++ (z :: r) ++ l.drop (o + (z :: r).length) := by
      rw [List.drop_set_of_lt (by omega)]
      have : (l.set o z).take (o + 1) = l.take o ++ [z] := by
        rw [List.take_succ_eq_append_getElem (by simp; omega), List.take_set_of_le (Nat.le_refl _)]
        simp
      rw [this, show o + 1 + r.length = o + (z :: r).length by simp; omega]
      simp
    rw [e] at h2
    exact ⟨h2, (below_set o _ h.low).trans h3⟩

theorem copy_own {base g : Nat} {w : World} {l : List Int} (h : OwnG base w g l) (zs : List Int) (a : Option Addr) (dl dc c : Nat) (hdl : dl = l.length) (hm : zs.length ≤ dl)
    (hsrc : zs.length = 0 ∨ ∃ x : Addr, a = some x ∧ ∀ (j : Nat) z, zs[j]? = some z → w.cell? (x.add j) = some (.int .u8 z)) (ty : TypeId) :
    ∃ v w2, (Builtin.copy_ #[22, 22] ty #[.slice (some ⟨g, 0, none⟩) dl dc, .slice a zs.length c]).run Try.prog w = .ok v w2 ∧ OwnG base w2 g (zs ++ l.drop zs.length) ∧ Below base w w2 := by
  have hinf : (Try.prog.info? 5).map (·.size) = some 1 := by kernel_rfl
  rcases hsrc with h0 | ⟨x, rfl, hx⟩
  · obtain rfl : zs = [] := List.length_eq_zero_iff.1 h0
    refine ⟨_, w, run_copy_none w _ _ ty 5 _ a dl dc 0 c Try.underlying22 hinf (by simp), ?_, Below.refl _ _⟩
    simpa using h
  · have hcl : ∀ j, j < zs.length → (w.cell? ⟨g, 0 + j, none⟩).isSome = true := fun j hj => by
      rw [Nat.zero_add, h.cell j (by omega)]; rfl
    obtain ⟨h2, h3⟩ := own_setCells zs 0 w l h (by omega)
    simp only [List.take_zero, List.nil_append, Nat.zero_add] at h2
    refine ⟨_, _, run_copy_cells w _ _ ty 5 g 0 dl dc x zs.length c (zs.map (fun z => Value.int .u8 z)) Try.underlying22 hinf ((List.length_map _).trans (Nat.min_eq_left hm).symm) ?_ (by simpa using hcl) (fun j _ => h.open _) (by simp [Value.oneCell']), h2, h3⟩
    intro j v hj
    rw [List.getElem?_map] at hj
    cases hz : zs[j]? with
    | none => simp [hz] at hj
    | some z => simp [hz] at hj; subst hj; exact hx j z hz

/-- The row whose bits from a place on are 0. -/
def zeroFrom (zs : List Int) (m : Nat) : List Int := packL ((bitsL zs).take m ++ List.replicate (8 * zs.length - m) 0) (8 * zs.length)
def clrOk (zs : List Int) (m : Int) : Bool := thereB zs.length m 0
def clrL (zs : List Int) (m : Int) : List Int := if clrOk zs m then zeroFrom zs m.toNat else []
def clrE (zs : List Int) (m : Int) : Int := if clrOk zs m then 0 else 30

theorem zeroFrom_length (zs : List Int) (m : Nat) (h : m ≤ 8 * zs.length) : (zeroFrom zs m).length = zs.length := by
  unfold zeroFrom; rw [packL_length]; simp; omega
theorem bitN_zeroFrom (zs : List Int) (m q : Nat) (h : m ≤ 8 * zs.length) (hq : q < 8 * zs.length) : bitN (zeroFrom zs m) q = if q < m then bitN zs q else 0 := by
  unfold zeroFrom
  rw [bitN_packL _ _ _ (by simp; omega)]
  by_cases c : q < m
  · rw [List.getElem?_append_left (by simp; omega), List.getElem?_take_of_lt c, bitsL_get zs q hq, if_pos c]
    have := bit01 (bitN zs q) (bitN_lt _ _)
    simpa [hq] using this
  · rw [List.getElem?_append_right (by simp; omega), List.getElem?_replicate, if_neg c]
    split <;> simp

theorem tab_clear : ∀ r, r < 8 → ∀ j, j < 8 → ∀ z, z < 256 → bk (z &&& (255 - 255 / 2 ^ r)) (7 - j) = if j < r then bk z (7 - j) else 0 := by decide +kernel
theorem tab_clear_lt : ∀ r, r < 8 → ∀ z, z < 256 → z &&& (255 - 255 / 2 ^ r) < 256 := fun r hr z hz => Nat.lt_of_le_of_lt Nat.and_le_left hz
theorem pow_shr : ∀ r, r < 8 → ((255 : Int) / 2 ^ r) = ((255 / 2 ^ r : Nat) : Int) := by decide
theorem clear_mask (z : Int) (r : Nat) (hr : r < 8) (h : 0 ≤ z ∧ z < 256) : bits .andNot .u8 z ((255 : Int) / 2 ^ r) = ((z.toNat &&& (255 - 255 / 2 ^ r) : Nat) : Int) := by
  have hlt : 255 / 2 ^ r < 256 := Nat.lt_of_le_of_lt (Nat.div_le_self _ _) (by decide)
  have h1 := u8_andNot_nat z.toNat (255 / 2 ^ r) (by omega) hlt
  rw [pow_shr r hr, ← h1, Int.toNat_of_nonneg h.1]

/-- What the program's Clear leaves: the first bytes, zeros behind them. -/
def baseRow (zs : List Int) (k : Nat) : List Int := zs.take k ++ (List.replicate zs.length 0).drop k
theorem baseRow_length (zs : List Int) (k : Nat) (h : k ≤ zs.length) : (baseRow zs k).length = zs.length := by simp [baseRow]; omega
theorem baseRow_fit {zs : List Int} (hf : FitB zs) (k : Nat) : FitB (baseRow zs k) := by
  intro z hz
  rcases List.mem_append.1 hz with hz | hz
  · exact hf z (List.mem_of_mem_take hz)
  · have := List.eq_of_mem_replicate (List.mem_of_mem_drop hz); subst this; decide
theorem baseRow_get (zs : List Int) (k i : Nat) (h : k ≤ zs.length) : (baseRow zs k)[i]?.getD 0 = if i < k then zs[i]?.getD 0 else 0 := by
  unfold baseRow
  by_cases c : i < k
  · rw [List.getElem?_append_left (by simp; omega), List.getElem?_take_of_lt c, if_pos c]
  · rw [List.getElem?_append_right (by simp; omega), List.getElem?_drop, List.getElem?_replicate, if_neg c]
    split <;> rfl
theorem bitN_base (zs : List Int) (k q : Nat) (h : k ≤ zs.length) : bitN (baseRow zs k) q = if q < 8 * k then bitN zs q else 0 := by
  unfold bitN
  rw [baseRow_get zs k _ h]
  by_cases c : q / 8 < k
  · rw [if_pos c, if_pos (by omega)]
  · rw [if_neg c, if_neg (by omega)]
    simp [bk]

theorem clear_even {zs : List Int} (hf : FitB zs) (m : Nat) (h : m ≤ 8 * zs.length) (h8 : m % 8 = 0) : baseRow zs ((m + 7) / 8) = zeroFrom zs m := by
  have hl := baseRow_length zs ((m + 7) / 8) (by omega)
  refine row_ext (by rw [hl, zeroFrom_length zs m h]) (baseRow_fit hf _) (packL_fit _ _) fun q hq => ?_
  rw [hl] at hq
  rw [bitN_base _ _ _ (by omega), bitN_zeroFrom zs m q h hq]
  by_cases c : q < m
  · rw [if_pos c, if_pos (by omega)]
  · rw [if_neg c, if_neg (by omega)]
theorem clear_odd {zs : List Int} (hf : FitB zs) (m : Nat) (h : m ≤ 8 * zs.length) (h8 : m % 8 ≠ 0) : (baseRow zs ((m + 7) / 8)).set ((m + 7) / 8 - 1) ((((baseRow zs ((m + 7) / 8))[(m + 7) / 8 - 1]?.getD 0).toNat &&& (255 - 255 / 2 ^ (m % 8)) : Nat) : Int) = zeroFrom zs m := by
  have hl := baseRow_length zs ((m + 7) / 8) (by omega)
  have hft := fit_at (baseRow_fit hf ((m + 7) / 8)) ((m + 7) / 8 - 1)
  refine row_ext (by rw [List.length_set, hl, zeroFrom_length zs m h]) ?_ (packL_fit _ _) fun q hq => ?_
  · intro z hz
    rcases List.mem_or_eq_of_mem_set hz with hz | rfl
    · exact baseRow_fit hf _ z hz
    · have := tab_clear_lt (m % 8) (Nat.mod_lt _ (by decide)) ((baseRow zs ((m + 7) / 8))[(m + 7) / 8 - 1]?.getD 0).toNat (by omega)
      omega
  · rw [List.length_set, hl] at hq
    rw [bitN_zeroFrom zs m q h hq]
    by_cases c : q / 8 = (m + 7) / 8 - 1
    · have hb := bitN_base zs ((m + 7) / 8) q (by omega)
      rw [if_pos (by omega)] at hb
      unfold bitN at hb ⊢
      rw [c] at hb ⊢
      rw [List.getElem?_set_self (by rw [hl]; omega)]
      simp only [Option.getD_some, Int.toNat_natCast]
      rw [tab_clear (m % 8) (Nat.mod_lt _ (by decide)) (q % 8) (Nat.mod_lt _ (by decide)) _ (by omega), hb]
      by_cases d : q < m
      · rw [if_pos d, if_pos (by omega)]
      · rw [if_neg d, if_neg (by omega)]
    · have hb := bitN_base zs ((m + 7) / 8) q (by omega)
      unfold bitN at hb ⊢
      rw [List.getElem?_set_ne (fun e => c e.symm), hb]
      by_cases d : q < m
      · rw [if_pos d, if_pos (by omega)]
      · rw [if_neg d, if_neg (by omega)]

end Go.Proofs.Ytcncjclolpfddaa
