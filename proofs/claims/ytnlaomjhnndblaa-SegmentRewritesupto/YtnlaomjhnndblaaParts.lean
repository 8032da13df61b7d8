/-
  Slices of slices of bytes: what an argument's reading gives; the contracts of the statements' own few and of the document's answer for Fold; Good.
-/
import Derived.Test.YtnlaomjhnndblaaRef2
import Derived.Deep.Matrix
import Derived.ProofKit
namespace Go.Proofs.Ytnlaomjhnndblaa
open Go Go.RowKit Go.Shelf Go.ChangeShapes Go.WideShapes

theorem elem_sl : Elem 71 29 (.slice none 0 0) 24 := ⟨Try.underlying71, by kernel_rfl, rfl⟩

/-- What an argument's reading says of a slice of slices of bytes. -/
def IsParts (w : World) (a : Option Addr) (len : Nat) : Prop :=
  len ≤ maxLen ∧ (len = 0 ∨ ∃ b off, a = some ⟨b, off, none⟩ ∧ b < w.heap.size ∧ ∀ r, r < len → ∃ A L C Z, w.cell? ⟨b, off + r, none⟩ = some (.slice A L C) ∧ IsRowB w A L C Z)

theorem cell_block {w : World} {a : Addr} {v : Value} (h : w.cell? a = some v) : a.block < w.heap.size := by
  simp only [World.cell?] at h
  cases hb : w.heap[a.block]? with
  | none => rw [hb] at h; simp at h
  | some o => exact (Array.getElem?_eq_some_iff.1 hb).1

set_option maxRecDepth 100000 in
theorem open_parts {H : Type} {enc : TypeId × Value → H} {W : World} {base : Nat} {v : Value} {d : DataW H} {p : List MemPlace} (hval : Value.okWide Try.prog W .any base 71 v)
    (h : DataW.Trod enc Try.prog W 0 (fun _ => true) true 71 v d p) : ∃ a len cap, v = .slice a len cap ∧ IsParts W a len := by
  obtain ⟨a, len, cap, rfl⟩ := okWide_slice Try.underlying71 hval
  refine ⟨a, len, cap, rfl, ?_⟩
  obtain ⟨fuel, hf⟩ := h
  rcases Go.Deep.open_int_rows Try.underlying71 Try.underlying29 Try.underlying5 (by kernel_rfl) (by kernel_rfl) hf with ⟨hcs, _⟩ | ⟨x, l, c, A, L, C, Z, hcs, _, hl, hm, _, hr⟩
  · simp [Value.cells] at hcs
    exact ⟨by omega, .inl hcs.2.1⟩
  · simp [Value.cells] at hcs
    obtain ⟨rfl, rfl, rfl⟩ := hcs
    refine ⟨by omega, ?_⟩
    by_cases h0 : len = 0
    · exact .inl h0
    · right
      have hr0 := (hr 0 (by omega)).1
      obtain ⟨b, off, spot⟩ := x
      have hspot : spot = none := by simpa [Addr.add] using World.cell?_spot hr0
      subst hspot
      refine ⟨b, off, rfl, by have := cell_block hr0; simpa [Addr.add] using this, fun r hrl => ?_⟩
      obtain ⟨q1, q2, q3, q4, q5, q6, q7⟩ := hr r (by omega)
      refine ⟨A r, L r, C r, Z r, by rw [← add_plain]; exact q1, ?_⟩
      cases hA : A r with
      | none =>
        have hC := q6 hA
        exact .inl ⟨rfl, by omega, hC, List.length_eq_zero_iff.1 (by omega)⟩
      | some y =>
        exact .inr ⟨y, rfl, q2, q3, q4, fun i hi => (q7 y hA).2 i (by omega), q5⟩

/-- One more element on a row of the call's own: behind the block that the walk lays for it. -/
theorem own_one {t e : TypeId} {z : Value} {by' : Nat} (E : Elem t e z by') {w : World} {base n : Nat} {v : Value} {xs : List Value} (hown : w.ownsRow base e 1 v n xs) (hbase : base ≤ w.heap.size) (hn : n ≤ 1000000) (hby : by' ≤ 1000) (x : Value) (hx : x.oneCell' = true) (ty : TypeId) :
    ∃ v' w', (Builtin.append_ #[t, t] ty #[v, .slice (some ⟨w.heap.size, 0, none⟩) 1 1]).run Try.prog (w.alloc (.cells #[x] e)) = .ok v' w' ∧ w'.ownsRow base e 1 v' (n + 1) (xs ++ [x]) ∧ w.grownBy w' v.ownBlock ∧ (v'.ownBlock = v.ownBlock ∨ ∀ k, v'.ownBlock = some k → w.heap.size ≤ k) := by
  have hmul : (n + 1) * by' ≤ 1000001 * 1000 := Nat.mul_le_mul (by omega) hby
  obtain ⟨v', w', h1, h2, h3, h4⟩ := own_append E (c := 1) (m := 1) (hown.alloc (.cells #[x] e)) (some ⟨w.heap.size, 0, none⟩) [x] rfl (fun h => by cases h) (fun y hy j u hj => by
      cases hy
      match j, hj with
      | 0, hj => simp at hj; subst hj; exact (Boxed.new w _ _).cell) (fun u hu => by simp at hu; subst hu; exact hx) (by unfold maxLen; omega) (by omega) (by simp; omega) ty
  refine ⟨v', w', h1, h2, ?_, h4.imp id (fun h k hk => by have := h k hk; simp at this; omega)⟩
  have h5 := World.grownBy_alloc w (.cells #[x] e) v.ownBlock
  exact ⟨h3.os.trans h5.os, h3.tape.trans h5.tape, h3.output.trans h5.output, Nat.le_trans h5.size h3.size, fun k hk hne => (h3.block k (Nat.lt_of_lt_of_le hk h5.size) hne).trans (h5.block k hk hne)⟩

/-- The slices us hold the bytes ps, each at most 3000 of them. -/
structure Held (w : World) (us : List Value) (ps : List (List Int)) : Prop where
  len : us.length = ps.length
  each : ∀ (j : Nat) (u : Value), us[j]? = some u → BytesAt w.heap.size w u (ps[j]?.getD []) ∧ (ps[j]?.getD []).length ≤ 3000

theorem Held.nil (w : World) : Held w [] [] := ⟨rfl, fun j u h => by simp at h⟩
theorem Held.snoc {w : World} {us : List Value} {ps : List (List Int)} (h : Held w us ps) {u : Value} {zs : List Int} (hu : BytesAt w.heap.size w u zs) (hz : zs.length ≤ 3000) : Held w (us ++ [u]) (ps ++ [zs]) := by
  refine ⟨by simp [h.len], fun j v hj => ?_⟩
  have hl := h.len
  by_cases hlt : j < us.length
  · rw [List.getElem?_append_left hlt] at hj
    rw [List.getElem?_append_left (by omega)]
    exact h.each j v hj
  · have hlj := (List.getElem?_eq_some_iff.1 hj).1
    simp at hlj
    have e : j = us.length := by omega
    subst e
    rw [List.getElem?_append_right (Nat.le_refl _)] at hj
    rw [List.getElem?_append_right (by omega), hl, Nat.sub_self]
    simp at hj
    subst hj
    exact ⟨hu, hz⟩
theorem Held.later {w W : World} {us : List Value} {ps : List (List Int)} (h : Held w us ps) (hb : Below w.heap.size w W) : Held W us ps :=
  ⟨h.len, fun j u hj => ⟨(h.each j u hj).1.later hb, (h.each j u hj).2⟩⟩

/-- A row of one's own that holds such slices holds the parts. -/
theorem Held.parts {w : World} {base n : Nat} {v : Value} {us : List Value} {ps : List (List Int)} (h : Held w us ps) (hown : w.ownsRow base 29 1 v n us) (hn : n ≤ 1000) : PartsAt w.heap.size w v ps := by
  obtain ⟨a, cap, rfl, hl, hz⟩ := own_form hown
  have hl2 := h.len
  refine ⟨by omega, a, cap, by rw [← hl2, hl], ?_⟩
  rcases hz with hz | ⟨g, rfl, _, hg, hc⟩
  · exact .inl (by omega)
  · refine .inr ⟨g, 0, rfl, hg, fun j hj => ?_⟩
    have hj' : us[j]? = some us[j] := by simp
    exact ⟨us[j], by rw [Nat.zero_add]; exact hc j _ hj', (h.each j _ hj').1⟩

end Go.Proofs.Ytnlaomjhnndblaa
