/-
  Slices of slices of bytes: what an argument's reading gives; the contracts of the statements' own few and of the document's answer for Fold; Good.
-/
import Derived.Test.YtbaeogoojpngbaaRef2
import Derived.Deep.Matrix
import Derived.ProofKit
namespace Go.Proofs.Ytbaeogoojpngbaa
open Go Go.RowKit Go.Shelf Go.ChangeShapes Go.WideShapes

/-- What an argument's reading says of a slice of slices of bytes. -/
def IsParts (w : World) (a : Option Addr) (len : Nat) : Prop :=
  len ≤ maxLen ∧ (len = 0 ∨ ∃ b off, a = some ⟨b, off, none⟩ ∧ b < w.heap.size ∧ ∀ r, r < len → ∃ A L C Z, w.cell? ⟨b, off + r, none⟩ = some (.slice A L C) ∧ IsRowB w A L C Z)

theorem cell_block {w : World} {a : Addr} {v : Value} (h : w.cell? a = some v) : a.block < w.heap.size := by
  simp only [World.cell?] at h
  cases hb : w.heap[a.block]? with
  | none => rw [hb] at h; simp at h
  | some o => exact (Array.getElem?_eq_some_iff.1 hb).1

/-- One more element on a row of the call's own: behind the block that the walk lays for it. -/
theorem own_one {t e : TypeId} {z : Value} {by' : Nat} (E : Elem t e z by') {w : World} {base n : Nat} {v : Value} {xs : List Value} (hown : w.ownsRow base e 1 v n xs) (hbase : base ≤ w.heap.size) (hn : n ≤ 1000000) (hby : by' ≤ 1000) (x : Value) (hx : x.oneCell' = true) (ty : TypeId) :
    ∃ v' w', (Builtin.append_ #[t, t] ty #[v, .slice (some ⟨w.heap.size, 0, none⟩) 1 1]).run Try.prog (w.alloc (.cells #[x] e)) = .ok v' w' ∧ w'.ownsRow base e 1 v' (n + 1) (xs ++ [x]) ∧ w.grownBy w' v.ownBlock ∧ (v'.ownBlock = v.ownBlock ∨ ∀ k, v'.ownBlock = some k → w.heap.size ≤ k) := by
  have hmul : (n + 1) * by' ≤ 1000001 * 1000 := Nat.mul_le_mul (by omega) hby
  obtain ⟨v', w', h1, h2, h3, h4⟩ := own_append E (c := 1) (m := 1) (hown.alloc (.cells #[x] e)) (some ⟨w.heap.size, 0, none⟩) [x] rfl (fun h => by cases h) (fun y hy j u hj => by
      cases hy
      match j, hj with
      | 0, hj => simp at hj; subst hj; exact (Boxed.new w _ _).cell) (fun u hu => by simp at hu; subst hu; exact hx) (by unfold maxLen; omega) (by omega) (by simp; omega) ty
  refine ⟨v', w', h1, h2, ?_, h4.imp id (fun h k hk => by have := h k hk; simp at this; omega)⟩
  have h5 := World.grownBy_alloc w (.cells #[x] e) v.ownBlock
  exact ⟨h3.os.trans h5.os, h3.tape.trans h5.tape, h3.output.trans h5.output, Nat.le_trans h5.size h3.size, fun k hk hne => (h3.block k (Nat.lt_of_lt_of_le hk h5.size) hne).trans (h5.block k hk hne)⟩

/-- The slices us hold the bytes ps, each at most 3000 of them. -/
structure Held (w : World) (us : List Value) (ps : List (List Int)) : Prop where
  len : us.length = ps.length
  each : ∀ (j : Nat) (u : Value), us[j]? = some u → BytesAt w.heap.size w u (ps[j]?.getD []) ∧ (ps[j]?.getD []).length ≤ 3000

theorem Held.nil (w : World) : Held w [] [] := ⟨rfl, fun j u h => by simp at h⟩
theorem Held.snoc {w : World} {us : List Value} {ps : List (List Int)} (h : Held w us ps) {u : Value} {zs : List Int} (hu : BytesAt w.heap.size w u zs) (hz : zs.length ≤ 3000) : Held w (us ++ [u]) (ps ++ [zs]) := by
  refine ⟨by simp [h.len], fun j v hj => ?_⟩
  have hl := h.len
  by_cases hlt : j < us.length
  · rw [List.getElem?_append_left hlt] at hj
    rw [List.getElem?_append_left (by omega)]
    exact h.each j v hj
  · have hlj := (List.getElem?_eq_some_iff.1 hj).1
    simp at hlj
    have e : j = us.length := by omega
    subst e
    rw [List.getElem?_append_right (Nat.le_refl _)] at hj
    rw [List.getElem?_append_right (by omega), hl, Nat.sub_self]
    simp at hj
    subst hj
    exact ⟨hu, hz⟩
theorem Held.later {w W : World} {us : List Value} {ps : List (List Int)} (h : Held w us ps) (hb : Below w.heap.size w W) : Held W us ps :=
  ⟨h.len, fun j u hj => ⟨(h.each j u hj).1.later hb, (h.each j u hj).2⟩⟩

/-- A row of one's own that holds such slices holds the parts. -/
theorem Held.parts {w : World} {base n : Nat} {v : Value} {us : List Value} {ps : List (List Int)} (h : Held w us ps) (hown : w.ownsRow base 26 1 v n us) (hn : n ≤ 1000) : PartsAt w.heap.size w v ps := by
  obtain ⟨a, cap, rfl, hl, hz⟩ := own_form hown
  have hl2 := h.len
  refine ⟨by omega, a, cap, by rw [← hl2, hl], ?_⟩
  rcases hz with hz | ⟨g, rfl, _, hg, hc⟩
  · exact .inl (by omega)
  · refine .inr ⟨g, 0, rfl, hg, fun j hj => ?_⟩
    have hj' : us[j]? = some us[j] := by simp
    exact ⟨us[j], by rw [Nat.zero_add]; exact hc j _ hj', (h.each j _ hj').1⟩

end Go.Proofs.Ytbaeogoojpngbaa
