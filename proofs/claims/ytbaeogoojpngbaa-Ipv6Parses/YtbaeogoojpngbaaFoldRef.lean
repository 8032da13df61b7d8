/-
  The contracts of the document's answer for Fold, and of package sum's Good.
-/
import Derived.Test.YtbaeogoojpngbaaParts
namespace Go.Proofs.Ytbaeogoojpngbaa
open Go Go.RowKit Go.Shelf

def bytesV (zs : List Int) : List Value := zs.map (fun z => .int .u8 z)
theorem bytesV_one (zs : List Int) : ∀ u ∈ bytesV zs, u.oneCell' = true := by
  intro u hu
  obtain ⟨z, _, rfl⟩ := List.mem_map.1 hu
  rfl
theorem bytesV_length (zs : List Int) : (bytesV zs).length = zs.length := by simp [bytesV]

/-- A slice of bytes behind a row of bytes of the call's own. -/
theorem own_bytes_more {w w0 : World} {base n : Nat} {v : Value} {xs : List Value} (hown : w.ownsRow base 5 1 v n xs) (hbase : base ≤ w.heap.size) {a : Option Addr} {m c : Nat} {zs : List Int} (hb : BytesAt w0.heap.size w (.slice a m c) zs) (hn : n + m ≤ 1000000) (ty : TypeId) :
    ∃ v' w', (Builtin.append_ #[26, 26] ty #[v, .slice a m c]).run Try.prog w = .ok v' w' ∧ w'.ownsRow base 5 1 v' (n + m) (xs ++ bytesV zs) ∧ w.grownBy w' v.ownBlock := by
  obtain ⟨_, _, a', c', e, hz⟩ := hb
  cases e
  have hnone : a = none → zs.length = 0 := fun e => by
    rcases hz with hz | ⟨b, off, hz, _⟩
    · exact hz
    · rw [e] at hz; cases hz
  obtain ⟨v', w', h1, h2, h3, _⟩ := own_append elem_u8 (c := c) hown a (bytesV zs) (bytesV_length zs) hnone (fun x hx j u hj => by
      rcases hz with hz | ⟨b, off, hz, _, hc⟩
      · have := (List.getElem?_eq_some_iff.1 hj).1; rw [bytesV_length] at this; omega
      · rw [hx] at hz
        cases hz
        have hjl := (List.getElem?_eq_some_iff.1 hj).1
        rw [bytesV_length] at hjl
        rw [Go.WideShapes.add_plain, hc j hjl]
        rw [bytesV, List.getElem?_map] at hj
        obtain ⟨z, hz, rfl⟩ := Option.map_eq_some_iff.1 hj
        rw [hz]; rfl) (bytesV_one zs) (by unfold maxLen; omega) (by omega) hbase ty
  exact ⟨v', w', h1, h2, h3⟩

theorem pre_le (ps : List (List Int)) (k : Nat) : pre ps k ≤ ps.flatten.length := by
  have : ps.flatten = (ps.take k).flatten ++ (ps.drop k).flatten := by rw [← List.flatten_append, List.take_append_drop]
  rw [this, List.length_append]; unfold pre; omega
theorem flat_snoc (ps : List (List Int)) (k : Nat) (h : k < ps.length) : bytesV (ps.take (k + 1)).flatten = bytesV (ps.take k).flatten ++ bytesV (ps[k]?.getD []) := by
  rw [List.take_succ_eq_append_getElem h, List.flatten_append, bytesV, List.map_append]
  simp [bytesV, h]

theorem Held.flat {w : World} {us : List Value} {ps : List (List Int)} (h : Held w us ps) (hn : us.length ≤ 20) : ps.flatten.length ≤ 60000 := by
  have h1 : ∀ z ∈ ps, z.length ≤ 3000 := by
    intro z hz
    obtain ⟨j, hj, rfl⟩ := List.getElem_of_mem hz
    have hl := h.len
    have := (h.each j us[j] (by simp)).2
    simpa [hj] using this
  have h2 : ∀ (l : List (List Int)), (∀ z ∈ l, z.length ≤ 3000) → l.flatten.length ≤ l.length * 3000 := by
    intro l
    induction l with
    | nil => simp
    | cons z l ih =>
      intro hz
      have h3 := hz z (by simp)
      have h4 := ih (fun y hy => hz y (by simp [hy]))
      simp only [List.flatten_cons, List.length_append, List.length_cons]
      omega
  have h5 := h2 ps h1
  have h6 := h.len
  have : ps.length * 3000 ≤ 20 * 3000 := Nat.mul_le_mul_right _ (by omega)
  omega

end Go.Proofs.Ytbaeogoojpngbaa
