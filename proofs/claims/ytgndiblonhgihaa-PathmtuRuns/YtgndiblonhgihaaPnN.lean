/-
  awake.
-/
import Derived.Test.YtgndiblonhgihaaPnM
namespace Go.Proofs.Ytgndiblonhgihaa
open Go Go.RowKit Go.Lib
set_option linter.unusedVariables false
set_option linter.unusedSimpArgs false

abbrev cfA : Cf := ⟨2, 1500, 100, 1280⟩
abbrev dA : List Int := [1, 0, 0, 0, 0, 0, 0, 0, 0, 0, 0, 0, 0, 0, 0, 0]
theorem cfA_ok : cfA.Ok := ⟨by decide, by decide, by decide, by decide⟩
theorem dA_ok : K16 dA := ⟨fun z hz => by simp at hz; rcases hz with rfl | rfl <;> omega, rfl⟩
theorem SortE.nil : SortE [] := fun i j x y _ hx _ => by simp at hx
theorem SortE.one (y : PE × Nat) : SortE [y] := fun i j x z hij hx hz => by
  have h1 := (List.getElem?_eq_some_iff.1 hx).1
  have h2 := (List.getElem?_eq_some_iff.1 hz).1
  simp at h1 h2
  omega
theorem room_nil (d : List Int) {lim : Int} (h : 1 ≤ lim) : roomL [] d lim = [] := by
  unfold roomL
  split <;> rfl
theorem ins_nil (d : List Int) {lim : Int} (h : 1 ≤ lim) (e : PE) : ∀ b k, Stands (roomL [] d lim) (e, b) k → InsK (roomL [] d lim).length k := by
  intro b k hk
  rw [room_nil d h] at hk ⊢
  have : k = 0 := by have := hk.1; simpa using this
  subst this
  exact insK_end (n := 0) (by omega)
end Go.Proofs.Ytgndiblonhgihaa
