/-
  A slice cut short, empty ones too.
-/
import Derived.Test.YtbaeogoojpngbaaYl
namespace Go.Proofs.Ytbaeogoojpngbaa
open Go Go.RowKit
set_option linter.unusedVariables false
set_option linter.unusedSimpArgs false

theorem sl_front {S : Nat → Prop} {w : World} {v : Value} {zs : List Int} (h : BS S w v zs) (n : Nat) (hn : n ≤ zs.length) :
    ∃ u, (∀ W, (Instr.sliceAt 26 v none (some (.int .i64 n)) none).run Try.prog W = .ok u W) ∧ BS S w u (zs.take n) := by
  by_cases h0 : 0 < zs.length
  · exact cut_front h h0 n hn
  · have hz : zs = [] := List.length_eq_zero_iff.1 (by omega)
    subst hz
    have : n = 0 := by simpa using hn
    subst this
    obtain ⟨_, _, a, cap, ev, hc, hr⟩ := h.row
    subst ev
    refine ⟨.slice a 0 cap, fun W => ?_, ⟨⟨fun z hz => absurd hz (by simp), by simp, a, cap, rfl, by simp, .inl rfl⟩, .inl rfl⟩⟩
    cases a <;> simp [Instr.sliceAt, go_sem]

end Go.Proofs.Ytbaeogoojpngbaa
