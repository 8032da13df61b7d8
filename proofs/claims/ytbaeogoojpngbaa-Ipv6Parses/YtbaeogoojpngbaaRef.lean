/-
  The contracts of the document's answer for package sum: words, added, even, Alike.
-/
import Derived.Test.YtbaeogoojpngbaaOwn
import Derived.Test.YtbaeogoojpngbaaSums
namespace Go.Proofs.Ytbaeogoojpngbaa
open Go Go.RowKit Go.Shelf

def intsV (xs : List Int) : List Value := xs.map (fun z => .int .i64 z)
theorem intsV_one (xs : List Int) : ∀ u ∈ intsV xs, u.oneCell' = true := by
  intro u hu
  obtain ⟨z, _, rfl⟩ := List.mem_map.1 hu
  rfl

theorem wordsL_snoc (zs : List Int) (k : Nat) (h : 2 * k < zs.length) : intsV ((wordsL zs).take (k + 1)) = intsV ((wordsL zs).take k) ++ [.int .i64 (wd zs k)] := by
  obtain ⟨hk, e⟩ := List.getElem?_eq_some_iff.1 (wordsL_at zs k h)
  rw [List.take_succ_eq_append_getElem hk, e, intsV, List.map_append]; rfl

end Go.Proofs.Ytbaeogoojpngbaa
