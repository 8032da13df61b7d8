/-
  A drawn region in two steps.
-/
import Derived.Test.YtljmamogefgiaaaNb0
namespace Go.Proofs.Ytljmamogefgiaaa
open Go Go.RowKit Go.ChangeShapes Go.WideShapes Go.ChangeAt
set_option linter.unusedVariables false
set_option linter.unusedSimpArgs false

/-- A region that draws, by what it leaves. -/
theorem region_mid {P : Program} {id : Nat} {ops : Array Oper} {Q : Exit → Act → World → Prop} {a : Act} {w : World} (M : Act → Act → World → Prop) (h : (Code.region id ops true).wp P (fun e a' w' => e = .normal ∧ M a a' w') a w) (hM : ∀ a' w', M a a' w' → Q .normal a' w') : (Code.region id ops true).wp P Q a w :=
  wp_mono h (fun e a' w' ⟨he, hm⟩ => he ▸ hM a' w' hm)

end Go.Proofs.Ytljmamogefgiaaa
