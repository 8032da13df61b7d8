/-
  awake answers true in every world above one that holds the tables.
-/
import Derived.Test.YtiigcilclblblaaDoorAddrAwake
import Derived.Test.YtiigcilclblblaaDoorAddrTab
namespace Go.Proofs.YtiigcilclblblaaDoor
open Go Go.RowKit
set_option linter.unusedVariables false

theorem Awake.on {W : World} (tb : Tabs W ∧ Tz W) (w' : World) (hb : Below W.heap.size W w') : Calls Tryd.prog 17 #[] w' fun e w'' => e = .returned (.bool true) ∧ Below w'.heap.size w' w'' :=
  awake_calls w' ⟨Tabs.on tb.1 hb, Tz.on tb.2 hb⟩

end Go.Proofs.YtiigcilclblblaaDoor
