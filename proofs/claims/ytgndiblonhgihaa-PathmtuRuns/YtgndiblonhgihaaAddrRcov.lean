/-
  IPv4 prefixes: the document's Cover4, and its Cut4 of lengths that may not be.
-/
import Derived.Test.YtgndiblonhgihaaAddrHas
namespace Go.Proofs.Ytgndiblonhgihaa
open Go Go.RowKit
set_option linter.unusedVariables false
set_option linter.unusedSimpArgs false

def rcovB (a0 a1 a2 a3 n b0 b1 b2 b3 m : Int) : Bool := hasB a0 a1 a2 a3 n b0 b1 b2 b3 && decide (n ≤ m)

end Go.Proofs.Ytgndiblonhgihaa
