/-
  IPv4 prefixes: Cover4 and Has4 of the program.
-/
import Derived.Test.YtgndiblonhgihaaAddrChk2
namespace Go.Proofs.Ytgndiblonhgihaa
open Go Go.RowKit
set_option linter.unusedVariables false
set_option linter.unusedSimpArgs false

def covB (a0 a1 a2 a3 n b0 b1 b2 b3 m : Int) : Bool := decide (n ≤ m) && decide ([a0, a1, a2, a3] = pL b0 b1 b2 b3 n)
def bothOk (a0 a1 a2 a3 n b0 b1 b2 b3 m : Int) : Bool := okP4 a0 a1 a2 a3 n && okP4 b0 b1 b2 b3 m

structure Fits (a0 a1 a2 a3 n : Int) : Prop where
  h0 : 0 ≤ a0 ∧ a0 < 256
  h1 : 0 ≤ a1 ∧ a1 < 256
  h2 : 0 ≤ a2 ∧ a2 < 256
  h3 : 0 ≤ a3 ∧ a3 < 256
  hn : -9223372036854775808 ≤ n ∧ n ≤ 9223372036854775807

end Go.Proofs.Ytgndiblonhgihaa
