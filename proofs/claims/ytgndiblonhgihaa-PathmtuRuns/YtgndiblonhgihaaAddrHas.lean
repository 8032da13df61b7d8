/-
  IPv4 prefixes: the document's Has4.
-/
import Derived.Test.YtgndiblonhgihaaAddrRcut
namespace Go.Proofs.Ytgndiblonhgihaa
open Go Go.RowKit
set_option linter.unusedVariables false
set_option linter.unusedSimpArgs false

/-- Has the prefix that address? -/
def hasB (a0 a1 a2 a3 n b0 b1 b2 b3 : Int) : Bool := decide (pL b0 b1 b2 b3 n = [a0, a1, a2, a3])

theorem two_blocks (w : World) (o1 o2 : Obj) {w' : World} (hb : Below ((w.alloc o1).alloc o2).heap.size ((w.alloc o1).alloc o2) w') : w'.heap[w.heap.size]? = some o1 ∧ w'.heap[w.heap.size + 1]? = some o2 := by
  have e1 : ((w.alloc o1).alloc o2).heap[w.heap.size]? = some o1 := by
    rw [Below.heap_alloc _ _ _ (by simp)]
    exact alloc_new _ _
  have e2 : ((w.alloc o1).alloc o2).heap[w.heap.size + 1]? = some o2 := alloc_new2 _ _ _
  exact ⟨(hb.block _ (Array.getElem?_eq_some_iff.1 e1).1).trans e1, (hb.block _ (Array.getElem?_eq_some_iff.1 e2).1).trans e2⟩

end Go.Proofs.Ytgndiblonhgihaa
