/-
  The contracts of package sum's turned, words, add and total.
-/
import Derived.Test.YtbaeogoojpngbaaIter
namespace Go.Proofs.Ytbaeogoojpngbaa
open Go Go.RowKit Go.Shelf
attribute [local go_sem] Oper.semAt_some

theorem boxed_stays {W W' : World} {B : Nat} {t : TypeId} {v : Value} (h : Boxed W B t v) (e : W'.heap[B]? = W.heap[B]?) : Boxed W' B t v := e.trans h

end Go.Proofs.Ytbaeogoojpngbaa
