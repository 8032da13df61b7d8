/-
  The statement Ipv4Parses for every argument.
-/
import Derived.Test.YtmoogfdmlbalbaaIr14
import Derived.Test.YtmoogfdmlbalbaaIr16
namespace Go.Proofs.Ytmoogfdmlbalbaa
open Go Go.RowKit
set_option linter.unusedVariables false
set_option linter.unusedSimpArgs false

theorem ipv4Parses_open {H : Type} {enc : TypeId × Value → H} {W : World} {base : Nat} (v0 : Value) {d0 : DataW H} {p0 : List MemPlace}
    (o0 : Value.okWide Try.prog W .any base 25 v0) (h0 : DataW.Trod enc Try.prog W 0 (fun _ => true) true 25 v0 d0 p0) (z0 : ∀ k ∈ d0.weights Try.prog 25, k ≤ reachBytes) :
    Calls Try.prog 4 #[v0] W fun e w' => e = .returned (.bool true) ∧ Below W.heap.size W w' := by
  obtain ⟨zs, hR⟩ := open_row o0 h0 z0
  exact ipv4Parses_walk v0 zs W hR (fun w' hB => RParse_any (hR.on hB)) (fun w' hB => RPart_any (hR.on hB))

end Go.Proofs.Ytmoogfdmlbalbaa
