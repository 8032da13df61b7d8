/-
  No cell of these rows narrows 'for every input' (looked for: loops, veiled, ifaces, maps, wideKeys, modest, calm, conditions, laid).
  DERIVED. THE GIVEN ROWS OF THIS SEAT. 6 by the template 'for every input the law returns true; each argument reads behind the call as it read before'; 0 by the template 'total and deterministic' (their statements: YtmcofmdogopfjaaTotals.lean).
  GIVEN WITH THE SEED: the statements are not yours to turn. If you find one false, say at which input.
  Laid BY PROGRAM, IN A SANDBOX (cutbox-rows.mjs): the forced cells as the released guide's own fill.sh prints them over the translation 634779042a0159cb… (all of the seat's roots in one cut). By AI agents, Wed Nov 11 2026. No macro, syntax, notation, axiom, sorry.
-/
import Derived.Test.YtmcofmdogopfjaaChecked
import GoSem.Claim
import GoSem.ClaimJoined
import GoSem.ClaimMapViews
import Derived.JoinedTies
import Derived.KernelRfl
namespace Go.Proofs.Ytmcofmdogopfjaa
/- THE CELL 'sum', in the pinned program and in every row, IS THE sha256 OF THE DUMP (.gsa) THAT YtmcofmdogopfjaaProg.lean LOADS. Nothing in Lean hashes anything: it is a label: what it is worth is what the hold of that sum in a sandbox is worth. -/
noncomputable def Try.pinned : Pinned := { name := "ytmcofmdogopfjaa", sum := "634779042a0159cb79069d86fd167f66cc0d4ceb4b82860913421d83c1e12bfd", checked := Try.checked }
namespace Rows
def none {H : Type} : Left H := { results := [], args := [] }

/-- 'ferrymanlaw09.PortsetOf': WHATEVER THE INPUT: true; the input reads as it did. -/
def portsetOfSpec : ChangeSpec := { name := "portsetOf", fn := fun _ => fun
  | [d1, d2] => { results := [.lit (.bool true)], args := [d1, d2] }
  | _ => none }
def portsetOfRow : OpenClaim := { program := "ytmcofmdogopfjaa", sum := "634779042a0159cb79069d86fd167f66cc0d4ceb4b82860913421d83c1e12bfd", func := "ferryman/ferrymanlaw09.PortsetOf", spec := "portsetOf", apart := false }
def PortsetOfSaid : Prop := portsetOfRow.holds Try.pinned (OpenSpec.ofChange portsetOfSpec)

/-- ITS FALSE NEIGHBOUR: 'it returns false'. Refute it at one input. -/
def portsetOfWrong : ChangeSpec := { name := "portsetOf", fn := fun _ => fun
  | [d1, d2] => { results := [.lit (.bool false)], args := [d1, d2] }
  | _ => none }
def PortsetOfWrongFalsely : Prop := portsetOfRow.holds Try.pinned (OpenSpec.ofChange portsetOfWrong)

/-- 'ferrymanlaw09.PortsetAt': WHATEVER THE INPUT: true; the input reads as it did. -/
def portsetAtSpec : ChangeSpec := { name := "portsetAt", fn := fun _ => fun
  | [d1, d2, d3] => { results := [.lit (.bool true)], args := [d1, d2, d3] }
  | _ => none }
def portsetAtRow : OpenClaim := { program := "ytmcofmdogopfjaa", sum := "634779042a0159cb79069d86fd167f66cc0d4ceb4b82860913421d83c1e12bfd", func := "ferryman/ferrymanlaw09.PortsetAt", spec := "portsetAt", apart := false }
def PortsetAtSaid : Prop := portsetAtRow.holds Try.pinned (OpenSpec.ofChange portsetAtSpec)

/-- ITS FALSE NEIGHBOUR: 'it returns false'. Refute it at one input. -/
def portsetAtWrong : ChangeSpec := { name := "portsetAt", fn := fun _ => fun
  | [d1, d2, d3] => { results := [.lit (.bool false)], args := [d1, d2, d3] }
  | _ => none }
def PortsetAtWrongFalsely : Prop := portsetAtRow.holds Try.pinned (OpenSpec.ofChange portsetAtWrong)

/-- 'ferrymanlaw09.PortsetRuns': WHATEVER THE INPUT: true; the input reads as it did. -/
def portsetRunsSpec : ChangeSpec := { name := "portsetRuns", fn := fun _ => fun
  | [d] => { results := [.lit (.bool true)], args := [d] }
  | _ => none }
def portsetRunsRow : OpenClaim := { program := "ytmcofmdogopfjaa", sum := "634779042a0159cb79069d86fd167f66cc0d4ceb4b82860913421d83c1e12bfd", func := "ferryman/ferrymanlaw09.PortsetRuns", spec := "portsetRuns", unfollowed := true, recurses := true, apart := false }
def PortsetRunsSaid : Prop := portsetRunsRow.holds Try.pinned (OpenSpec.ofChange portsetRunsSpec)

/-- ITS FALSE NEIGHBOUR: 'it returns false'. Refute it at one input. -/
def portsetRunsWrong : ChangeSpec := { name := "portsetRuns", fn := fun _ => fun
  | [d] => { results := [.lit (.bool false)], args := [d] }
  | _ => none }
def PortsetRunsWrongFalsely : Prop := portsetRunsRow.holds Try.pinned (OpenSpec.ofChange portsetRunsWrong)

/-- 'ferrymanlaw09.PortsetApart': WHATEVER THE INPUT: true; the input reads as it did. -/
def portsetApartSpec : ChangeSpec := { name := "portsetApart", fn := fun _ => fun
  | [d1, d2, d3] => { results := [.lit (.bool true)], args := [d1, d2, d3] }
  | _ => none }
def portsetApartRow : OpenClaim := { program := "ytmcofmdogopfjaa", sum := "634779042a0159cb79069d86fd167f66cc0d4ceb4b82860913421d83c1e12bfd", func := "ferryman/ferrymanlaw09.PortsetApart", spec := "portsetApart", apart := false }
def PortsetApartSaid : Prop := portsetApartRow.holds Try.pinned (OpenSpec.ofChange portsetApartSpec)

/-- ITS FALSE NEIGHBOUR: 'it returns false'. Refute it at one input. -/
def portsetApartWrong : ChangeSpec := { name := "portsetApart", fn := fun _ => fun
  | [d1, d2, d3] => { results := [.lit (.bool false)], args := [d1, d2, d3] }
  | _ => none }
def PortsetApartWrongFalsely : Prop := portsetApartRow.holds Try.pinned (OpenSpec.ofChange portsetApartWrong)

/-- 'ferrymanlaw09.PortsetMany': WHATEVER THE INPUT: true; the input reads as it did. -/
def portsetManySpec : ChangeSpec := { name := "portsetMany", fn := fun _ => fun
  | [d1, d2] => { results := [.lit (.bool true)], args := [d1, d2] }
  | _ => none }
def portsetManyRow : OpenClaim := { program := "ytmcofmdogopfjaa", sum := "634779042a0159cb79069d86fd167f66cc0d4ceb4b82860913421d83c1e12bfd", func := "ferryman/ferrymanlaw09.PortsetMany", spec := "portsetMany", apart := false }
def PortsetManySaid : Prop := portsetManyRow.holds Try.pinned (OpenSpec.ofChange portsetManySpec)

/-- ITS FALSE NEIGHBOUR: 'it returns false'. Refute it at one input. -/
def portsetManyWrong : ChangeSpec := { name := "portsetMany", fn := fun _ => fun
  | [d1, d2] => { results := [.lit (.bool false)], args := [d1, d2] }
  | _ => none }
def PortsetManyWrongFalsely : Prop := portsetManyRow.holds Try.pinned (OpenSpec.ofChange portsetManyWrong)

/-- 'ferrymanlaw09.PortsetBack': WHATEVER THE INPUT: true; the input reads as it did. -/
def portsetBackSpec : ChangeSpec := { name := "portsetBack", fn := fun _ => fun
  | [d1, d2] => { results := [.lit (.bool true)], args := [d1, d2] }
  | _ => none }
def portsetBackRow : OpenClaim := { program := "ytmcofmdogopfjaa", sum := "634779042a0159cb79069d86fd167f66cc0d4ceb4b82860913421d83c1e12bfd", func := "ferryman/ferrymanlaw09.PortsetBack", spec := "portsetBack", apart := false }
def PortsetBackSaid : Prop := portsetBackRow.holds Try.pinned (OpenSpec.ofChange portsetBackSpec)

/-- ITS FALSE NEIGHBOUR: 'it returns false'. Refute it at one input. -/
def portsetBackWrong : ChangeSpec := { name := "portsetBack", fn := fun _ => fun
  | [d1, d2] => { results := [.lit (.bool false)], args := [d1, d2] }
  | _ => none }
def PortsetBackWrongFalsely : Prop := portsetBackRow.holds Try.pinned (OpenSpec.ofChange portsetBackWrong)

/- THE SECOND FORM. 'bulk': how many values and letters a reading holds, each counted each time it is reached (what is shared counts as often as it is met; a slice's spare places count too). A statement '..UptoSaid' is the law's where the arguments, and the package variables that the reading takes, are together of bulk at most 1048576: NARROWER than '..Said'. Prove '..Said' where nothing that the law and all that it calls make is longer than what came in: it says more and counts as full. Else prove '..UptoSaid'. A law counts once. -/
mutual
def uptoBulk {H : Type} : DataW H → Nat
  | .lit (.string bytes) => bytes.length + 1
  | .lit _ => 1
  | .nil => 1
  | .ptr d => uptoBulk d + 1
  | .slice elems spare => uptoBulkAll elems + uptoBulkAll spare + 1
  | .agg parts => uptoBulkAll parts + 1
  | .iface _ d => uptoBulk d + 1
  | .map entries => uptoBulkEntries entries + 1
  | .held _ => 1
def uptoBulkAll {H : Type} : List (DataW H) → Nat
  | [] => 0
  | d :: r => uptoBulk d + uptoBulkAll r
def uptoBulkEntries {H : Type} : List (Lit × DataW H) → Nat
  | [] => 0
  | x :: r => uptoBulkEntry x + uptoBulkEntries r
def uptoBulkEntry {H : Type} : Lit × DataW H → Nat
  | (.string bytes, d) => bytes.length + uptoBulk d + 1
  | (_, d) => uptoBulk d + 1
 end
def uptoSmall : (H : Type) → List (DataW H) → Bool := fun _ ds => decide (uptoBulkAll ds ≤ 1048576)
def OpenSpec.upto (s : _root_.Go.ChangeSpec) : _root_.Go.OpenSpec := { _root_.Go.OpenSpec.ofChange s with cond := some uptoSmall }

/-- 'ferrymanlaw09.PortsetOf', WHERE WHAT IT READS IS OF BULK AT MOST 1048576: true; the input reads as it did. -/
def portsetOfUptoRow : OpenClaim := { program := "ytmcofmdogopfjaa", sum := "634779042a0159cb79069d86fd167f66cc0d4ceb4b82860913421d83c1e12bfd", func := "ferryman/ferrymanlaw09.PortsetOf", spec := "portsetOf", apart := false, narrowed := true }
def PortsetOfUptoSaid : Prop := portsetOfUptoRow.holds Try.pinned (OpenSpec.upto portsetOfSpec)

/-- 'ferrymanlaw09.PortsetAt', WHERE WHAT IT READS IS OF BULK AT MOST 1048576: true; the input reads as it did. -/
def portsetAtUptoRow : OpenClaim := { program := "ytmcofmdogopfjaa", sum := "634779042a0159cb79069d86fd167f66cc0d4ceb4b82860913421d83c1e12bfd", func := "ferryman/ferrymanlaw09.PortsetAt", spec := "portsetAt", apart := false, narrowed := true }
def PortsetAtUptoSaid : Prop := portsetAtUptoRow.holds Try.pinned (OpenSpec.upto portsetAtSpec)

/-- 'ferrymanlaw09.PortsetRuns', WHERE WHAT IT READS IS OF BULK AT MOST 1048576: true; the input reads as it did. -/
def portsetRunsUptoRow : OpenClaim := { program := "ytmcofmdogopfjaa", sum := "634779042a0159cb79069d86fd167f66cc0d4ceb4b82860913421d83c1e12bfd", func := "ferryman/ferrymanlaw09.PortsetRuns", spec := "portsetRuns", unfollowed := true, recurses := true, apart := false, narrowed := true }
def PortsetRunsUptoSaid : Prop := portsetRunsUptoRow.holds Try.pinned (OpenSpec.upto portsetRunsSpec)

/-- 'ferrymanlaw09.PortsetApart', WHERE WHAT IT READS IS OF BULK AT MOST 1048576: true; the input reads as it did. -/
def portsetApartUptoRow : OpenClaim := { program := "ytmcofmdogopfjaa", sum := "634779042a0159cb79069d86fd167f66cc0d4ceb4b82860913421d83c1e12bfd", func := "ferryman/ferrymanlaw09.PortsetApart", spec := "portsetApart", apart := false, narrowed := true }
def PortsetApartUptoSaid : Prop := portsetApartUptoRow.holds Try.pinned (OpenSpec.upto portsetApartSpec)

/-- 'ferrymanlaw09.PortsetMany', WHERE WHAT IT READS IS OF BULK AT MOST 1048576: true; the input reads as it did. -/
def portsetManyUptoRow : OpenClaim := { program := "ytmcofmdogopfjaa", sum := "634779042a0159cb79069d86fd167f66cc0d4ceb4b82860913421d83c1e12bfd", func := "ferryman/ferrymanlaw09.PortsetMany", spec := "portsetMany", apart := false, narrowed := true }
def PortsetManyUptoSaid : Prop := portsetManyUptoRow.holds Try.pinned (OpenSpec.upto portsetManySpec)

/-- 'ferrymanlaw09.PortsetBack', WHERE WHAT IT READS IS OF BULK AT MOST 1048576: true; the input reads as it did. -/
def portsetBackUptoRow : OpenClaim := { program := "ytmcofmdogopfjaa", sum := "634779042a0159cb79069d86fd167f66cc0d4ceb4b82860913421d83c1e12bfd", func := "ferryman/ferrymanlaw09.PortsetBack", spec := "portsetBack", apart := false, narrowed := true }
def PortsetBackUptoSaid : Prop := portsetBackUptoRow.holds Try.pinned (OpenSpec.upto portsetBackSpec)

end Rows
end Go.Proofs.Ytmcofmdogopfjaa
