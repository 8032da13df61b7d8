/-
  No cell of these rows narrows 'for every input' (looked for: loops, veiled, ifaces, maps, wideKeys, modest, calm, conditions, laid).
  DERIVED. THE GIVEN ROWS OF THIS SEAT. 6 by the template 'for every input the law returns true; each argument reads behind the call as it read before'; 0 by the template 'total and deterministic' (their statements: YtljmamogefgiaaaTotals.lean).
  GIVEN WITH THE SEED: the statements are not yours to turn. If you find one false, say at which input.
  Laid BY PROGRAM, IN A SANDBOX (cutbox-rows.mjs): the forced cells as the released guide's own fill.sh prints them over the translation 1f9c33634878e5ac… (all of the seat's roots in one cut). By AI agents, Wed Nov 11 2026. No macro, syntax, notation, axiom, sorry.
-/
import Derived.Test.YtljmamogefgiaaaChecked
import GoSem.Claim
import GoSem.ClaimJoined
import GoSem.ClaimMapViews
import Derived.JoinedTies
import Derived.KernelRfl
namespace Go.Proofs.Ytljmamogefgiaaa
/- THE CELL 'sum', in the pinned program and in every row, IS THE sha256 OF THE DUMP (.gsa) THAT YtljmamogefgiaaaProg.lean LOADS. Nothing in Lean hashes anything: it is a label: what it is worth is what the hold of that sum in a sandbox is worth. -/
noncomputable def Try.pinned : Pinned := { name := "ytljmamogefgiaaa", sum := "1f9c33634878e5ac3a28e87c73c2d54d460c4c8d19fc3d32f1367b6c11b70dee", checked := Try.checked }
namespace Rows
def none {H : Type} : Left H := { results := [], args := [] }

/-- 'ferrymanlaw07.IcmpWrites': WHATEVER THE INPUT: true; the input reads as it did. -/
def icmpWritesSpec : ChangeSpec := { name := "icmpWrites", fn := fun _ => fun
  | [d1, d2, d3] => { results := [.lit (.bool true)], args := [d1, d2, d3] }
  | _ => none }
def icmpWritesRow : OpenClaim := { program := "ytljmamogefgiaaa", sum := "1f9c33634878e5ac3a28e87c73c2d54d460c4c8d19fc3d32f1367b6c11b70dee", func := "ferryman/ferrymanlaw07.IcmpWrites", spec := "icmpWrites", unfollowed := true, recurses := true, apart := false }
def IcmpWritesSaid : Prop := icmpWritesRow.holds Try.pinned (OpenSpec.ofChange icmpWritesSpec)

/-- ITS FALSE NEIGHBOUR: 'it returns false'. Refute it at one input. -/
def icmpWritesWrong : ChangeSpec := { name := "icmpWrites", fn := fun _ => fun
  | [d1, d2, d3] => { results := [.lit (.bool false)], args := [d1, d2, d3] }
  | _ => none }
def IcmpWritesWrongFalsely : Prop := icmpWritesRow.holds Try.pinned (OpenSpec.ofChange icmpWritesWrong)

/-- 'ferrymanlaw07.IcmpParses': WHATEVER THE INPUT: true; the input reads as it did. -/
def icmpParsesSpec : ChangeSpec := { name := "icmpParses", fn := fun _ => fun
  | [d1, d2, d3] => { results := [.lit (.bool true)], args := [d1, d2, d3] }
  | _ => none }
def icmpParsesRow : OpenClaim := { program := "ytljmamogefgiaaa", sum := "1f9c33634878e5ac3a28e87c73c2d54d460c4c8d19fc3d32f1367b6c11b70dee", func := "ferryman/ferrymanlaw07.IcmpParses", spec := "icmpParses", unfollowed := true, recurses := true, apart := false }
def IcmpParsesSaid : Prop := icmpParsesRow.holds Try.pinned (OpenSpec.ofChange icmpParsesSpec)

/-- ITS FALSE NEIGHBOUR: 'it returns false'. Refute it at one input. -/
def icmpParsesWrong : ChangeSpec := { name := "icmpParses", fn := fun _ => fun
  | [d1, d2, d3] => { results := [.lit (.bool false)], args := [d1, d2, d3] }
  | _ => none }
def IcmpParsesWrongFalsely : Prop := icmpParsesRow.holds Try.pinned (OpenSpec.ofChange icmpParsesWrong)

/-- 'ferrymanlaw07.IcmpKinds': WHATEVER THE INPUT: true; the input reads as it did. -/
def icmpKindsSpec : ChangeSpec := { name := "icmpKinds", fn := fun _ => fun
  | [d1, d2, d3] => { results := [.lit (.bool true)], args := [d1, d2, d3] }
  | _ => none }
def icmpKindsRow : OpenClaim := { program := "ytljmamogefgiaaa", sum := "1f9c33634878e5ac3a28e87c73c2d54d460c4c8d19fc3d32f1367b6c11b70dee", func := "ferryman/ferrymanlaw07.IcmpKinds", spec := "icmpKinds", unfollowed := true, recurses := true, apart := false }
def IcmpKindsSaid : Prop := icmpKindsRow.holds Try.pinned (OpenSpec.ofChange icmpKindsSpec)

/-- ITS FALSE NEIGHBOUR: 'it returns false'. Refute it at one input. -/
def icmpKindsWrong : ChangeSpec := { name := "icmpKinds", fn := fun _ => fun
  | [d1, d2, d3] => { results := [.lit (.bool false)], args := [d1, d2, d3] }
  | _ => none }
def IcmpKindsWrongFalsely : Prop := icmpKindsRow.holds Try.pinned (OpenSpec.ofChange icmpKindsWrong)

/-- 'ferrymanlaw07.IcmpErrors': WHATEVER THE INPUT: true; the input reads as it did. -/
def icmpErrorsSpec : ChangeSpec := { name := "icmpErrors", fn := fun _ => fun
  | [d1, d2, d3, d4] => { results := [.lit (.bool true)], args := [d1, d2, d3, d4] }
  | _ => none }
def icmpErrorsRow : OpenClaim := { program := "ytljmamogefgiaaa", sum := "1f9c33634878e5ac3a28e87c73c2d54d460c4c8d19fc3d32f1367b6c11b70dee", func := "ferryman/ferrymanlaw07.IcmpErrors", spec := "icmpErrors", unfollowed := true, recurses := true, apart := false }
def IcmpErrorsSaid : Prop := icmpErrorsRow.holds Try.pinned (OpenSpec.ofChange icmpErrorsSpec)

/-- ITS FALSE NEIGHBOUR: 'it returns false'. Refute it at one input. -/
def icmpErrorsWrong : ChangeSpec := { name := "icmpErrors", fn := fun _ => fun
  | [d1, d2, d3, d4] => { results := [.lit (.bool false)], args := [d1, d2, d3, d4] }
  | _ => none }
def IcmpErrorsWrongFalsely : Prop := icmpErrorsRow.holds Try.pinned (OpenSpec.ofChange icmpErrorsWrong)

/-- 'ferrymanlaw07.IcmpBack': WHATEVER THE INPUT: true; the input reads as it did. -/
def icmpBackSpec : ChangeSpec := { name := "icmpBack", fn := fun _ => fun
  | [d1, d2, d3] => { results := [.lit (.bool true)], args := [d1, d2, d3] }
  | _ => none }
def icmpBackRow : OpenClaim := { program := "ytljmamogefgiaaa", sum := "1f9c33634878e5ac3a28e87c73c2d54d460c4c8d19fc3d32f1367b6c11b70dee", func := "ferryman/ferrymanlaw07.IcmpBack", spec := "icmpBack", unfollowed := true, recurses := true, apart := false }
def IcmpBackSaid : Prop := icmpBackRow.holds Try.pinned (OpenSpec.ofChange icmpBackSpec)

/-- ITS FALSE NEIGHBOUR: 'it returns false'. Refute it at one input. -/
def icmpBackWrong : ChangeSpec := { name := "icmpBack", fn := fun _ => fun
  | [d1, d2, d3] => { results := [.lit (.bool false)], args := [d1, d2, d3] }
  | _ => none }
def IcmpBackWrongFalsely : Prop := icmpBackRow.holds Try.pinned (OpenSpec.ofChange icmpBackWrong)

/-- 'ferrymanlaw07.IcmpOneBit': WHATEVER THE INPUT: true; the input reads as it did. -/
def icmpOneBitSpec : ChangeSpec := { name := "icmpOneBit", fn := fun _ => fun
  | [d1, d2, d3, d4] => { results := [.lit (.bool true)], args := [d1, d2, d3, d4] }
  | _ => none }
def icmpOneBitRow : OpenClaim := { program := "ytljmamogefgiaaa", sum := "1f9c33634878e5ac3a28e87c73c2d54d460c4c8d19fc3d32f1367b6c11b70dee", func := "ferryman/ferrymanlaw07.IcmpOneBit", spec := "icmpOneBit", unfollowed := true, recurses := true, apart := false }
def IcmpOneBitSaid : Prop := icmpOneBitRow.holds Try.pinned (OpenSpec.ofChange icmpOneBitSpec)

/-- ITS FALSE NEIGHBOUR: 'it returns false'. Refute it at one input. -/
def icmpOneBitWrong : ChangeSpec := { name := "icmpOneBit", fn := fun _ => fun
  | [d1, d2, d3, d4] => { results := [.lit (.bool false)], args := [d1, d2, d3, d4] }
  | _ => none }
def IcmpOneBitWrongFalsely : Prop := icmpOneBitRow.holds Try.pinned (OpenSpec.ofChange icmpOneBitWrong)

/- THE SECOND FORM. 'bulk': how many values and letters a reading holds, each counted each time it is reached (what is shared counts as often as it is met; a slice's spare places count too). A statement '..UptoSaid' is the law's where the arguments, and the package variables that the reading takes, are together of bulk at most 1048576: NARROWER than '..Said'. Prove '..Said' where nothing that the law and all that it calls make is longer than what came in: it says more and counts as full. Else prove '..UptoSaid'. A law counts once. -/
mutual
def uptoBulk {H : Type} : DataW H → Nat
  | .lit (.string bytes) => bytes.length + 1
  | .lit _ => 1
  | .nil => 1
  | .ptr d => uptoBulk d + 1
  | .slice elems spare => uptoBulkAll elems + uptoBulkAll spare + 1
  | .agg parts => uptoBulkAll parts + 1
  | .iface _ d => uptoBulk d + 1
  | .map entries => uptoBulkEntries entries + 1
  | .held _ => 1
def uptoBulkAll {H : Type} : List (DataW H) → Nat
  | [] => 0
  | d :: r => uptoBulk d + uptoBulkAll r
def uptoBulkEntries {H : Type} : List (Lit × DataW H) → Nat
  | [] => 0
  | x :: r => uptoBulkEntry x + uptoBulkEntries r
def uptoBulkEntry {H : Type} : Lit × DataW H → Nat
  | (.string bytes, d) => bytes.length + uptoBulk d + 1
  | (_, d) => uptoBulk d + 1
 end
def uptoSmall : (H : Type) → List (DataW H) → Bool := fun _ ds => decide (uptoBulkAll ds ≤ 1048576)
def OpenSpec.upto (s : _root_.Go.ChangeSpec) : _root_.Go.OpenSpec := { _root_.Go.OpenSpec.ofChange s with cond := some uptoSmall }

/-- 'ferrymanlaw07.IcmpWrites', WHERE WHAT IT READS IS OF BULK AT MOST 1048576: true; the input reads as it did. -/
def icmpWritesUptoRow : OpenClaim := { program := "ytljmamogefgiaaa", sum := "1f9c33634878e5ac3a28e87c73c2d54d460c4c8d19fc3d32f1367b6c11b70dee", func := "ferryman/ferrymanlaw07.IcmpWrites", spec := "icmpWrites", unfollowed := true, recurses := true, apart := false, narrowed := true }
def IcmpWritesUptoSaid : Prop := icmpWritesUptoRow.holds Try.pinned (OpenSpec.upto icmpWritesSpec)

/-- 'ferrymanlaw07.IcmpParses', WHERE WHAT IT READS IS OF BULK AT MOST 1048576: true; the input reads as it did. -/
def icmpParsesUptoRow : OpenClaim := { program := "ytljmamogefgiaaa", sum := "1f9c33634878e5ac3a28e87c73c2d54d460c4c8d19fc3d32f1367b6c11b70dee", func := "ferryman/ferrymanlaw07.IcmpParses", spec := "icmpParses", unfollowed := true, recurses := true, apart := false, narrowed := true }
def IcmpParsesUptoSaid : Prop := icmpParsesUptoRow.holds Try.pinned (OpenSpec.upto icmpParsesSpec)

/-- 'ferrymanlaw07.IcmpKinds', WHERE WHAT IT READS IS OF BULK AT MOST 1048576: true; the input reads as it did. -/
def icmpKindsUptoRow : OpenClaim := { program := "ytljmamogefgiaaa", sum := "1f9c33634878e5ac3a28e87c73c2d54d460c4c8d19fc3d32f1367b6c11b70dee", func := "ferryman/ferrymanlaw07.IcmpKinds", spec := "icmpKinds", unfollowed := true, recurses := true, apart := false, narrowed := true }
def IcmpKindsUptoSaid : Prop := icmpKindsUptoRow.holds Try.pinned (OpenSpec.upto icmpKindsSpec)

/-- 'ferrymanlaw07.IcmpErrors', WHERE WHAT IT READS IS OF BULK AT MOST 1048576: true; the input reads as it did. -/
def icmpErrorsUptoRow : OpenClaim := { program := "ytljmamogefgiaaa", sum := "1f9c33634878e5ac3a28e87c73c2d54d460c4c8d19fc3d32f1367b6c11b70dee", func := "ferryman/ferrymanlaw07.IcmpErrors", spec := "icmpErrors", unfollowed := true, recurses := true, apart := false, narrowed := true }
def IcmpErrorsUptoSaid : Prop := icmpErrorsUptoRow.holds Try.pinned (OpenSpec.upto icmpErrorsSpec)

/-- 'ferrymanlaw07.IcmpBack', WHERE WHAT IT READS IS OF BULK AT MOST 1048576: true; the input reads as it did. -/
def icmpBackUptoRow : OpenClaim := { program := "ytljmamogefgiaaa", sum := "1f9c33634878e5ac3a28e87c73c2d54d460c4c8d19fc3d32f1367b6c11b70dee", func := "ferryman/ferrymanlaw07.IcmpBack", spec := "icmpBack", unfollowed := true, recurses := true, apart := false, narrowed := true }
def IcmpBackUptoSaid : Prop := icmpBackUptoRow.holds Try.pinned (OpenSpec.upto icmpBackSpec)

/-- 'ferrymanlaw07.IcmpOneBit', WHERE WHAT IT READS IS OF BULK AT MOST 1048576: true; the input reads as it did. -/
def icmpOneBitUptoRow : OpenClaim := { program := "ytljmamogefgiaaa", sum := "1f9c33634878e5ac3a28e87c73c2d54d460c4c8d19fc3d32f1367b6c11b70dee", func := "ferryman/ferrymanlaw07.IcmpOneBit", spec := "icmpOneBit", unfollowed := true, recurses := true, apart := false, narrowed := true }
def IcmpOneBitUptoSaid : Prop := icmpOneBitUptoRow.holds Try.pinned (OpenSpec.upto icmpOneBitSpec)

end Rows
end Go.Proofs.Ytljmamogefgiaaa
