/-
  Bytes as argument, with their room.
-/
import Derived.Test.YtmoogfdmlbalbaaIr15
namespace Go.Proofs.Ytmoogfdmlbalbaa
open Go Go.RowKit Go.ChangeShapes Go.WideShapes Go.ChangeAt
set_option linter.unusedVariables false
set_option linter.unusedSimpArgs false

theorem RowC.of_bytes {w : World} {a : Option Addr} {n cap : Nat} {zs : List Int} (h : BytesAt w.heap.size w (.slice a n cap) zs) (hc : n ≤ cap) : RowC w (.slice a n cap) zs := by
  obtain ⟨hf, hl, a', cap', e, hz⟩ := h
  cases e
  exact ⟨hf, hl, _, _, rfl, hc, hz⟩
theorem open_row {H : Type} {enc : TypeId × Value → H} {W : World} {base : Nat} {v : Value} {d : DataW H} {p : List MemPlace} (hval : Value.okWide Try.prog W .any base 25 v)
    (h : DataW.Trod enc Try.prog W 0 (fun _ => true) true 25 v d p) (hz : ∀ k ∈ d.weights Try.prog 25, k ≤ reachBytes) : ∃ zs, RowC W v zs := by
  obtain ⟨a, len, cap, rfl⟩ := okWide_slice Try.underlying25 hval
  obtain ⟨fuel, hf⟩ := h
  obtain ⟨v', zs, hcs, hb⟩ := open_bytes1 hf hz
  simp [Value.cells] at hcs
  subst hcs
  refine ⟨zs, .of_bytes hb ?_⟩
  rcases open_ints Try.underlying25 Try.underlying5 (by kernel_rfl) hf with ⟨hcs, _⟩ | ⟨x, l, c, zs, hcs, _, hl, hm, hz, _, hcell, hwz⟩
  · simp [Value.cells] at hcs
    omega
  · simp [Value.cells] at hcs
    omega

end Go.Proofs.Ytmoogfdmlbalbaa
