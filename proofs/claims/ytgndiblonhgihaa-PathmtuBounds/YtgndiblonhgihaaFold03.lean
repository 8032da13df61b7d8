/-
  IPv4 prefixes: Check4 of the program.
  IPv4 prefixes: Cover4 and Has4 of the program.
-/
import Derived.Test.YtgndiblonhgihaaFold02
namespace Go.Proofs.Ytgndiblonhgihaa
open Go Go.RowKit
set_option linter.unusedVariables false
set_option linter.unusedSimpArgs false

/-- May the prefix be? -/
def pL (a0 a1 a2 a3 n : Int) : List Int := [bl a0 n, bl a1 (n - 8), bl a2 (n - 16), bl a3 (n - 24)]
def okP4 (a0 a1 a2 a3 n : Int) : Bool := decide (0 ≤ n ∧ n ≤ 32) && decide ([a0, a1, a2, a3] = pL a0 a1 a2 a3 n)

theorem box5 (w : World) (v0 v1 v2 v3 v4 : Value) (t : TypeId) {w' : World} (hb : Below (w.alloc (.cells #[v0, v1, v2, v3, v4] t)).heap.size (w.alloc (.cells #[v0, v1, v2, v3, v4] t)) w') :
    (w'.cell? ⟨w.heap.size, 0, none⟩ = some v0 ∧ w'.cell? ⟨w.heap.size, 1, none⟩ = some v1 ∧ w'.cell? ⟨w.heap.size, 2, none⟩ = some v2 ∧ w'.cell? ⟨w.heap.size, 3, none⟩ = some v3 ∧ w'.cell? ⟨w.heap.size, 4, none⟩ = some v4) := by
  have h : w'.heap[w.heap.size]? = some (.cells #[v0, v1, v2, v3, v4] t) := (hb.block w.heap.size (by simp)).trans (alloc_new w _)
  exact ⟨by simp [World.cell?, h], by simp [World.cell?, h], by simp [World.cell?, h], by simp [World.cell?, h], by simp [World.cell?, h]⟩

end Go.Proofs.Ytgndiblonhgihaa

namespace Go.Proofs.Ytgndiblonhgihaa
open Go Go.RowKit
set_option linter.unusedVariables false
set_option linter.unusedSimpArgs false

def covB (a0 a1 a2 a3 n b0 b1 b2 b3 m : Int) : Bool := decide (n ≤ m) && decide ([a0, a1, a2, a3] = pL b0 b1 b2 b3 n)
def bothOk (a0 a1 a2 a3 n b0 b1 b2 b3 m : Int) : Bool := okP4 a0 a1 a2 a3 n && okP4 b0 b1 b2 b3 m

structure Fits (a0 a1 a2 a3 n : Int) : Prop where
  h0 : 0 ≤ a0 ∧ a0 < 256
  h1 : 0 ≤ a1 ∧ a1 < 256
  h2 : 0 ≤ a2 ∧ a2 < 256
  h3 : 0 ≤ a3 ∧ a3 < 256
  hn : -9223372036854775808 ≤ n ∧ n ≤ 9223372036854775807

end Go.Proofs.Ytgndiblonhgihaa
