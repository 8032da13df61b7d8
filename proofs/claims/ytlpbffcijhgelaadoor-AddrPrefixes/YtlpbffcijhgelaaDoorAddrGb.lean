/-
  How many bytes are given where two colons stood.
-/
import Derived.Test.YtlpbffcijhgelaaDoorAddrLs
namespace Go.Proofs.YtlpbffcijhgelaaDoor
open Go Go.RowKit
set_option linter.unusedVariables false

theorem given_bound {g : Grp} (hk : g.Ok) (hgp : g.gapped = true) : g.given.length ≤ 14 ∧ g.ended.length ≤ g.given.length := by
  have hm := hk.most
  rw [hgp, if_pos rfl] at hm
  unfold Grp.given
  split
  · rename_i hd
    rw [if_pos hd] at hm
    simp [Dot.addr]
    omega
  · rename_i hd
    rw [if_neg hd] at hm
    split
    · rename_i hp
      rw [if_neg (by simpa using hp)] at hm
      simp
      omega
    · omega

end Go.Proofs.YtlpbffcijhgelaaDoor
