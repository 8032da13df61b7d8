/-
  SegmentTCPs.
-/
import Derived.Test.YtlhmelkgnpjgaaaSl6
import Derived.Test.YtlhmelkgnpjgaaaSl8
namespace Go.Proofs.Ytlhmelkgnpjgaaa
open Go Go.RowKit Go.Shelf
set_option linter.unusedVariables false
set_option linter.unusedSimpArgs false

theorem RParseTCP_any (sv dv : Value) (N : Nat) (ph : Int → Int → List Int) (v : Value) (zs : List Int) (w : World) (hN : N ≤ 1000) (he : EndV w sv dv N ph) (h : RowC w v zs) :
    Calls Try.prog 25 #[sv, dv, v] w fun e w' => ParT ph zs w e w' := by
  by_cases hn : zs.length < 20
  · exact (RParseTCP_short sv dv N ph v zs w he h hn).mono (fun e w' k => .bad (tE_short hn) (by decide) k.1 k.2)
  · have hn : 20 ≤ zs.length := by omega
    by_cases hL : 20 ≤ hdL zs ∧ hdL zs ≤ zs.length
    · have hu := tE_more (ph := ph) hn hL
      by_cases hl : 65535 < zs.length
      · rw [if_pos hl] at hu
        exact (RParseTCP_long sv dv N ph v zs w he h hl hL).mono (fun e w' k => .bad hu (by decide) k.1 k.2)
      · rw [if_neg hl] at hu
        have hH : hdL zs = 20 + (((hdL zs - 20).toNat : Nat) : Int) := by omega
        refine (RParseTCP_more sv dv N ph hN v zs (hdL zs - 20).toNat w he h hn (by omega) hH (by omega) _ rfl).mono ?_
        rintro e w' ⟨hb, hbad, hgood⟩
        by_cases h0 : tE ph zs = 0
        · obtain ⟨vo, vd, he, k1, k2, k3, k4⟩ := hgood (hu.symm.trans h0)
          exact .good h.fit hH h0 he k1 k2 k3 k4 hb
        · exact .bad hu (fun k => h0 (hu.trans k)) (hbad (fun k => h0 (hu.trans k))) hb
    · exact (RParseTCP_length sv dv N ph v zs w he h hn hL).mono (fun e w' k => .bad (tE_length hn hL) (by decide) k.1 k.2)

set_option maxRecDepth 100000 in
theorem segmentTCPs_open {H : Type} {enc : TypeId × Value → H} {W : World} {base : Nat} (v0 v1 : Value) {d0 d1 : DataW H} {p0 p1 : List MemPlace}
    (o0 : Value.okWide Try.prog W .any base 27 v0) (h0 : DataW.Trod enc Try.prog W 0 (fun _ => true) true 27 v0 d0 p0) (z0 : ∀ k ∈ d0.weights Try.prog 27, k ≤ reachBytes)
    (o1 : Value.okWide Try.prog W .any base 29 v1) (h1 : DataW.Trod enc Try.prog W 0 (fun _ => true) true 29 v1 d1 p1) (z1 : ∀ k ∈ d1.weights Try.prog 29, k ≤ reachBytes) :
    Calls Try.prog 5 #[v0, v1] W fun e w' => e = .returned (.bool true) ∧ Below W.heap.size W w' := by
  obtain ⟨A, B, C, D, rfl, la, lb, lc, ld, fa, fb, fc, fd⟩ := open_ends h0 z0
  obtain ⟨zs, h⟩ := open_row o1 h1 z1
  exact segmentTCPs_walk RParseTCP_any A B C D la lb lc ld fa fb fc fd v1 zs W h

end Go.Proofs.Ytlhmelkgnpjgaaa
