/-
  Reading from the front: run, octet, word of package ipv4; must where it is good.
-/
import Derived.Test.YtmoogfdmlbalbaaIp14
namespace Go.Proofs.Ytmoogfdmlbalbaa
open Go Go.RowKit
set_option linter.unusedVariables false
set_option linter.unusedSimpArgs false

/-- What is left of a slice behind its first n elements: at its very end the address stays. -/
def restV (b off len cap n : Nat) : Value := if cap = n then .slice (some ⟨b, off, none⟩) (len - n) 0 else .slice (some ⟨b, off + n, none⟩) (len - n) (cap - n)

set_option maxHeartbeats 1000000 in
set_option maxRecDepth 100000 in
theorem run_calls (R b off len cap n : Nat) (w : World) (hc : w.cell? ⟨R, 0, none⟩ = some (.slice (some ⟨b, off, none⟩) len cap)) (hf : w.frozen? ⟨R, 0, none⟩ = false) (hn : n ≤ len) (hl : len ≤ cap) :
    Calls Try.prog 58 #[.pointer (some ⟨R, 0, none⟩), .int .i64 n] w fun e w' => e = .returned (.slice (some ⟨b, off, none⟩) n cap) ∧ w' = w.setCell ⟨R, 0, none⟩ (restV b off len cap n) := by
  by_cases hcap : cap = n
  · subst hcap
    obtain rfl : len = cap := by omega
    simp only [restV, if_true, Nat.sub_self]
    go_enter Try.func58, Try.ntmps58
    go_wp2
    go_ret
    exact ⟨rfl, rfl⟩
  · simp only [restV, if_neg hcap]
    go_enter Try.func58, Try.ntmps58
    go_wp2
    go_ret
    exact ⟨rfl, rfl⟩

set_option maxHeartbeats 1000000 in
theorem must_good (at' e : Int) (w : World) : Calls Try.prog 38 #[.bool true, .int .i64 at', .int .i64 e] w fun e w' => e = .returned (.tuple #[]) ∧ w' = w := by
  go_enter Try.func38, Try.ntmps38
  go_wp2
  go_end0
  exact ⟨rfl, rfl⟩

set_option maxHeartbeats 1000000 in
set_option maxRecDepth 100000 in
theorem octet_calls (R b off len cap : Nat) (z : Int) (w : World) (hc : w.cell? ⟨R, 0, none⟩ = some (.slice (some ⟨b, off, none⟩) len cap)) (hf : w.frozen? ⟨R, 0, none⟩ = false) (hn : 1 ≤ len) (hl : len ≤ cap) (hR : b ≠ R) (h0 : w.cell? ⟨b, off, none⟩ = some (.int .u8 z)) :
    Calls Try.prog 55 #[.pointer (some ⟨R, 0, none⟩)] w fun e w' => e = .returned (.int .u8 z) ∧ w' = w.setCell ⟨R, 0, none⟩ (restV b off len cap 1) := by
  have HR : Hid _ := run_calls R b off len cap 1 w hc hf hn hl
  have k0 : (w.setCell ⟨R, 0, none⟩ (restV b off len cap 1)).cell? ⟨b, off, none⟩ = some (.int .u8 z) := (World.cell?_setCell_other _ _ _ _ (by intro c; injection c; omega)).trans h0
  generalize w.setCell ⟨R, 0, none⟩ (restV b off len cap 1) = w2 at *
  clear hc hf h0
  go_enter Try.func55, Try.ntmps55
  go_wp2_with fail
  refine Calls.mono HR.out ?_
  rintro e w3 ⟨rfl, rfl⟩
  clear HR
  go_wp2
  go_ret
  exact ⟨rfl, rfl⟩

set_option maxHeartbeats 1000000 in
set_option maxRecDepth 100000 in
theorem word_calls (R b off len cap : Nat) (x y : Int) (w : World) (hc : w.cell? ⟨R, 0, none⟩ = some (.slice (some ⟨b, off, none⟩) len cap)) (hf : w.frozen? ⟨R, 0, none⟩ = false) (hn : 2 ≤ len) (hl : len ≤ cap) (hR : b ≠ R) (h0 : w.cell? ⟨b, off, none⟩ = some (.int .u8 x)) (h1 : w.cell? ⟨b, off + 1, none⟩ = some (.int .u8 y)) (bx : 0 ≤ x ∧ x < 256) (by' : 0 ≤ y ∧ y < 256) :
    Calls Try.prog 56 #[.pointer (some ⟨R, 0, none⟩)] w fun e w' => e = .returned (.int .u16 (x * 256 + y)) ∧ w' = (w.setCell ⟨R, 0, none⟩ (restV b off len cap 2)).drew := by
  have hor := or_word x y bx.1 bx.2 by'.1 by'.2
  have HR : Hid _ := run_calls R b off len cap 2 w hc hf hn hl
  have k0 : (w.setCell ⟨R, 0, none⟩ (restV b off len cap 2)).cell? ⟨b, off, none⟩ = some (.int .u8 x) := (World.cell?_setCell_other _ _ _ _ (by intro c; injection c; omega)).trans h0
  have k1 : (w.setCell ⟨R, 0, none⟩ (restV b off len cap 2)).cell? ⟨b, off + 1, none⟩ = some (.int .u8 y) := (World.cell?_setCell_other _ _ _ _ (by intro c; injection c; omega)).trans h1
  generalize w.setCell ⟨R, 0, none⟩ (restV b off len cap 2) = w2 at *
  clear hc hf h0 h1
  go_enter Try.func56, Try.ntmps56
  go_wp2_with fail
  refine Calls.mono HR.out ?_
  rintro e w3 ⟨rfl, rfl⟩
  clear HR
  go_wp2
  go_region
  all_goals
    go_wp2
    go_ret
    exact ⟨rfl, rfl⟩

end Go.Proofs.Ytmoogfdmlbalbaa
