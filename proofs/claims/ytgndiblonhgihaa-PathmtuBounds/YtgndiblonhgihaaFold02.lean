/-
  IPv4 prefixes: Cut4, Check4 of the program.
  Two addresses are the same byte by byte.
-/
import Derived.Test.YtgndiblonhgihaaFold01
import Derived.Stop.BytesEq
namespace Go.Proofs.Ytgndiblonhgihaa
open Go Go.RowKit
set_option linter.unusedVariables false
set_option linter.unusedSimpArgs false

/-- A prefix as numbers. -/
structure Pf where
  a0 : Int
  a1 : Int
  a2 : Int
  a3 : Int
  n : Int
deriving DecidableEq
def Pf.val (p : Pf) : Value := .agg #[.int .u8 p.a0, .int .u8 p.a1, .int .u8 p.a2, .int .u8 p.a3, .int .i64 p.n]
def Pf.adr (p : Pf) : Value := .agg #[.int .u8 p.a0, .int .u8 p.a1, .int .u8 p.a2, .int .u8 p.a3]
structure Pf.Ok (p : Pf) : Prop where
  h0 : 0 ≤ p.a0 ∧ p.a0 < 256
  h1 : 0 ≤ p.a1 ∧ p.a1 < 256
  h2 : 0 ≤ p.a2 ∧ p.a2 < 256
  h3 : 0 ≤ p.a3 ∧ p.a3 < 256
  hn : -9223372036854775808 ≤ p.n ∧ p.n ≤ 9223372036854775807
def cutP (p : Pf) (n : Int) : Pf := ⟨bl p.a0 n, bl p.a1 (n - 8), bl p.a2 (n - 16), bl p.a3 (n - 24), n⟩
def inR (n : Int) : Bool := decide (0 ≤ n) && decide (n ≤ 32)
/-- May the prefix be? -/
def okP (p : Pf) : Bool := inR p.n && decide (p = cutP p p.n)

/-- A block for a prefix, in every world above. -/
structure Slot (w : World) (R : Nat) : Prop where
  fz : ∀ i, w.frozen? ⟨R, i, none⟩ = false
  r0 : w.cell? ⟨R, 0, none⟩ = some (.int .u8 0)
  r1 : w.cell? ⟨R, 1, none⟩ = some (.int .u8 0)
  r2 : w.cell? ⟨R, 2, none⟩ = some (.int .u8 0)
  r3 : w.cell? ⟨R, 3, none⟩ = some (.int .u8 0)
  r4 : w.cell? ⟨R, 4, none⟩ = some (.int .i64 0)
end Go.Proofs.Ytgndiblonhgihaa

namespace Go.Proofs.Ytgndiblonhgihaa
open Go Go.RowKit
set_option linter.unusedVariables false
set_option linter.unusedSimpArgs false

theorem u8_back (z : Int) (h : 0 ≤ z ∧ z < 256) : (((UInt8.ofNat z.toNat).toNat : Nat) : Int) = z := by
  have : z.toNat % 256 = z.toNat := Nat.mod_eq_of_lt (by omega)
  simp only [UInt8.toNat_ofNat', this]
  omega
theorem cells_back (zs : List Int) (h : FitB zs) : (zs.map (fun z => UInt8.ofNat z.toNat)).map (fun u => Value.int .u8 (u.toNat : Int)) = zs.map (fun z => Value.int .u8 z) := by
  rw [List.map_map]
  refine List.map_congr_left fun z hz => ?_
  simp only [Function.comp_apply, u8_back z (h z hz)]
theorem bytes_inj (zs ys : List Int) (h : FitB zs) (g : FitB ys) : ((zs.map (fun z => UInt8.ofNat z.toNat)) == (ys.map (fun z => UInt8.ofNat z.toNat))) = decide (zs = ys) := by
  rw [Bool.eq_iff_iff]
  simp only [beq_iff_eq, decide_eq_true_eq]
  constructor
  · intro e
    have e2 := congrArg (List.map (fun u : UInt8 => ((u.toNat : Nat) : Int))) e
    rw [List.map_map, List.map_map] at e2
    have q1 : zs.map ((fun u : UInt8 => ((u.toNat : Nat) : Int)) ∘ fun z => UInt8.ofNat z.toNat) = zs := by
      conv => rhs; rw [← List.map_id zs]
      exact List.map_congr_left fun z hz => u8_back z (h z hz)
    have q2 : ys.map ((fun u : UInt8 => ((u.toNat : Nat) : Int)) ∘ fun z => UInt8.ofNat z.toNat) = ys := by
      conv => rhs; rw [← List.map_id ys]
      exact List.map_congr_left fun z hz => u8_back z (g z hz)
    rw [q1, q2] at e2
    exact e2
  · intro e; rw [e]

end Go.Proofs.Ytgndiblonhgihaa
