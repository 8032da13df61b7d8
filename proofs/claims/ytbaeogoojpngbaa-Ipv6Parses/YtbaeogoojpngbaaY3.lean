/-
  The bytes of an IPv6 datagram, plainly; how they are read.
-/
import Derived.Test.YtbaeogoojpngbaaY0
namespace Go.Proofs.Ytbaeogoojpngbaa
open Go Go.RowKit
set_option linter.unusedVariables false
set_option linter.unusedSimpArgs false

/-- The first k heads as bytes. -/
def hdsL (hs : Opts) (fr : Bool) (proto : Int) : Nat → List Int
  | 0 => []
  | k + 1 => hdsL hs fr proto k ++ ([nx6 hs fr proto (k + 1), (((2 + (oD hs k).length) / 8 - 1 : Nat) : Int)] ++ oD hs k)
def frontL (f : F6) (A : List Int) (nx n : Int) : List Int := [96 + f.cls / 16, f.cls % 16 * 16 + f.lab / 65536, f.lab / 256 % 256, f.lab % 256, n / 256, n % 256, nx, f.hop] ++ A
def wrL (f : F6) (A : List Int) (hs : Opts) (g : G6) (body : List Int) : List Int :=
  frontL f A (nx6 hs g.fr f.proto 0) ((ahead6 hs g.fr - 40 + body.length : Nat) : Int) ++ hdsL hs g.fr f.proto hs.length ++ (if g.fr then fragL g.id g.off g.more f.proto else []) ++ body
theorem hdsL_len (hs : Opts) (fr : Bool) (proto : Int) : ∀ k, (hdsL hs fr proto k).length = oTot hs k
  | 0 => rfl
  | k + 1 => by simp [hdsL, oTot, hdsL_len hs fr proto k]; omega
/-- What reading heads comes to. -/
inductive HR where
  | bad (at' : Nat) (e : Int)
  | ok (hs : Opts) (kind : Int) (rest : List Int) (at' : Nat)
def szH (rest : List Int) : Nat := ((gz rest 1).toNat + 1) * 8
def rdH : Nat → List Int → Nat → Int → Opts → HR
  | 0, _, _, _, _ => .bad 0 0
  | n + 1, rest, at', kind, hs =>
    if isH kind = true then
      (if rest.length < 8 then .bad at' 50 else if rest.length < szH rest then .bad at' 50 else if hs.length < 8 ∧ kindB kind hs.length = true then rdH n (rest.drop (szH rest)) (at' + szH rest) (gz rest 0) (hs ++ [(kind, (rest.take (szH rest)).drop 2)]) else .bad at' 53)
    else .ok hs kind rest at'
/-- What reading comes to. -/
inductive PR where
  | bad (at' : Nat) (e : Int)
  | ok (hs : Opts) (g : G6) (proto : Int) (body : List Int)
def endR : HR → PR
  | .bad at' e => .bad at' e
  | .ok hs kind rest at' => if kind = 44 then (if rest.length < 8 then .bad at' 50 else .ok hs ⟨true, gz rest 4 * 16777216 + gz rest 5 * 65536 + gz rest 6 * 256 + gz rest 7, gz rest 2 * 32 + gz rest 3 / 8, decide (gz rest 3 % 2 = 1)⟩ (gz rest 0) (rest.drop 8)) else .ok hs ⟨false, 0, 0, false⟩ kind rest
def lenN (zs : List Int) : Int := gz zs 4 * 256 + gz zs 5
def badN (whole : Bool) (zs : List Int) : Prop := lenN zs < (zs.length : Int) - 40 ∨ (whole = true ∧ (zs.length : Int) - 40 < lenN zs)
instance (whole : Bool) (zs : List Int) : Decidable (badN whole zs) := by unfold badN; exact inferInstance
def parR (whole : Bool) (zs : List Int) : PR :=
  if zs.length < 40 then .bad 0 50 else if gz zs 0 / 16 ≠ 6 then .bad 0 51 else if badN whole zs then .bad 4 52 else endR (rdH 9 (zs.drop 40) 40 (gz zs 6) [])
theorem Fit.app {a b : List Int} (ha : Fit a) (hb : Fit b) : Fit (a ++ b) := fun z hz => (List.mem_append.1 hz).elim (ha z) (hb z)
theorem gz_fit {zs : List Int} (h : Fit zs) (j : Nat) : 0 ≤ gz zs j ∧ gz zs j < 256 := by
  unfold gz
  cases e : zs[j]? with
  | none => simp
  | some z => exact h z (List.mem_of_getElem? e)

end Go.Proofs.Ytbaeogoojpngbaa
