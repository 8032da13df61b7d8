/-
  The texts that are known: prefixes and addresses; awake.
-/
import Derived.Test.YtfiiopgdgfbkkaaDoorQa8p
import Derived.Test.YtfiiopgdgfbkkaaDoorQb4
import Derived.Test.YtfiiopgdgfbkkaaDoorQc3
import Derived.Test.YtfiiopgdgfbkkaaDoorQh2
namespace Go.Proofs.YtfiiopgdgfbkkaaDoor
set_option linter.unusedVariables false
set_option linter.unusedSimpArgs false
open Go Go.RowKit

theorem fit_of {l : List Int} (h : l.all (fun z => decide (0 ≤ z) && decide (z < 256)) = true) : FitB l := by
  intro z hz
  rw [List.all_eq_true] at h
  have := h z hz
  simpa using this

/-- A text whose groups and colons alone say an address that ends with ::. -/
theorem known_parse6 (s : ByteArray) (L A : List Int) (hs : s.size ≤ 100) (hr : okRun (txt s) s.size 0 ⟨[], -1, []⟩ = true) (hL : read6 (txt s) s.size 0 ⟨[], -1, []⟩ = (⟨L, (L.length : Int), []⟩, s.size)) (h7 : L.length ≤ 7) (hz : ∀ z ∈ L, 0 ≤ z ∧ z < 65536) (hA : byK (L ++ List.replicate (8 - L.length) 0) 8 = A) (W : World) :
    Calls Tryd.prog 45 #[.string s] W fun e w' => Par6Post (A, 0, 0) W e w' := by
  rw [← hA]
  exact Parse6_gap s L W (fun W => Read6_plain s W (by omega) hr) hL h7 hz

def kP1 : ByteArray := ⟨#[50, 48, 48, 49, 58, 100, 98, 56, 58, 49, 50, 50, 58, 51, 52, 52, 58, 58, 47, 54, 52]⟩
def kP1H : ByteArray := ⟨#[50, 48, 48, 49, 58, 100, 98, 56, 58, 49, 50, 50, 58, 51, 52, 52, 58, 58]⟩
def kP1A : List Int := [32, 1, 13, 184, 1, 34, 3, 68, 0, 0, 0, 0, 0, 0, 0, 0]
theorem kP1_good : Good6 kP1 18 kP1A 64 where
  slash := by decide +kernel
  lt := by decide
  short := by decide
  parse := fun W => by
    have e : kP1.extract 0 18 = kP1H := by decide +kernel
    rw [e]
    exact known_parse6 kP1H [8193, 3512, 290, 836] kP1A (by decide) (by decide +kernel) (by decide +kernel) (by decide) (by decide) (by decide +kernel) W
  len := by decide +kernel
  sz := by decide +kernel
  digits := by decide +kernel
  num := by decide +kernel
  ok := by decide +kernel
  a16 := rfl
  fit := fit_of (by decide)
  n64 := by decide

def kP2 : ByteArray := ⟨#[54, 52, 58, 102, 102, 57, 98, 58, 58, 47, 57, 54]⟩
def kP2H : ByteArray := ⟨#[54, 52, 58, 102, 102, 57, 98, 58, 58]⟩
def kP2A : List Int := [0, 100, 255, 155, 0, 0, 0, 0, 0, 0, 0, 0, 0, 0, 0, 0]
theorem kP2_good : Good6 kP2 9 kP2A 96 where
  slash := by decide +kernel
  lt := by decide
  short := by decide
  parse := fun W => by
    have e : kP2.extract 0 9 = kP2H := by decide +kernel
    rw [e]
    exact known_parse6 kP2H [100, 65435] kP2A (by decide) (by decide +kernel) (by decide +kernel) (by decide) (by decide) (by decide +kernel) W
  len := by decide +kernel
  sz := by decide +kernel
  digits := by decide +kernel
  num := by decide +kernel
  ok := by decide +kernel
  a16 := rfl
  fit := fit_of (by decide)
  n64 := by decide

def kT4 : ByteArray := ⟨#[49, 57, 50, 46, 48, 46, 50, 46, 51, 51]⟩
theorem kT4_parse (W : World) : Calls Tryd.prog 33 #[.string kT4] W fun e w' => Par4R ([192, 0, 2, 33], 0, 0) W e w' := by
  have h := Parse4_ref kT4 W (by decide)
  unfold Par4Post at h
  have e : rparse4 (txt kT4) = ([192, 0, 2, 33], 0, 0) := by decide +kernel
  rw [e] at h
  exact h

end Go.Proofs.YtfiiopgdgfbkkaaDoor
