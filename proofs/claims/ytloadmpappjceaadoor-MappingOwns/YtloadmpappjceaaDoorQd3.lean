/-
  The table of trailing zeros, out of what the statements lay.
-/
import Derived.Test.YtloadmpappjceaaDoorRows
import Derived.Test.YtloadmpappjceaaDoorQh1
import Derived.Lib.LaidTab
import Derived.Stop.LaidErr
namespace Go.Proofs.YtloadmpappjceaaDoor
open Go Go.RowKit
set_option linter.unusedVariables false

def tab64 : List Int := [0, 1, 56, 2, 57, 49, 28, 3, 61, 58, 42, 50, 38, 29, 17, 4, 62, 47, 59, 36, 45, 43, 51, 22, 53, 39, 33, 30, 24, 18, 12, 5, 63, 55, 48, 27, 60, 41, 37, 16, 46, 35, 44, 21, 52, 32, 23, 11, 54, 26, 40, 15, 34, 20, 31, 10, 25, 14, 19, 9, 13, 8, 7, 6]

theorem g64 : Tryd.prog.globalNamed "math/bits.deBruijn64tab" = some 2 := by kernel_rfl
theorem g64t : (Tryd.prog.globals[2]?).map (·.type) = some 154 := by kernel_rfl

theorem tab_below {n : String} {g : Nat} {k : IntKind} {zs : List Int} {w w' : World} (hg : Tryd.prog.globalNamed n = some g) (h : Lib.TabIs Tryd.prog w n k zs) (hb : Below w.heap.size w w') : Lib.TabIs Tryd.prog w' n k zs := by
  unfold Lib.TabIs World.var? at *
  rw [hg] at h ⊢
  simp only [Option.bind_some] at h ⊢
  cases hw : w.heap[g]? with
  | none => rw [hw] at h; simp at h
  | some o =>
    rw [hw] at h
    rw [hb.block g (Array.getElem?_eq_some_iff.1 hw).1, hw]
    exact h

theorem tab_size {n : String} {g : Nat} {k : IntKind} {zs : List Int} {w : World} (hg : Tryd.prog.globalNamed n = some g) (h : Lib.TabIs Tryd.prog w n k zs) : g < w.heap.size := by
  unfold Lib.TabIs World.var? at h
  rw [hg] at h
  simp only [Option.bind_some] at h
  cases hw : w.heap[g]? with
  | none => rw [hw] at h; simp at h
  | some o => exact (Array.getElem?_eq_some_iff.1 hw).1

theorem tz_of {W : World} (t64 : Lib.TabIs Tryd.prog W "math/bits.deBruijn64tab" .u8 tab64) : Tz W := ⟨tab_size g64 t64, fun w' hb => (tab_below g64 t64 hb).cell g64 15 (by decide)⟩

theorem tables {W : World} (h : laidMetH Tryd.prog [("math/bits.deBruijn32tab", Rows.laid_math_bits_deBruijn32tab), ("math/bits.deBruijn64tab", Rows.laid_math_bits_deBruijn64tab), ("internal/strconv.uint64pow10", Rows.laid_internal_strconv_uint64pow10)] W) : Tz W := by
  have h1 : laidMet Tryd.prog [("math/bits.deBruijn32tab", Rows.laid_math_bits_deBruijn32tab), ("math/bits.deBruijn64tab", Rows.laid_math_bits_deBruijn64tab), ("internal/strconv.uint64pow10", Rows.laid_internal_strconv_uint64pow10)] W := h
  exact tz_of (Lib.tabIs_of_head (zs := tab64) g64 g64t Tryd.underlying154 Tryd.underlying5 (by kernel_rfl) (by kernel_rfl) h1.tail)

end Go.Proofs.YtloadmpappjceaaDoor
