/-
  The document's parse: addresses as they are filled, and where it ends at once.
-/
import Derived.Test.YtbaeogoojpngbaaYp4
namespace Go.Proofs.Ytbaeogoojpngbaa
open Go Go.RowKit
set_option linter.unusedVariables false
set_option linter.unusedSimpArgs false

/-- The first i bytes of both addresses. -/
def adL (zs : List Int) (i : Nat) : List Int := (List.range 32).map (fun j => if j % 16 < i then gz zs (8 + j) else 0)
theorem adL_len (zs : List Int) (i : Nat) : (adL zs i).length = 32 := by simp [adL]
theorem adL_set (zs : List Int) {i : Nat} (hi : i < 16) : ((u8L (adL zs i)).set i (.int .u8 (gz zs (8 + i)))).set (16 + i) (.int .u8 (gz zs (24 + i))) = u8L (adL zs (i + 1)) := by
  apply List.ext_getElem?
  intro j
  unfold u8L adL
  by_cases hj : j < 32
  · by_cases e1 : j = 16 + i
    · subst e1
      rw [List.getElem?_set_self (by simp; omega)]
      simp [show 16 + i < 32 by omega, show i % 16 < i + 1 by omega, show 8 + (16 + i) = 24 + i by omega]
    · rw [List.getElem?_set_ne (by omega)]
      by_cases e2 : j = i
      · subst e2
        rw [List.getElem?_set_self (by simp; omega)]
        simp [show j < 32 by omega, show j % 16 < j + 1 by omega]
      · rw [List.getElem?_set_ne (by omega)]
        have : (j % 16 < i) ↔ (j % 16 < i + 1) := by omega
        simp [hj, this]
  · rw [List.getElem?_eq_none (by simp; omega), List.getElem?_eq_none (by simp; omega)]
theorem adL_zero (zs : List Int) : u8L (adL zs 0) = List.replicate 32 (.int .u8 0) := by
  unfold adL u8L
  rfl
theorem adL_all {zs : List Int} (h : 40 ≤ zs.length) : adL zs 16 = (zs.drop 8).take 32 := by
  apply List.ext_getElem?
  intro j
  unfold adL
  by_cases hj : j < 32
  · rw [List.getElem?_take, if_pos hj, List.getElem?_drop]
    have hj2 : 8 + j < zs.length := by omega
    simp [hj, show j % 16 < 16 by omega, gz, List.getElem?_eq_getElem hj2]
  · rw [List.getElem?_eq_none (by simp; omega), List.getElem?_eq_none (by simp; omega)]
section
variable {W : World} {b : Nat} {cls lab hop proto : Int} {g : G6} {vh vb : Value} {zs : List Int} {i : Nat}
theorem vC_ad (cls lab hop proto : Int) (L : List Int) (h : L.length = 32) (g : G6) (vh vb : Value) : vC (finF cls lab hop proto L h) g vh vb = [.int .u8 cls, .int .u32 lab, .int .u8 hop] ++ (u8L L ++ [vh, .bool g.fr, .int .u32 g.id, .int .i64 g.off, .bool g.more, .int .u8 proto, vb]) := rfl
theorem set_mid (p l r : List Value) (j : Nat) (x : Value) (hp : p.length = 3) (hj : j < l.length) : (p ++ (l ++ r)).set (3 + j) x = p ++ (l.set j x ++ r) := by
  rw [List.set_append_right _ _ (by omega), hp, show 3 + j - 3 = j by omega, List.set_append_left _ _ hj]
theorem ad_step (h : W.heap[b]? = some (BV (finF cls lab hop proto (adL zs i) (adL_len zs i)) g vh vb)) (hi : i < 16) :
    ((W.setCell ⟨b, 3 + i, none⟩ (.int .u8 (gz zs (8 + i)))).setCell ⟨b, 19 + i, none⟩ (.int .u8 (gz zs (24 + i)))).heap[b]? = some (BV (finF cls lab hop proto (adL zs (i + 1)) (adL_len zs (i + 1))) g vh vb) := by
  have h1 := blk_set h (3 + i) (.int .u8 (gz zs (8 + i)))
  have h2 := blk_set h1 (19 + i) (.int .u8 (gz zs (24 + i)))
  have hl : (u8L (adL zs i)).length = 32 := by simp [u8L, adL_len]
  have key : ((vC (finF cls lab hop proto (adL zs i) (adL_len zs i)) g vh vb).set (3 + i) (.int .u8 (gz zs (8 + i)))).set (19 + i) (.int .u8 (gz zs (24 + i))) = vC (finF cls lab hop proto (adL zs (i + 1)) (adL_len zs (i + 1))) g vh vb := by
    rw [vC_ad, vC_ad]
    rw [set_mid _ _ _ _ _ rfl (by rw [hl]; omega), show 19 + i = 3 + (16 + i) by omega, set_mid _ _ _ _ _ rfl (by rw [List.length_set, hl]; omega), adL_set zs hi]
  rw [h2, key]
theorem ad_cell (h : W.heap[b]? = some (BV (finF cls lab hop proto (adL zs i) (adL_len zs i)) g vh vb)) {j : Nat} (hj : j < 32) : ∃ x : Int, W.cell? ⟨b, 3 + j, none⟩ = some (.int .u8 x) := by
  refine ⟨(adL zs i)[j]'(by rw [adL_len]; exact hj), ?_⟩
  refine blk_cell h ?_
  rw [vC_ad, List.getElem?_append_right (by simp), List.getElem?_append_left (by simp [u8L, adL_len]; omega)]
  simp [u8L, adL_len, hj]
end

end Go.Proofs.Ytbaeogoojpngbaa
