/-
  Words as bytes; slices.Grow; wordBytes, putWord, neverZero of package segment.
-/
import Derived.Test.YtljmamogefgiaaaGc
import Derived.Test.YtljmamogefgiaaaPseudo6
import Derived.Lib.AppendZerosOnto
namespace Go.Proofs.Ytljmamogefgiaaa
open Go Go.RowKit
set_option linter.unusedVariables false
set_option linter.unusedSimpArgs false

def w2 (x : Int) : List Int := [x / 256, x % 256]
def wbL : List Int → List Int
  | [] => []
  | x :: xs => w2 x ++ wbL xs
theorem wbL_append : ∀ (xs ys : List Int), wbL (xs ++ ys) = wbL xs ++ wbL ys
  | [], ys => rfl
  | x :: xs, ys => by simp [wbL, wbL_append xs ys]
theorem wbL_length : ∀ (xs : List Int), (wbL xs).length = 2 * xs.length
  | [] => rfl
  | x :: xs => by simp [wbL, w2, wbL_length xs]; omega
theorem w2_fit {x : Int} (h : 0 ≤ x ∧ x ≤ 65535) : Fit (w2 x) := fun z hz => by simp [w2] at hz; omega
theorem wbL_fit : ∀ {xs : List Int}, Words xs → Fit (wbL xs)
  | [], _ => fun z hz => by simp [wbL] at hz
  | x :: xs, h => fun z hz => by
    simp only [wbL, List.mem_append] at hz
    rcases hz with hz | hz
    · exact w2_fit (h x (by simp)) z hz
    · exact wbL_fit (fun y hy => h y (by simp [hy])) z hz
theorem wbL_snoc (xs : List Int) (k : Nat) (h : k < xs.length) : wbL (xs.take (k + 1)) = wbL (xs.take k) ++ w2 (xs[k]?.getD 0) := by
  rw [List.take_succ_eq_append_getElem h, wbL_append]
  simp [wbL, h]

structure WordsAt (w : World) (v : Value) (ws : List Int) : Prop where
  fit : Words ws
  val : ∃ b off cap, v = .slice (some ⟨b, off, none⟩) ws.length cap ∧ b < w.heap.size ∧ ∀ j, j < ws.length → w.cell? ⟨b, off + j, none⟩ = some (.int .u16 (ws[j]?.getD 0))
theorem words_new (w : World) (ws : List Int) (us : Array Value) (t : TypeId) (n : Nat) (hu : us = (ws.map (fun z => Value.int .u16 z)).toArray) (hn : n = ws.length) (hf : Words ws) :
    WordsAt (w.alloc (.cells us t)) (.slice (some ⟨w.heap.size, 0, none⟩) n n) ws := by
  refine ⟨hf, w.heap.size, 0, n, by rw [hn], by simp, fun j hj => ?_⟩
  have hb := World.alloc_heap_new w (.cells us t)
  simp only [World.cell?]
  rw [hb, hu]
  simp [hj]

theorem own_G {w : World} {base n : Nat} {v : Value} {zs : List Int} (h : w.ownsRow base 5 1 v n (bytesV zs)) (hn : 0 < n) : ∃ g cap, v = .slice (some ⟨g, 0, none⟩) n cap ∧ n ≤ cap ∧ cap ≤ maxLen ∧ base ≤ g ∧ OwnG w g zs := by
  have hl : zs.length = n := by have := h.1; simp [bytesV] at this; omega
  rcases h.2 with ⟨e, h0⟩ | ⟨g, cap, cur, rfl, hb, hg, hc, hm, _⟩
  · omega
  · refine ⟨g, cap, rfl, hc, hm, hb, ⟨cur, _, hg⟩, fun j hj => ?_⟩
    have := h.cells (g := g) rfl j (.int .u8 (zs[j]?.getD 0)) (by rw [bytesV, List.getElem?_map]; simp [hj])
    rw [Go.WideShapes.add_plain] at this
    simpa using this
theorem OB.start {w X : World} {v : Value} (hown : X.ownsRow w.heap.size 5 1 v 0 []) (hgr : w.grownBy X none) : OB w.heap.size w X v [] :=
  ⟨hown, (Below.refl _ w).grown hgr (Nat.le_refl _) (fun k hk => by cases hk)⟩

/-- putWord: two bytes of a row of one's own are turned. -/
theorem OwnG.put {b : Nat} {u w : World} {zs : List Int} (h : OwnG u b zs) (hw : Below u.heap.size u w) : OwnG w b zs := h.kept h.lt hw
end Go.Proofs.Ytljmamogefgiaaa
