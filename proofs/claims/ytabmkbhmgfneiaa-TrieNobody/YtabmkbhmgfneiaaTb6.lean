/-
  with of any tree.
-/
import Derived.Test.YtabmkbhmgfneiaaTb5
namespace Go.Proofs.Ytabmkbhmgfneiaa
open Go Go.RowKit Go.Shelf
set_option linter.unusedVariables false
set_option linter.unusedSimpArgs false

theorem enc_parted (t : Tr) (k : Bs) (v : Int) : enc (Tr.parted t k v) = .iface 117 (FK (lcp t.top k)
      (if Tr.sd (lcp t.top k) k = 0 then .iface 85 (LF k v) else if Tr.sd (lcp t.top k) t.top = 0 then enc t else .nilIface) (if Tr.sd (lcp t.top k) k = 1 then .iface 85 (LF k v) else if Tr.sd (lcp t.top k) t.top = 1 then enc t else .nilIface) (if Tr.sd (lcp t.top k) k = 2 then .iface 85 (LF k v) else if Tr.sd (lcp t.top k) t.top = 2 then enc t else .nilIface)) := by
  unfold Tr.parted
  have h1 := Tr.sd_lt (lcp t.top k) t.top
  have h2 := Tr.sd_lt (lcp t.top k) k
  generalize Tr.sd (lcp t.top k) t.top = a at *
  generalize Tr.sd (lcp t.top k) k = b at *
  rcases (by omega : a = 0 ∨ a = 1 ∨ a = 2) with rfl | rfl | rfl <;> rcases (by omega : b = 0 ∨ b = 1 ∨ b = 2) with rfl | rfl | rfl <;> simp [Tr.setK, enc]
theorem parted_any (t : Tr) (hn : t.isNil = false) (hl : t.top.length ≤ 128) (k : Bs) (v : Int) (hk : k.length ≤ 128) (w : World) :
    Calls Try.prog 78 #[enc t, LF k v] w fun e w' => e = .returned (enc (Tr.parted t k v)) ∧ Below w.heap.size w w' := by
  rw [enc_parted]
  exact parted_calls (enc t) t.top (enc_node t) (top_of t hn) hl k v hk w
theorem with_any (t : Tr) (hok : t.Ok) (k : Bs) (v : Int) (hk : k.length ≤ 128) (w : World) :
    Calls Try.prog 70 #[enc t, LF k v] w fun e w' => e = .returned (enc (t.put k v)) ∧ Below w.heap.size w w' := by
  induction t generalizing w with
  | nil => exact with_nil k v w
  | leaf k' v' =>
    have h := with_leaf k' v' hok k v hk w _ (fun W => parted_any (.leaf k' v') rfl hok k v hk W)
    have e : enc ((Tr.leaf k' v').put k v) = if k' = k then .iface 85 (LF k v) else enc (Tr.parted (.leaf k' v') k v) := by
      unfold Tr.put
      split <;> rfl
    rw [e]
    exact h
  | fork f a b c iha ihb ihc =>
    obtain ⟨h0, h1, h2, h3⟩ := hok
    have hs := Tr.sd_lt f k
    have h := with_fork f (enc a) (enc b) (enc c) (enc_node a) (enc_node b) (enc_node c) (enc_one a) (enc_one b) (enc_one c) h0 k v hk w (enc ((Tr.getK a b c (Tr.sd f k)).put k v)) (enc_node _) (fun _ W => by
      rcases (by omega : Tr.sd f k = 0 ∨ Tr.sd f k = 1 ∨ Tr.sd f k = 2) with e | e | e <;> rw [e]
      · exact iha h1 W
      · exact ihb h2 W
      · exact ihc h3 W) _ (fun W => parted_any (.fork f a b c) rfl h0 k v hk W)
    have e : enc ((Tr.fork f a b c).put k v) = if pre f k = true then .iface 117 (FK f (if Tr.sd f k = 0 then enc ((Tr.getK a b c (Tr.sd f k)).put k v) else enc a) (if Tr.sd f k = 1 then enc ((Tr.getK a b c (Tr.sd f k)).put k v) else enc b) (if Tr.sd f k = 2 then enc ((Tr.getK a b c (Tr.sd f k)).put k v) else enc c)) else enc (Tr.parted (.fork f a b c) k v) := by
      rw [Tr.put]
      split
      · rcases (by omega : Tr.sd f k = 0 ∨ Tr.sd f k = 1 ∨ Tr.sd f k = 2) with e | e | e <;> rw [e] <;> rfl
      · rfl
    rw [e]
    exact h
end Go.Proofs.Ytabmkbhmgfneiaa
