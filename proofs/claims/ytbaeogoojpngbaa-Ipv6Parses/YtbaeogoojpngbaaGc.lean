/-
  bytes.Clone, bytes.Equal; the document's Of; four bytes as an argument.
-/
import Derived.Test.YtbaeogoojpngbaaGb
import Derived.Lib.SliceRun
namespace Go.Proofs.Ytbaeogoojpngbaa
open Go Go.RowKit Go.ChangeShapes Go.WideShapes Go.ChangeAt
set_option linter.unusedVariables false
set_option linter.unusedSimpArgs false

set_option maxHeartbeats 1000000 in
set_option maxRecDepth 100000 in
theorem Equal_calls (a b : Value) (xs ys : List Int) (w : World) (ha : BytesAt w.heap.size w a xs) (hb : BytesAt w.heap.size w b ys) :
    Calls Try.prog 38 #[a, b] w fun e w' => e = .returned (.bool ((strOfNums xs).toList == (strOfNums ys).toList)) ∧ Below w.heap.size w w' := by
  have t1 := ha.text
  have t2 := hb.text
  clear ha hb
  generalize strOfNums xs = X at *
  generalize strOfNums ys = Y at *
  have hB := Below.refl w.heap.size w
  go_enter Try.func38, Try.ntmps38
  go_wp2
  go_ret
  exact ⟨rfl, hB⟩

set_option maxHeartbeats 1000000 in
set_option maxRecDepth 100000 in
theorem Equal_here (a b : Value) (X Y : ByteArray) (w : World) (t1 : (convert 26 9 a).run Try.prog w = .ok (.string X) w) (t2 : (convert 26 9 b).run Try.prog w = .ok (.string Y) w) :
    Calls Try.prog 38 #[a, b] w fun e w' => e = .returned (.bool (X.toList == Y.toList)) ∧ w' = w := by
  go_enter Try.func38, Try.ntmps38
  go_wp2
  go_ret
  exact ⟨rfl, rfl⟩

set_option maxHeartbeats 1000000 in
set_option maxRecDepth 100000 in
theorem Clone_calls (v : Value) (zs : List Int) (w : World) (h : BytesAt w.heap.size w v zs) :
    Calls Try.prog 50 #[v] w fun e w' => ∃ u, e = .returned u ∧ BytesAt w'.heap.size w' u zs ∧ Below w.heap.size w w' ∧ (zs.length = 0 ∨ ∃ b off n k, u = .slice (some ⟨b, off, none⟩) n k ∧ w.heap.size ≤ b) := by
  obtain ⟨hf, hl, a, cap, rfl, hv⟩ := id h
  cases a with
  | none =>
    have h0 : zs = [] := by
      rcases hv with hv | ⟨b, off, e, _⟩
      · exact List.length_eq_zero_iff.1 hv
      · cases e
    subst h0
    have hB := Below.refl w.heap.size w
    have hN := BytesAt.none w
    have hq := Go.Lib.run_eql_slice_nil (P := Try.prog) w 26 5 none 0 cap 0 0 Try.underlying26
    clear h hf hl hv
    go_enter Try.func50, Try.ntmps50
    go_wp2
    go_ret
    exact ⟨_, rfl, hN, hB, by simp⟩
  | some x =>
    have hB0 := (Below.refl w.heap.size w).alloc (Nat.le_refl _) (.cells #[] 5)
    obtain ⟨a2, cap2, w2, hrun, hg, hb2, hloc⟩ := bytes_copied2 (h.later hB0) w.heap.size 26
    have hbl := hB0.trans (hb2.mono hB0.size)
    have H0 : Hid _ := hrun
    have hq := Go.Lib.run_eql_slice_nil (P := Try.prog) w 26 5 (some x) zs.length cap 0 0 Try.underlying26
    clear h hf hl hv hrun hb2 hB0
    go_enter Try.func50, Try.ntmps50
    go_wp2_with (at_builtin; refine wpList_append_run rfl _ _ _ _ rfl rfl rfl H0.out ?_; clear H0)
    go_ret
    refine ⟨_, rfl, hg, hbl, hloc.imp id ?_⟩
    rintro ⟨g, off, rfl, hle⟩
    exact ⟨g, off, _, _, rfl, Nat.le_trans (by simp) hle⟩

end Go.Proofs.Ytbaeogoojpngbaa
