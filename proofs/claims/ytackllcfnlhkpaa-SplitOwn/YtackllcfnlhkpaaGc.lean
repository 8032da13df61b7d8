/-
  bytes.Clone, bytes.Equal; the document's Of; four bytes as an argument.
-/
import Derived.Test.YtackllcfnlhkpaaGb
import Derived.Lib.SliceRun
namespace Go.Proofs.Ytackllcfnlhkpaa
open Go Go.RowKit Go.ChangeShapes Go.WideShapes Go.ChangeAt
set_option linter.unusedVariables false
set_option linter.unusedSimpArgs false

theorem cells_arr4 {H : Type} {enc : TypeId × Value → H} {w : World} {base : Nat} {spare : Nat → Bool} {held : Bool} {fuel : Nat} {cs : List Value} {x : DataW H × List MemPlace}
    (h : DataW.trod enc Try.prog w base spare held fuel 24 cs = some x) : ∃ s0 s1 s2 s3 : Int, cs = [.int .u8 s0, .int .u8 s1, .int .u8 s2, .int .u8 s3] ∧ Fit [s0, s1, s2, s3] := by
  obtain ⟨xs, m, _, _, hl, hx, hi⟩ := DataW.trod_array Try.underlying24 h
  have ct : Try.prog.cellsOf 24 = 4 := by kernel_rfl
  have ce : Try.prog.cellsOf 5 = 1 := by kernel_rfl
  rw [ct] at hl
  have each : ∀ i, i < 4 → ∃ z : Int, cs[i]? = some (.int .u8 z) ∧ 0 ≤ z ∧ z < 256 := by
    intro i hin
    have h1 := hi i hin
    rw [ce, Nat.mul_one, List.getElem?_eq_getElem (by omega)] at h1
    obtain ⟨z, e, _, wf⟩ := DataW.trod_int Try.underlying5 h1
    have hb := bounds_u8 wf
    refine ⟨z, ?_, by omega, by omega⟩
    have e2 := congrArg (fun l : List Value => l[0]?) e
    simpa [List.getElem?_take, List.getElem?_drop] using e2
  obtain ⟨a, ha, fa⟩ := each 0 (by decide)
  obtain ⟨b, hb, fb⟩ := each 1 (by decide)
  obtain ⟨c, hc, fc⟩ := each 2 (by decide)
  obtain ⟨d, hd, fd⟩ := each 3 (by decide)
  obtain ⟨x0, x1, x2, x3, rfl⟩ := listV4 hl
  simp at ha hb hc hd
  subst ha hb hc hd
  refine ⟨a, b, c, d, rfl, fun z hz => ?_⟩
  simp at hz
  rcases hz with rfl | rfl | rfl | rfl <;> assumption

theorem eq_arr4 (d : Nat) (zs ys : List Int) (h : Fit zs) (g : Fit ys) (hl : zs.length = 4) (gl : ys.length = 4) (W : World) :
    (Op.equalIn (d + 2) 24 (.agg (zs.map (fun z => Value.int .u8 z)).toArray) (.agg (ys.map (fun z => Value.int .u8 z)).toArray)).run Try.prog W = .ok (decide (zs = ys)) W := by
  have := run_equalIn_bytes (P := Try.prog) W d 24 5 4 Try.underlying24 Try.underlying5 (fun w => by simp [go_sem]) (zs.map (fun z => UInt8.ofNat z.toNat)) (ys.map (fun z => UInt8.ofNat z.toNat)) (by simpa using hl) (by simpa using gl)
  rw [bytes_inj zs ys h g] at this
  have e1 := cells_back zs h
  have e2 := cells_back ys g
  rw [← e1, ← e2]
  exact this

set_option maxHeartbeats 1000000 in
set_option maxRecDepth 100000 in
theorem Clone_calls (v : Value) (zs : List Int) (w : World) (h : BytesAt w.heap.size w v zs) :
    Calls Try.prog 23 #[v] w fun e w' => ∃ u, e = .returned u ∧ BytesAt w'.heap.size w' u zs ∧ Below w.heap.size w w' ∧ (zs.length = 0 ∨ ∃ b off n k, u = .slice (some ⟨b, off, none⟩) n k ∧ w.heap.size ≤ b) := by
  obtain ⟨hf, hl, a, cap, rfl, hv⟩ := id h
  cases a with
  | none =>
    have h0 : zs = [] := by
      rcases hv with hv | ⟨b, off, e, _⟩
      · exact List.length_eq_zero_iff.1 hv
      · cases e
    subst h0
    have hB := Below.refl w.heap.size w
    have hN := BytesAt.none w
    have hq := Go.Lib.run_eql_slice_nil (P := Try.prog) w 25 5 none 0 cap 0 0 Try.underlying25
    clear h hf hl hv
    go_enter Try.func23, Try.ntmps23
    go_wp2
    go_ret
    exact ⟨_, rfl, hN, hB, by simp⟩
  | some x =>
    have hB0 := (Below.refl w.heap.size w).alloc (Nat.le_refl _) (.cells #[] 5)
    obtain ⟨a2, cap2, w2, hrun, hg, hb2, hloc⟩ := bytes_copied2 (h.later hB0) w.heap.size 25
    have hbl := hB0.trans (hb2.mono hB0.size)
    have H0 : Hid _ := hrun
    have hq := Go.Lib.run_eql_slice_nil (P := Try.prog) w 25 5 (some x) zs.length cap 0 0 Try.underlying25
    clear h hf hl hv hrun hb2 hB0
    go_enter Try.func23, Try.ntmps23
    go_wp2_with (at_builtin; refine wpList_append_run rfl _ _ _ _ rfl rfl rfl H0.out ?_; clear H0)
    go_ret
    refine ⟨_, rfl, hg, hbl, hloc.imp id ?_⟩
    rintro ⟨g, off, rfl, hle⟩
    exact ⟨g, off, _, _, rfl, Nat.le_trans (by simp) hle⟩

end Go.Proofs.Ytackllcfnlhkpaa
