/-
  The document's Same of two rows.
-/
import Derived.Test.YtackllcfnlhkpaaVd1
namespace Go.Proofs.Ytackllcfnlhkpaa
open Go Go.RowKit
set_option linter.unusedVariables false
set_option linter.unusedSimpArgs false

/-- The fields of a datagram are within their kinds. -/
structure FdIn (f : Fd) : Prop where
  hid : 0 ≤ f.id ∧ f.id ≤ 65535
  ft : 0 ≤ f.tos ∧ f.tos < 256
  fl : 0 ≤ f.ttl ∧ f.ttl < 256
  fp : 0 ≤ f.proto ∧ f.proto < 256
  fs : Fit [f.s0, f.s1, f.s2, f.s3]
  fd : Fit [f.d0, f.d1, f.d2, f.d3]
theorem dg_of {f : Fd} (hf : FdIn f) {mf : Bool} {off : Int} {so sb : Value} {o b : List Int} {w : World} (h1 : RowC w so o) (h2 : RowC w sb b) (hoff : -9223372036854775808 ≤ off ∧ off ≤ 9223372036854775807) : Dgram w (vC f mf off so sb) f.tos f.id f.df mf off f.ttl f.proto f.s0 f.s1 f.s2 f.s3 f.d0 f.d1 f.d2 f.d3 o b :=
  ⟨⟨so, sb, ⟨rfl, rfl, rfl⟩, h1.bytes, h2.bytes⟩, hf.hid, hf.ft, hf.fl, hf.fp, hf.fs, hf.fd, hoff⟩
theorem same_v4 {f : Fd} (hf : FdIn f) {mf : Bool} {off : Int} {so sb so' sb' : Value} {o b : List Int} {w : World} (h1 : RowC w so o) (h2 : RowC w sb b) (h1' : RowC w so' o) (h2' : RowC w sb' b) (hoff : -9223372036854775808 ≤ off ∧ off ≤ 9223372036854775807) :
    Calls Try.prog 20 #[VV f mf off so sb, VV f mf off so' sb'] w fun e w' => e = .returned (.bool true) ∧ Below w.heap.size w w' := by
  have := RSame_calls w (dg_of hf (mf := mf) h1 h2 hoff) (dg_of hf (mf := mf) h1' h2' hoff)
  rw [sameB_self] at this
  exact this

set_option maxHeartbeats 2000000 in
set_option maxRecDepth 100000 in
theorem rows_same {f : Fd} (hf : FdIn f) {base1 base2 : Nat} {S1 S2 : Nat → Prop} {w : World} {v1 v2 : Value} {L : List Fg} (h1 : RowV f base1 S1 w v1 L) (h2 : RowV f base2 S2 w v2 L) (hoff : ∀ (j : Nat) (g : Fg), L[j]? = some g → -9223372036854775808 ≤ g.off ∧ g.off ≤ 9223372036854775807) (hl : L.length ≤ 100000) :
    Calls Try.prog 15 #[v1, v2] w fun e w' => e = .returned (.bool true) ∧ Below w.heap.size w w' := by
  obtain ⟨x1, c1, e1⟩ := h1.slc
  obtain ⟨x2, c2, e2⟩ := h2.slc
  have HAT : Hid (∀ k, k < L.length → ∃ b1 b2 so sb so' sb' mf off, x1 = some ⟨b1, 0, none⟩ ∧ x2 = some ⟨b2, 0, none⟩ ∧ ∀ W, Below w.heap.size w W →
      (Instr.loadAt 27 (.pointer (some ⟨b1, k * 17, none⟩))).run Try.prog W = .ok (VV f mf off so sb) W ∧ (Instr.loadAt 27 (.pointer (some ⟨b2, k * 17, none⟩))).run Try.prog W = .ok (VV f mf off so' sb') W ∧
      Calls Try.prog 20 #[VV f mf off so sb, VV f mf off so' sb'] W fun e w' => e = .returned (.bool true) ∧ Below W.heap.size W w') := fun k hk => by
    obtain ⟨g, hg⟩ : ∃ g, L[k]? = some g := ⟨L[k], by simp⟩
    obtain ⟨b1, d1, so, sb, f1, lt1, _, ca1, bo1, bb1⟩ := h1.at hg
    obtain ⟨b2, d2, so', sb', f2, lt2, _, ca2, bo2, bb2⟩ := h2.at hg
    rw [e1] at f1
    rw [e2] at f2
    injection f1 with f1 _ _
    injection f2 with f2 _ _
    refine ⟨b1, b2, so, sb, so', sb', g.mf, g.off, f1, f2, fun W hW => ⟨agg_load Try.isAgg27 Try.sizeOf27 (vC_len ..) (CellsAt.up ca1 lt1 ⟨W, hW⟩), agg_load Try.isAgg27 Try.sizeOf27 (vC_len ..) (CellsAt.up ca2 lt2 ⟨W, hW⟩), same_v4 hf (bo1.on hW).row (bb1.on hW).row (bo2.on hW).row (bb2.on hW).row (hoff k g hg)⟩⟩
  subst e1 e2
  clear h1 h2 hoff
  generalize L.length = N at *
  go_enter Try.func15, Try.ntmps15
  go_wp2_with fail
  go_loopw [5] (fun i wr => ∃ k : Nat, k ≤ N ∧ i = .int .i64 k ∧ Below w.heap.size w wr) (fun i _ => N - (intOf i).toNat)
  case atStart => exact ⟨0, Nat.zero_le _, rfl, Below.refl _ _⟩
  case round =>
    obtain ⟨k, hk, rfl, hB⟩ := hrel
    by_cases hlt : k < N
    · obtain ⟨b1, b2, so, sb, so', sb', mf, off, rfl, rfl, hW⟩ := HAT.out k hlt
      have hup : ∀ x : Hi wr, Below w.heap.size w x.W := fun x => hB.trans (x.below.mono hB.size)
      have HL1 : Hid (∀ x : Hi wr, (Instr.loadAt 27 (.pointer (some ⟨b1, k * 17, none⟩))).run Try.prog x.W = .ok (VV f mf off so sb) x.W) := fun x => (hW _ (hup x)).1
      have HL2 : Hid (∀ x : Hi wr, (Instr.loadAt 27 (.pointer (some ⟨b2, k * 17, none⟩))).run Try.prog x.W = .ok (VV f mf off so' sb') x.W) := fun x => (hW _ (hup x)).2.1
      have HSM : Hid (∀ x : Hi wr, Calls Try.prog 20 #[VV f mf off so sb, VV f mf off so' sb'] x.W fun e w' => e = .returned (.bool true) ∧ Below x.W.heap.size x.W w') := fun x => (hW _ (hup x)).2.2
      have HUP : Hid _ := hup
      have hNi : (k : Int) < (N : Int) := by omega
      clear hW hup HAT
      go_wp2_with fail
      refine wp_region_hi (by kernel_rfl) (by kernel_rfl) ?_
      repeat (first | go_big_quiet_skip | (go_big_quiet_want; refine hi_load (.tmp 19) 27 rfl rfl HL1.out ?_; simp only [Act.put, List.setIfInBounds_toArray, List.set_cons_zero, List.set_cons_succ]; go_big_quiet_on) | (go_big_quiet_want; refine hi_load (.tmp 23) 27 rfl rfl HL2.out ?_; simp only [Act.put, List.setIfInBounds_toArray, List.set_cons_zero, List.set_cons_succ]; go_big_quiet_on) | (go_big_quiet_want; go_big_quiet_op; first | go_big_quiet_on | go_big_quiet_call (first | (go_at_call 20; with_reducible exact Hi.calls (HSM.out _)))))
      refine wpQuiet_nil ?_
      intro _ hw
      obtain ⟨y, rfl⟩ := hw
      have HBY : Hid _ := HUP.out y
      go_wp2_with fail
      exact ⟨⟨k + 1, by omega, by simp, HBY.out⟩, by simp [intOf]; omega⟩
    · have hNi : ¬ k < N := hlt
      clear HAT
      go_wp2
      go_ret
      exact ⟨rfl, hB⟩

end Go.Proofs.Ytackllcfnlhkpaa
