/-
  SegmentSame.
-/
import Derived.Test.YtlhmelkgnpjgaaaSg9
namespace Go.Proofs.Ytlhmelkgnpjgaaa
open Go Go.RowKit
set_option linter.unusedVariables false
set_option linter.unusedSimpArgs false

set_option maxHeartbeats 2000000 in
set_option maxRecDepth 100000 in
theorem segmentSame_walk (c c' u u' : List Value) (a b : Seg) (s d s' d' : Int) (x x' : List Int) (w : World) (ha : TcpC w c a) (hb : TcpC w c' b) (hu : UdpC w u s d x) (hv : UdpC w u' s' d' x') :
    Calls Try.prog 8 #[.agg c.toArray, .agg c'.toArray, .agg u.toArray, .agg u'.toArray] w fun e w' => e = .returned (.bool true) ∧ Below w.heap.size w w' := by
  obtain ⟨W0, hW0⟩ : ∃ W0, (((w.alloc (.cells c.toArray 34)).alloc (.cells c'.toArray 34)).alloc (.cells u.toArray 31)).alloc (.cells u'.toArray 31) = W0 := ⟨_, rfl⟩
  have b0 := blk_alloc (blk_alloc (blk_alloc (blk_new w (.cells c.toArray 34)) (.cells c'.toArray 34)) (.cells u.toArray 31)) (.cells u'.toArray 31)
  have b1 := blk_alloc (blk_alloc (blk_new (w.alloc (.cells c.toArray 34)) (.cells c'.toArray 34)) (.cells u.toArray 31)) (.cells u'.toArray 31)
  have b2 := blk_alloc (blk_new ((w.alloc (.cells c.toArray 34)).alloc (.cells c'.toArray 34)) (.cells u.toArray 31)) (.cells u'.toArray 31)
  have b3 := blk_new (((w.alloc (.cells c.toArray 34)).alloc (.cells c'.toArray 34)).alloc (.cells u.toArray 31)) (.cells u'.toArray 31)
  have hB : Below w.heap.size w ((((w.alloc (.cells c.toArray 34)).alloc (.cells c'.toArray 34)).alloc (.cells u.toArray 31)).alloc (.cells u'.toArray 31)) := ((((Below.refl _ w).alloc (Nat.le_refl _) _).alloc (by simp) _).alloc (by simp <;> omega) _).alloc (by simp <;> omega) _
  rw [hW0] at b0 b1 b2 b3 hB
  have s1 : (w.alloc (.cells c.toArray 34)).heap.size = w.heap.size + 1 := by simp
  have s2 : ((w.alloc (.cells c.toArray 34)).alloc (.cells c'.toArray 34)).heap.size = w.heap.size + 1 + 1 := by simp
  have s3 : (((w.alloc (.cells c.toArray 34)).alloc (.cells c'.toArray 34)).alloc (.cells u.toArray 31)).heap.size = w.heap.size + 1 + 1 + 1 := by simp
  rw [s1] at b1
  rw [s2] at b2
  rw [s3] at b3
  have L0 : Hid (∀ x : Hi W0, (Instr.loadAt 34 (.pointer (some ⟨w.heap.size, 0, none⟩))).run Try.prog x.W = .ok (.agg c.toArray) x.W) := fun x => agg_load Try.isAgg34 Try.sizeOf34 ha.len (CellsAt.of_blk (Hi.blk b0 x))
  have L1 : Hid (∀ x : Hi W0, (Instr.loadAt 34 (.pointer (some ⟨w.heap.size + 1, 0, none⟩))).run Try.prog x.W = .ok (.agg c'.toArray) x.W) := fun x => agg_load Try.isAgg34 Try.sizeOf34 hb.len (CellsAt.of_blk (Hi.blk b1 x))
  have L2 : Hid (∀ x : Hi W0, (Instr.loadAt 31 (.pointer (some ⟨w.heap.size + 1 + 1, 0, none⟩))).run Try.prog x.W = .ok (.agg u.toArray) x.W) := fun x => agg_load Try.isAgg31 Try.sizeOf31 hu.len (CellsAt.of_blk (Hi.blk b2 x))
  have L3 : Hid (∀ x : Hi W0, (Instr.loadAt 31 (.pointer (some ⟨w.heap.size + 1 + 1 + 1, 0, none⟩))).run Try.prog x.W = .ok (.agg u'.toArray) x.W) := fun x => agg_load Try.isAgg31 Try.sizeOf31 hv.len (CellsAt.of_blk (Hi.blk b3 x))
  have hs1 := fun x : Hi W0 => SameTCP_calls x.W (ha.on (hB.trans (x.below.mono hB.size))) (hb.on (hB.trans (x.below.mono hB.size)))
  have hs2 := fun x : Hi W0 => RSameTCP_calls x.W (ha.on (hB.trans (x.below.mono hB.size))) (hb.on (hB.trans (x.below.mono hB.size)))
  have hs3 := fun x : Hi W0 => SameUDP_calls x.W (hu.on (hB.trans (x.below.mono hB.size))) (hv.on (hB.trans (x.below.mono hB.size)))
  have hs4 := fun x : Hi W0 => RSameUDP_calls x.W (hu.on (hB.trans (x.below.mono hB.size))) (hv.on (hB.trans (x.below.mono hB.size)))
  have hs5 := fun x : Hi W0 => SameTCP_calls x.W (ha.on (hB.trans (x.below.mono hB.size))) (ha.on (hB.trans (x.below.mono hB.size)))
  have hs6 := fun x : Hi W0 => SameUDP_calls x.W (hu.on (hB.trans (x.below.mono hB.size))) (hu.on (hB.trans (x.below.mono hB.size)))
  simp only [sameT_self] at hs5
  simp only [sameU_self] at hs6
  generalize sameT a b = r1 at *
  generalize sameU s d x s' d' x' = r2 at *
  have H1 : Hid _ := hs1
  have H2 : Hid _ := hs2
  have H3 : Hid _ := hs3
  have H4 : Hid _ := hs4
  have H5 : Hid _ := hs5
  have H6 : Hid _ := hs6
  have q1 : (r1 == r1) = true := by simp
  have q2 : (r2 == r2) = true := by simp
  have HB : Hid _ := hB
  clear hs1 hs2 hs3 hs4 hs5 hs6 b0 b1 b2 b3 hB s1 s2 s3 ha hb hu hv
  go_enter Try.func8, Try.ntmps8
  go_wp2_with fail
  refine wp_region_hi (by kernel_rfl) (by kernel_rfl) ?_
  repeat (first
    | go_big_quiet_skip
    | (go_big_quiet_want; refine hi_load (.tmp 4) 34 rfl rfl L0.out ?_; simp only [Act.put, List.setIfInBounds_toArray, List.set_cons_zero, List.set_cons_succ]; go_big_quiet_on)
    | (go_big_quiet_want; refine hi_load (.tmp 5) 34 rfl rfl L1.out ?_; simp only [Act.put, List.setIfInBounds_toArray, List.set_cons_zero, List.set_cons_succ]; go_big_quiet_on)
    | (go_big_quiet_want; refine hi_load (.tmp 6) 31 rfl rfl L2.out ?_; simp only [Act.put, List.setIfInBounds_toArray, List.set_cons_zero, List.set_cons_succ]; go_big_quiet_on)
    | (go_big_quiet_want; refine hi_load (.tmp 7) 31 rfl rfl L3.out ?_; simp only [Act.put, List.setIfInBounds_toArray, List.set_cons_zero, List.set_cons_succ]; go_big_quiet_on)
    | (go_big_quiet_want; go_big_quiet_op; first | go_big_quiet_on | go_big_quiet_call (first | (go_at_call 36; first | with_reducible exact Hi.calls (H1.out _) | with_reducible exact Hi.calls (H5.out _)) | (go_at_call 27; exact Hi.calls (H2.out _)) | (go_at_call 37; first | with_reducible exact Hi.calls (H3.out _) | with_reducible exact Hi.calls (H6.out _)) | (go_at_call 23; exact Hi.calls (H4.out _)) | (go_at_call 19; exact Hi.calls (awake_calls6 _)))))
  refine wpQuiet_nil ?_
  intro _ hw
  obtain ⟨y, rfl⟩ := hw
  go_wp2
  go_ret
  exact ⟨rfl, HB.out.trans (y.below.mono HB.out.size)⟩

set_option maxRecDepth 100000 in
theorem segmentSame_open {H : Type} {enc : TypeId × Value → H} {W : World} {base : Nat} (v0 v1 v2 v3 : Value) {d0 d1 d2 d3 : DataW H} {p0 p1 p2 p3 : List MemPlace}
    (o0 : Value.okWide Try.prog W .any base 34 v0) (h0 : DataW.Trod enc Try.prog W 0 (fun _ => true) true 34 v0 d0 p0) (z0 : ∀ k ∈ d0.weights Try.prog 34, k ≤ reachBytes)
    (o1 : Value.okWide Try.prog W .any base 34 v1) (h1 : DataW.Trod enc Try.prog W 0 (fun _ => true) true 34 v1 d1 p1) (z1 : ∀ k ∈ d1.weights Try.prog 34, k ≤ reachBytes)
    (o2 : Value.okWide Try.prog W .any base 31 v2) (h2 : DataW.Trod enc Try.prog W 0 (fun _ => true) true 31 v2 d2 p2) (z2 : ∀ k ∈ d2.weights Try.prog 31, k ≤ reachBytes)
    (o3 : Value.okWide Try.prog W .any base 31 v3) (h3 : DataW.Trod enc Try.prog W 0 (fun _ => true) true 31 v3 d3 p3) (z3 : ∀ k ∈ d3.weights Try.prog 31, k ≤ reachBytes) :
    Calls Try.prog 8 #[v0, v1, v2, v3] W fun e w' => e = .returned (.bool true) ∧ Below W.heap.size W w' := by
  obtain ⟨c, a, rfl, ha⟩ := open_tcp h0 z0
  obtain ⟨c', b, rfl, hb⟩ := open_tcp h1 z1
  obtain ⟨u, s, d, x, rfl, hu⟩ := open_udp h2 z2
  obtain ⟨u', s', d', x', rfl, hv⟩ := open_udp h3 z3
  exact segmentSame_walk c c' u u' a b s d s' d' x x' W ha hb hu hv

end Go.Proofs.Ytlhmelkgnpjgaaa
