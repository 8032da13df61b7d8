/-
  SegmentClamps.
-/
import Derived.Test.YtnlaomjhnndblaaSn5
import Derived.Test.YtnlaomjhnndblaaSn6
import Derived.Test.YtnlaomjhnndblaaSg8
import Derived.Test.YtnlaomjhnndblaaSg9
namespace Go.Proofs.Ytnlaomjhnndblaa
open Go Go.RowKit Go.Shelf Go.ChangeShapes Go.WideShapes Go.ChangeAt
set_option linter.unusedVariables false
set_option linter.unusedSimpArgs false

theorem open_row1 {H : Type} {enc : TypeId × Value → H} {W : World} {fuel : Nat} {cs : List Value} {x : DataW H × List MemPlace} (h : DataW.trod enc Try.prog W 0 (fun _ => true) true fuel 29 cs = some x) (hz : ∀ k ∈ x.1.weights Try.prog 29, k ≤ reachBytes) :
    ∃ v zs, cs = [v] ∧ RowC W v zs := by
  obtain ⟨v, zs, e, hb⟩ := open_bytes1 h hz
  refine ⟨v, zs, e, ?_⟩
  subst e
  rcases open_ints Try.underlying29 Try.underlying5 (by kernel_rfl) h with ⟨hcs, _⟩ | ⟨x, l, c, zs, hcs, _, hl, hm, hz, _, hcell, hwz⟩
  · simp at hcs
    subst hcs
    exact .of_bytes hb (Nat.le_refl _)
  · simp at hcs
    subst hcs
    exact .of_bytes hb (by omega)
set_option maxRecDepth 100000 in
theorem open_tcpA {H : Type} {enc : TypeId × Value → H} {W : World} {v : Value} {d : DataW H} {p : List MemPlace} (h : DataW.Trod enc Try.prog W 0 (fun _ => true) true 34 v d p) (hz : ∀ k ∈ d.weights Try.prog 34, k ≤ reachBytes) :
    ∃ c t, v = .agg c.toArray ∧ TcpA W c t := by
  obtain ⟨fuel, hf⟩ := h
  obtain ⟨xs, m, _, hx, hl, hxl, hi⟩ := DataW.trod_struct Try.underlying34 hf
  have cT : Try.prog.cellsOf 34 = 9 := by kernel_rfl
  rw [cT] at hl
  obtain ⟨x0, x1, x2, x3, x4, x5, x6, x7, x8, rfl⟩ := list_tcp hxl
  have g0 : DataW.trod enc Try.prog W 0 (fun _ => true) true m 28 ((v.cells.toList.drop 0).take 1) = some x0 := by
    have e : DataW.trod enc Try.prog W 0 (fun _ => true) true m 28 ((v.cells.toList.drop 0).take (Try.prog.cellsOf 28)) = some x0 := hi 0 _ rfl
    rwa [show Try.prog.cellsOf 28 = 1 by kernel_rfl] at e
  have g1 : DataW.trod enc Try.prog W 0 (fun _ => true) true m 28 ((v.cells.toList.drop 1).take 1) = some x1 := by
    have e : DataW.trod enc Try.prog W 0 (fun _ => true) true m 28 ((v.cells.toList.drop 1).take (Try.prog.cellsOf 28)) = some x1 := hi 1 _ rfl
    rwa [show Try.prog.cellsOf 28 = 1 by kernel_rfl] at e
  have g2 : DataW.trod enc Try.prog W 0 (fun _ => true) true m 32 ((v.cells.toList.drop 2).take 1) = some x2 := by
    have e : DataW.trod enc Try.prog W 0 (fun _ => true) true m 32 ((v.cells.toList.drop 2).take (Try.prog.cellsOf 32)) = some x2 := hi 2 _ rfl
    rwa [show Try.prog.cellsOf 32 = 1 by kernel_rfl] at e
  have g3 : DataW.trod enc Try.prog W 0 (fun _ => true) true m 32 ((v.cells.toList.drop 3).take 1) = some x3 := by
    have e : DataW.trod enc Try.prog W 0 (fun _ => true) true m 32 ((v.cells.toList.drop 3).take (Try.prog.cellsOf 32)) = some x3 := hi 3 _ rfl
    rwa [show Try.prog.cellsOf 32 = 1 by kernel_rfl] at e
  have g4 : DataW.trod enc Try.prog W 0 (fun _ => true) true m 5 ((v.cells.toList.drop 4).take 1) = some x4 := by
    have e : DataW.trod enc Try.prog W 0 (fun _ => true) true m 5 ((v.cells.toList.drop 4).take (Try.prog.cellsOf 5)) = some x4 := hi 4 _ rfl
    rwa [show Try.prog.cellsOf 5 = 1 by kernel_rfl] at e
  have g5 : DataW.trod enc Try.prog W 0 (fun _ => true) true m 28 ((v.cells.toList.drop 5).take 1) = some x5 := by
    have e : DataW.trod enc Try.prog W 0 (fun _ => true) true m 28 ((v.cells.toList.drop 5).take (Try.prog.cellsOf 28)) = some x5 := hi 5 _ rfl
    rwa [show Try.prog.cellsOf 28 = 1 by kernel_rfl] at e
  have g6 : DataW.trod enc Try.prog W 0 (fun _ => true) true m 28 ((v.cells.toList.drop 6).take 1) = some x6 := by
    have e : DataW.trod enc Try.prog W 0 (fun _ => true) true m 28 ((v.cells.toList.drop 6).take (Try.prog.cellsOf 28)) = some x6 := hi 6 _ rfl
    rwa [show Try.prog.cellsOf 28 = 1 by kernel_rfl] at e
  have g7 : DataW.trod enc Try.prog W 0 (fun _ => true) true m 29 ((v.cells.toList.drop 7).take 1) = some x7 := by
    have e : DataW.trod enc Try.prog W 0 (fun _ => true) true m 29 ((v.cells.toList.drop 7).take (Try.prog.cellsOf 29)) = some x7 := hi 7 _ rfl
    rwa [show Try.prog.cellsOf 29 = 1 by kernel_rfl] at e
  have g8 : DataW.trod enc Try.prog W 0 (fun _ => true) true m 29 ((v.cells.toList.drop 8).take 1) = some x8 := by
    have e : DataW.trod enc Try.prog W 0 (fun _ => true) true m 29 ((v.cells.toList.drop 8).take (Try.prog.cellsOf 29)) = some x8 := hi 8 _ rfl
    rwa [show Try.prog.cellsOf 29 = 1 by kernel_rfl] at e
  obtain ⟨rfl, rfl⟩ := Prod.mk.inj hx
  have w7 : ∀ k ∈ x7.1.weights Try.prog 29, k ≤ reachBytes := fun k hk => hz k (by
    simp only [DataW.weights, Try.underlying34]
    exact DataW.weights_mem_each (j := 7) rfl rfl k hk)
  have w8 : ∀ k ∈ x8.1.weights Try.prog 29, k ≤ reachBytes := fun k hk => hz k (by
    simp only [DataW.weights, Try.underlying34]
    exact DataW.weights_mem_each (j := 8) rfl rfl k hk)
  obtain ⟨n0, e0, _, f0⟩ := DataW.trod_int Try.underlying28 g0
  have q0 := bounds_u16 f0
  obtain ⟨n1, e1, _, f1⟩ := DataW.trod_int Try.underlying28 g1
  have q1 := bounds_u16 f1
  obtain ⟨n2, e2, _, f2⟩ := DataW.trod_int Try.underlying32 g2
  have q2 := bounds_u32 f2
  obtain ⟨n3, e3, _, f3⟩ := DataW.trod_int Try.underlying32 g3
  have q3 := bounds_u32 f3
  obtain ⟨n4, e4, _, f4⟩ := DataW.trod_int Try.underlying5 g4
  have q4 := bounds_u8 f4
  obtain ⟨n5, e5, _, f5⟩ := DataW.trod_int Try.underlying28 g5
  have q5 := bounds_u16 f5
  obtain ⟨n6, e6, _, f6⟩ := DataW.trod_int Try.underlying28 g6
  have q6 := bounds_u16 f6
  obtain ⟨s7, z7, e7, b7⟩ := open_row1 g7 w7
  obtain ⟨s8, z8, e8, b8⟩ := open_bytes1 g8 w8
  have hall := split_tcp hl
  rw [e0, e1, e2, e3, e4, e5, e6, e7, e8] at hall
  have hv := agg_cells hall (by simp)
  have q4b : 0 ≤ n4 ∧ n4 < 256 := by omega
  exact ⟨_, ⟨n0, n1, n2, n3, n4, n5, n6, z7, z8⟩, hv, ⟨⟨s7, s8, rfl, b7, b8⟩, ⟨⟨s7, s8, rfl, b7.bytes, b8⟩, q0, q1, q2, q3, q4b, q5, q6⟩⟩⟩

set_option maxHeartbeats 8000000 in
set_option maxRecDepth 100000 in
theorem segmentClamps_walk (c : List Value) (t : Seg) (most : Int) (hmost : -9223372036854775808 ≤ most ∧ most ≤ 9223372036854775807) (w : World) (h : TcpA w c t) :
    Calls Try.prog 6 #[.agg c.toArray, .int .i64 most] w fun e w' => e = .returned (.bool true) ∧ Below w.heap.size w w' := by
  have b0 := blk_new w (.cells c.toArray 34)
  have hB0 := (Below.refl w.heap.size w).alloc (Nat.le_refl _) (.cells c.toArray 34)
  obtain ⟨W0, hW0⟩ : ∃ W0, w.alloc (.cells c.toArray 34) = W0 := ⟨_, rfl⟩
  rw [hW0] at b0 hB0
  have HL : Hid (∀ W, Below W0.heap.size W0 W → (Instr.loadAt 34 (.pointer (some ⟨w.heap.size, 0, none⟩))).run Try.prog W = .ok (.agg c.toArray) W) := fun W hW => agg_load Try.isAgg34 Try.sizeOf34 h.all.len (CellsAt.of_blk (blk_on b0 hW))
  have hA : ∀ W, Below W0.heap.size W0 W → TcpA W c t := fun W hW => h.on (hB0.trans (hW.mono hB0.size))
  have M1 : Hid (∀ W, Below W0.heap.size W0 W → Calls Try.prog 28 #[.agg c.toArray] W fun e w' => e = .returned (.tuple #[.int .i64 (mssN t), .bool (mssB t)]) ∧ Below W.heap.size W w') := fun W hW => MSS_calls c t W (hA W hW)
  have M2 : Hid (∀ W, Below W0.heap.size W0 W → Calls Try.prog 29 #[.agg c.toArray] W fun e w' => e = .returned (.tuple #[.int .i64 (mssN t), .bool (mssB t)]) ∧ Below W.heap.size W w') := fun W hW => RMSS_calls c t W (hA W hW)
  have M3 : Hid (∀ W, Below W0.heap.size W0 W → Calls Try.prog 30 #[.agg c.toArray, .int .i64 most] W fun e w' => ∃ c', e = .returned (.tuple #[.agg c'.toArray, .bool (clB t most)]) ∧ TcpA w' c' (clT t most) ∧ Below W.heap.size W w') := fun W hW => Clamp_calls c t most hmost W (hA W hW).all
  have M4 : Hid (∀ W, Below W0.heap.size W0 W → Calls Try.prog 31 #[.agg c.toArray, .int .i64 most] W fun e w' => ∃ c', e = .returned (.tuple #[.agg c'.toArray, .bool (clB t most)]) ∧ TcpC w' c' (clT t most) ∧ Below W.heap.size W w') := fun W hW => RClamp_calls c t most hmost W (hA W hW)
  generalize mssN t = n at *
  generalize mssB t = nb at *
  generalize clB t most = cb at *
  generalize clT t most = ct at *
  have q1 : (n == n) = true := by simp
  have q2 : (nb == nb) = true := by simp
  have q3 : (cb == cb) = true := by simp
  have HB : Hid _ := hB0
  have hx0 : Below W0.heap.size W0 W0 := Below.refl _ _
  clear b0 hB0 hA h hmost
  go_enter Try.func6, Try.ntmps6
  go_wp2_with ((with_reducible show wpList _ _ _ _ _ _); refine arm_load rfl (.tmp 2) 34 rfl rfl (HL.out _ hx0) ?_)
  refine Calls.mono (M1.out _ hx0) ?_
  rintro _ w1 ⟨rfl, hb1⟩
  have hx1 := hx0.trans (hb1.mono hx0.size)
  clear hb1 M1
  go_wp2_with ((with_reducible show wpList _ _ _ _ _ _); refine arm_load rfl (.tmp 2) 34 rfl rfl (HL.out _ hx1) ?_)
  refine Calls.mono (M2.out _ hx1) ?_
  rintro _ w2 ⟨rfl, hb2⟩
  have hx2 := hx1.trans (hb2.mono hx1.size)
  clear hb2 M2
  go_wp2_with ((with_reducible show wpList _ _ _ _ _ _); refine arm_load rfl (.tmp 2) 34 rfl rfl (HL.out _ hx2) ?_)
  refine Calls.mono (M3.out _ hx2) ?_
  rintro _ w3 ⟨d3, rfl, hd3, hb3⟩
  obtain ⟨w4, hst4, b4, hb4⟩ := box_new Try.sizeOf34 w3 [.int .u16 0, .int .u16 0, .int .u32 0, .int .u32 0, .int .u8 0, .int .u16 0, .int .u16 0, .slice none 0 0, .slice none 0 0] rfl d3 hd3.all.len hd3.all.one
  have hx3 := hx2.trans (hb3.mono hx2.size)
  have hx4 := hx3.trans (hb4.mono hx3.size)
  have D3 : Hid (TcpC w4 d3 ct) := hd3.all.on hb4
  have B4 : Hid _ := b4
  have N3 : Hid _ := hd3.all.len
  have HST4 : Hid _ := hst4
  clear hd3 hb3 hb4 hst4 b4 hx3 M3
  go_wp2_with first
    | ((with_reducible show wpList _ _ _ _ _ _); refine arm_store rfl (.tmp 9) (.tmp 27) 34 rfl rfl rfl HST4.out ?_)
    | ((with_reducible show wpList _ _ _ _ _ _); refine arm_load rfl (.tmp 2) 34 rfl rfl (HL.out _ hx4) ?_)
  refine Calls.mono (M4.out _ hx4) ?_
  rintro _ w5 ⟨d5, rfl, hd5, hb5⟩
  obtain ⟨w6, hst6, b6, hb6⟩ := box_new Try.sizeOf34 w5 [.int .u16 0, .int .u16 0, .int .u32 0, .int .u32 0, .int .u8 0, .int .u16 0, .int .u16 0, .slice none 0 0, .slice none 0 0] rfl d5 hd5.len hd5.one
  have hx5 := hx4.trans (hb5.mono hx4.size)
  have hx6 := hx5.trans (hb6.mono hx5.size)
  have y46 := hb5.trans (hb6.mono hb5.size)
  have L3 : Hid _ := agg_load (t := 34) Try.isAgg34 Try.sizeOf34 N3.out (CellsAt.of_blk (blk_on B4.out y46))
  have L5 : Hid _ := agg_load (t := 34) Try.isAgg34 Try.sizeOf34 hd5.len (CellsAt.of_blk b6)
  have S1 : Hid (Calls Try.prog 27 #[.agg d3.toArray, .agg d5.toArray] w6 fun e w' => e = .returned (.bool true) ∧ Below w6.heap.size w6 w') := by
    have k := RSameTCP_calls w6 (D3.out.on y46) (hd5.on hb6)
    rw [sameT_self] at k
    exact k
  have HST6 : Hid _ := hst6
  have HF : Hid (Below w.heap.size w w6) := HB.out.trans (hx6.mono HB.out.size)
  clear hd5 hb5 hb6 hst6 b6 hx5 hx6 y46 hx4 hx2 hx1 hx0 D3 B4 N3 HST4 M4 HL
  go_wp2_with first
    | ((with_reducible show wpList _ _ _ _ _ _); refine arm_store rfl (.tmp 11) (.tmp 33) 34 rfl rfl rfl HST6.out ?_)
    | ((with_reducible show wpList _ _ _ _ _ _); refine arm_load rfl (.tmp 9) 34 rfl rfl L3.out ?_)
    | ((with_reducible show wpList _ _ _ _ _ _); refine arm_load rfl (.tmp 11) 34 rfl rfl L5.out ?_)
  refine Calls.mono S1.out ?_
  rintro _ w7 ⟨rfl, hz7⟩
  go_wp2_with fail
  refine Calls.mono (awake_calls6 _) ?_
  rintro _ w8 ⟨rfl, hz8⟩
  have HZ : Hid _ := hz7.trans (hz8.mono hz7.size)
  clear hz8
  go_wp2
  go_ret
  exact ⟨rfl, HF.out.trans (HZ.out.mono HF.out.size)⟩

set_option maxRecDepth 100000 in
theorem segmentClamps_open {H : Type} {enc : TypeId × Value → H} {W : World} {base : Nat} (v0 v1 : Value) {d0 d1 : DataW H} {p0 p1 : List MemPlace}
    (o0 : Value.okWide Try.prog W .any base 34 v0) (h0 : DataW.Trod enc Try.prog W 0 (fun _ => true) true 34 v0 d0 p0) (z0 : ∀ k ∈ d0.weights Try.prog 34, k ≤ reachBytes)
    (o1 : Value.okWide Try.prog W .any base 3 v1) (h1 : DataW.Trod enc Try.prog W 0 (fun _ => true) true 3 v1 d1 p1) (z1 : ∀ k ∈ d1.weights Try.prog 3, k ≤ reachBytes) :
    Calls Try.prog 6 #[v0, v1] W fun e w' => e = .returned (.bool true) ∧ Below W.heap.size W w' := by
  obtain ⟨c, t, rfl, ht⟩ := open_tcpA h0 z0
  obtain ⟨n, rfl, _, _, wn⟩ := Go.ChangeShapes.open_int Try.underlying3 o1 h1
  have hq := bounds_i64 wn
  exact segmentClamps_walk c t n (by omega) W ht

end Go.Proofs.Ytnlaomjhnndblaa
