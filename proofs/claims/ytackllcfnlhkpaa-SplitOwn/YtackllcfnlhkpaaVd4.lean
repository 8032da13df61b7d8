/-
  The statement SplitSplits.
-/
import Derived.Test.YtackllcfnlhkpaaVd2
import Derived.Test.YtackllcfnlhkpaaVd3
namespace Go.Proofs.Ytackllcfnlhkpaa
open Go Go.RowKit Go.ChangeShapes Go.WideShapes Go.ChangeAt
set_option linter.unusedVariables false
set_option linter.unusedSimpArgs false

theorem open_bytes2 {H : Type} {enc : TypeId × Value → H} {W : World} {fuel : Nat} {cs : List Value} {x : DataW H × List MemPlace} (h : DataW.trod enc Try.prog W 0 (fun _ => true) true fuel 25 cs = some x) (hz : ∀ k ∈ x.1.weights Try.prog 25, k ≤ reachBytes) :
    ∃ v zs, cs = [v] ∧ RowC W v zs := by
  obtain ⟨v, zs, hcs, hb⟩ := open_bytes1 h hz
  refine ⟨v, zs, hcs, ?_⟩
  rcases open_ints Try.underlying25 Try.underlying5 (by kernel_rfl) h with ⟨e, _⟩ | ⟨a, len, cap, zs', e, _, hl, hm, _⟩
  · rw [e] at hcs
    simp at hcs
    subst hcs
    exact .of_bytes hb (Nat.le_refl _)
  · rw [e] at hcs
    simp at hcs
    subst hcs
    exact .of_bytes hb (by omega)

set_option maxRecDepth 100000 in
theorem open_dg {H : Type} {enc : TypeId × Value → H} {W : World} {v : Value} {d : DataW H} {p : List MemPlace} (h : DataW.Trod enc Try.prog W 0 (fun _ => true) true 27 v d p) (hz : ∀ k ∈ d.weights Try.prog 27, k ≤ reachBytes) :
    ∃ f mf off so sb opts body, v = VV f mf off so sb ∧ FdIn f ∧ RowC W so opts ∧ RowC W sb body ∧ (-9223372036854775808 ≤ off ∧ off ≤ 9223372036854775807) := by
  obtain ⟨fuel, hf⟩ := h
  obtain ⟨xs, m, _, hx, hl, hxl, hi⟩ := DataW.trod_struct Try.underlying27 hf
  have c17 : Try.prog.cellsOf 27 = 17 := by kernel_rfl
  rw [c17] at hl
  obtain ⟨x0, x1, x2, x3, x4, x5, x6, x7, x8, x9, x10, rfl⟩ := list11 hxl
  have g0 : DataW.trod enc Try.prog W 0 (fun _ => true) true m 5 ((v.cells.toList.drop 0).take 1) = some x0 := by
    have e : DataW.trod enc Try.prog W 0 (fun _ => true) true m 5 ((v.cells.toList.drop 0).take (Try.prog.cellsOf 5)) = some x0 := hi 0 _ rfl
    rwa [show Try.prog.cellsOf 5 = 1 by kernel_rfl] at e
  have g1 : DataW.trod enc Try.prog W 0 (fun _ => true) true m 22 ((v.cells.toList.drop 1).take 1) = some x1 := by
    have e : DataW.trod enc Try.prog W 0 (fun _ => true) true m 22 ((v.cells.toList.drop 1).take (Try.prog.cellsOf 22)) = some x1 := hi 1 _ rfl
    rwa [show Try.prog.cellsOf 22 = 1 by kernel_rfl] at e
  have g2 : DataW.trod enc Try.prog W 0 (fun _ => true) true m 4 ((v.cells.toList.drop 2).take 1) = some x2 := by
    have e : DataW.trod enc Try.prog W 0 (fun _ => true) true m 4 ((v.cells.toList.drop 2).take (Try.prog.cellsOf 4)) = some x2 := hi 2 _ rfl
    rwa [show Try.prog.cellsOf 4 = 1 by kernel_rfl] at e
  have g3 : DataW.trod enc Try.prog W 0 (fun _ => true) true m 4 ((v.cells.toList.drop 3).take 1) = some x3 := by
    have e : DataW.trod enc Try.prog W 0 (fun _ => true) true m 4 ((v.cells.toList.drop 3).take (Try.prog.cellsOf 4)) = some x3 := hi 3 _ rfl
    rwa [show Try.prog.cellsOf 4 = 1 by kernel_rfl] at e
  have g4 : DataW.trod enc Try.prog W 0 (fun _ => true) true m 3 ((v.cells.toList.drop 4).take 1) = some x4 := by
    have e : DataW.trod enc Try.prog W 0 (fun _ => true) true m 3 ((v.cells.toList.drop 4).take (Try.prog.cellsOf 3)) = some x4 := hi 4 _ rfl
    rwa [show Try.prog.cellsOf 3 = 1 by kernel_rfl] at e
  have g5 : DataW.trod enc Try.prog W 0 (fun _ => true) true m 5 ((v.cells.toList.drop 5).take 1) = some x5 := by
    have e : DataW.trod enc Try.prog W 0 (fun _ => true) true m 5 ((v.cells.toList.drop 5).take (Try.prog.cellsOf 5)) = some x5 := hi 5 _ rfl
    rwa [show Try.prog.cellsOf 5 = 1 by kernel_rfl] at e
  have g6 : DataW.trod enc Try.prog W 0 (fun _ => true) true m 5 ((v.cells.toList.drop 6).take 1) = some x6 := by
    have e : DataW.trod enc Try.prog W 0 (fun _ => true) true m 5 ((v.cells.toList.drop 6).take (Try.prog.cellsOf 5)) = some x6 := hi 6 _ rfl
    rwa [show Try.prog.cellsOf 5 = 1 by kernel_rfl] at e
  have g7 : DataW.trod enc Try.prog W 0 (fun _ => true) true m 24 ((v.cells.toList.drop 7).take 4) = some x7 := by
    have e : DataW.trod enc Try.prog W 0 (fun _ => true) true m 24 ((v.cells.toList.drop 7).take (Try.prog.cellsOf 24)) = some x7 := hi 7 _ rfl
    rwa [show Try.prog.cellsOf 24 = 4 by kernel_rfl] at e
  have g8 : DataW.trod enc Try.prog W 0 (fun _ => true) true m 24 ((v.cells.toList.drop 11).take 4) = some x8 := by
    have e : DataW.trod enc Try.prog W 0 (fun _ => true) true m 24 ((v.cells.toList.drop 11).take (Try.prog.cellsOf 24)) = some x8 := hi 8 _ rfl
    rwa [show Try.prog.cellsOf 24 = 4 by kernel_rfl] at e
  have g9 : DataW.trod enc Try.prog W 0 (fun _ => true) true m 25 ((v.cells.toList.drop 15).take 1) = some x9 := by
    have e : DataW.trod enc Try.prog W 0 (fun _ => true) true m 25 ((v.cells.toList.drop 15).take (Try.prog.cellsOf 25)) = some x9 := hi 9 _ rfl
    rwa [show Try.prog.cellsOf 25 = 1 by kernel_rfl] at e
  have g10 : DataW.trod enc Try.prog W 0 (fun _ => true) true m 25 ((v.cells.toList.drop 16).take 1) = some x10 := by
    have e : DataW.trod enc Try.prog W 0 (fun _ => true) true m 25 ((v.cells.toList.drop 16).take (Try.prog.cellsOf 25)) = some x10 := hi 10 _ rfl
    rwa [show Try.prog.cellsOf 25 = 1 by kernel_rfl] at e
  obtain ⟨rfl, rfl⟩ := Prod.mk.inj hx
  have w9 : ∀ k ∈ x9.1.weights Try.prog 25, k ≤ reachBytes := fun k hk => hz k (by
    simp only [DataW.weights, Try.underlying27]
    exact DataW.weights_mem_each (j := 9) rfl rfl k hk)
  have w10 : ∀ k ∈ x10.1.weights Try.prog 25, k ≤ reachBytes := fun k hk => hz k (by
    simp only [DataW.weights, Try.underlying27]
    exact DataW.weights_mem_each (j := 10) rfl rfl k hk)
  obtain ⟨tos, e0, _, f0⟩ := DataW.trod_int Try.underlying5 g0
  obtain ⟨id, e1, _, f1⟩ := DataW.trod_int Try.underlying22 g1
  obtain ⟨df, e2, _⟩ := DataW.trod_bool Try.underlying4 g2
  obtain ⟨mf, e3, _⟩ := DataW.trod_bool Try.underlying4 g3
  obtain ⟨off, e4, _, f4⟩ := DataW.trod_int Try.underlying3 g4
  obtain ⟨ttl, e5, _, f5⟩ := DataW.trod_int Try.underlying5 g5
  obtain ⟨proto, e6, _, f6⟩ := DataW.trod_int Try.underlying5 g6
  obtain ⟨s0, s1, s2, s3, e7, f7⟩ := cells_arr4 g7
  obtain ⟨d0, d1, d2, d3, e8, f8⟩ := cells_arr4 g8
  obtain ⟨so, opts, e9, b9⟩ := open_bytes2 g9 w9
  obtain ⟨sb, body, e10, b10⟩ := open_bytes2 g10 w10
  have hall := seventeen hl
  rw [e0, e1, e2, e3, e4, e5, e6, e7, e8, e9, e10] at hall
  have hv := agg_cells hall (by simp)
  have q0 := bounds_u8 f0
  have q5 := bounds_u8 f5
  have q6 := bounds_u8 f6
  have q1 : 0 ≤ id ∧ id ≤ 65535 := bounds_u16 f1
  have q4 := bounds_i64 f4
  have p0 : 0 ≤ tos ∧ tos < 256 := by omega
  have p5 : 0 ≤ ttl ∧ ttl < 256 := by omega
  have p6 : 0 ≤ proto ∧ proto < 256 := by omega
  exact ⟨⟨tos, id, df, ttl, proto, s0, s1, s2, s3, d0, d1, d2, d3⟩, mf, off, so, sb, opts, body, hv, ⟨q1, p0, p5, p6, f7, f8⟩, b9, b10, q4⟩

theorem frs_off (mtu : Nat) (later : List Int) (mf : Bool) : ∀ (n : Nat) (off : Int) (o b : List Int) (j : Nat) (g : Fg), (frs mtu later mf n off o b)[j]? = some g → off ≤ g.off ∧ g.off ≤ off + (b.length : Int)
  | 0, off, o, b, j, g, h => by
    cases j with
    | zero => simp [frs] at h; subst h; simp; omega
    | succ j => simp [frs] at h
  | n + 1, off, o, b, j, g, h => by
    rw [frs] at h
    split at h
    · cases j with
      | zero => simp at h; subst h; simp; omega
      | succ j => simp at h
    · next hn =>
      cases j with
      | zero => simp at h; subst h; simp; omega
      | succ j =>
        simp only [List.getElem?_cons_succ] at h
        have := frs_off mtu later mf n _ _ _ j g h
        have h2 := room_le mtu o.length
        rw [List.length_drop] at this
        omega
theorem outL_off {df mf : Bool} {off : Int} {opts body : List Int} {mtu : Int} (j : Nat) (g : Fg) (h : (outL df mf off opts body mtu)[j]? = some g) : -9223372036854775808 ≤ g.off ∧ g.off ≤ 9223372036854775807 := by
  unfold outL at h
  split at h
  · next he =>
    have hk := chk_ok (wrong_ok (ref_ok he)).1
    have := frs_off _ _ _ _ _ _ _ j g h
    omega
  · simp at h
theorem outL_len {df mf : Bool} {off : Int} {opts body : List Int} {mtu : Int} : (outL df mf off opts body mtu).length ≤ 100000 := by
  unfold outL
  split
  · next he =>
    have hk := chk_ok (wrong_ok (ref_ok he)).1
    have := fragL_len (mf := mf) (off := off) (opts := opts) (body := body) (mtu := mtu) (by omega)
    omega
  · simp

section
variable (f : Fd) (hf : FdIn f) (mf : Bool) (off : Int) (so sb : Value) (opts body : List Int) (mtu : Int) (w : World)
include hf
set_option maxHeartbeats 4000000 in
set_option maxRecDepth 100000 in
theorem splitSplits_walk (h1 : RowC w so opts) (h2 : RowC w sb body) (hoff : -9223372036854775808 ≤ off ∧ off ≤ 9223372036854775807) (hmt : -9223372036854775808 ≤ mtu ∧ mtu ≤ 9223372036854775807) :
    Calls Try.prog 3 #[VV f mf off so sb, .int .i64 mtu] w fun e w' => e = .returned (.bool true) ∧ Below w.heap.size w w' := by
  have hb0 := blk_new w (BV f mf off so sb)
  have hB0 : Below w.heap.size w (w.alloc (BV f mf off so sb)) := (Below.refl w.heap.size w).alloc (Nat.le_refl _) (BV f mf off so sb)
  have HLD : Hid _ := vb_load hb0
  have HB0 : Hid _ := hb0
  have HBB : Hid (Below w.heap.size w (w.alloc (BV f mf off so sb))) := hB0
  have HCT : Hid _ := cut_calls f mf off so sb opts body w (w.alloc (BV f mf off so sb)) h1 h2
  have HAL : Hid (∀ X, Calls Try.prog 16 #[] X fun e w' => e = .returned (.bool true) ∧ Below X.heap.size X w') := fun X => alive_calls X
  have hsw : (w.alloc (BV f mf off so sb)).heap.size = w.heap.size + 1 := by simp
  have HSW : Hid _ := hsw
  clear hb0 hB0 h1 h2 hsw
  go_enter Try.func3, Try.ntmps3

  go_wp2_with first
    | ((with_reducible show wpList _ _ _ ({ dst := _, op := Op.load 27 (Operand.tmp 2), type := _, pos := _, after := _, guard := _ } :: _) _ _); refine armL (.tmp 2) 27 rfl rfl rfl HLD.out ?_)
  refine Calls.mono HCT.out ?_
  rintro e w1 ⟨so1, sb1, rfl, hr1, hr2, hb1⟩
  have hk1 := blk_on HB0.out hb1
  obtain ⟨w2, hst2, hbx2, hon2⟩ := box_store Try.sizeOf27 hk1 rfl (vC f mf off so1 sb1) rfl (vC_one f mf off (BS.of_row hr1).one (BS.of_row hr2).one)
  have hB2 : Below w.heap.size w w2 := (HBB.out.trans (hb1.mono HBB.out.size)).trans (hon2.below (Nat.le_refl _))
  have hq1 : RowC w2 so1 (opts.take 100) := hr1.on hB2
  have hq2 : RowC w2 sb1 (body.take 70000) := hr2.on hB2
  generalize opts.take 100 = o at *
  generalize body.take 70000 = b at *
  have HLDX : Hid (∀ X, Below w2.heap.size w2 X → (Instr.loadAt 27 (.pointer (some ⟨w.heap.size, 0, none⟩))).run Try.prog X = .ok (VV f mf off so1 sb1) X) := fun X hX => vb_load (blk_on hbx2 hX)
  have K1 : Hid (∀ X, Below w2.heap.size w2 X → Calls Try.prog 9 #[VV f mf off so1 sb1, .int .i64 mtu] X fun e w' => SplitP f X (refE f.df mf off o b mtu) (outL f.df mf off o b mtu) e w') := fun X hX => Split_calls f mf off so1 sb1 o b mtu X (hq1.on hX) (hq2.on hX) hoff hmt
  have K2 : Hid (∀ X, Below w2.heap.size w2 X → Calls Try.prog 10 #[VV f mf off so1 sb1, .int .i64 mtu] X fun e w' => RSplitP f X (refE f.df mf off o b mtu) (outL f.df mf off o b mtu) e w') := fun X hX => RSplit_calls f mf off so1 sb1 o b mtu X (hq1.on hX) (hq2.on hX) hoff hmt
  have K3 : Hid (∀ X, Below w2.heap.size w2 X → Calls Try.prog 11 #[VV f mf off so1 sb1, .int .i64 mtu] X fun e w' => e = .returned (.tuple #[.int .i64 ((outL f.df mf off o b mtu).length : Nat), .int .i64 (refE f.df mf off o b mtu)]) ∧ Below X.heap.size X w') := fun X hX => Count_calls f mf off so1 sb1 o b mtu X (hq1.on hX) (hq2.on hX) hoff hmt
  have K4 : Hid (∀ X, Below w2.heap.size w2 X → Calls Try.prog 12 #[VV f mf off so1 sb1, .int .i64 mtu] X fun e w' => e = .returned (.tuple #[.int .i64 ((outL f.df mf off o b mtu).length : Nat), .int .i64 (refE f.df mf off o b mtu)]) ∧ Below X.heap.size X w') := fun X hX => RCount_calls f mf off so1 sb1 o b mtu X (hq1.on hX) (hq2.on hX) hoff hmt
  have K5 : Hid (∀ X, Below w2.heap.size w2 X → Calls Try.prog 13 #[VV f mf off so1 sb1, .int .i64 mtu] X fun e w' => e = .returned (.tuple #[.bool (decide (wrongE off o.length b.length mtu = 0) && fitB o.length b.length mtu), .int .i64 (wrongE off o.length b.length mtu)]) ∧ Below X.heap.size X w') := fun X hX => Fits_calls f mf off so1 sb1 o b mtu X (hq1.on hX) (hq2.on hX) hoff hmt
  have K6 : Hid (∀ X, Below w2.heap.size w2 X → Calls Try.prog 14 #[VV f mf off so1 sb1, .int .i64 mtu] X fun e w' => e = .returned (.tuple #[.bool (decide (wrongE off o.length b.length mtu = 0) && fitB o.length b.length mtu), .int .i64 (wrongE off o.length b.length mtu)]) ∧ Below X.heap.size X w') := fun X hX => RFits_calls f mf off so1 sb1 o b mtu X (hq1.on hX) (hq2.on hX) hoff hmt
  have HOF : Hid (∀ (j : Nat) (g : Fg), (outL f.df mf off o b mtu)[j]? = some g → -9223372036854775808 ≤ g.off ∧ g.off ≤ 9223372036854775807) := fun j g h => outL_off j g h
  have HLN : Hid ((outL f.df mf off o b mtu).length ≤ 100000) := outL_len
  have HST : Hid _ := hst2
  have HB2 : Hid (Below w.heap.size w w2) := hB2
  clear hq1 hq2 hr1 hr2 hbx2 hon2 hst2 hB2 hk1 hb1 HCT HLD HB0 HBB HSW
  generalize refE f.df mf off o b mtu = E at *
  generalize outL f.df mf off o b mtu = L at *
  generalize (decide (wrongE off o.length b.length mtu = 0) && fitB o.length b.length mtu) = FB at *
  generalize wrongE off o.length b.length mtu = WE at *
  generalize hLN : L.length = N at *
  have HLNE : Hid _ := hLN
  clear hLN

  go_wp2_with first
    | ((with_reducible show wpList _ _ _ ({ dst := _, op := Op.store 27 (Operand.tmp 2) (Operand.tmp 18), type := _, pos := _, after := _, guard := _ } :: _) _ _); refine armS (.tmp 2) (Operand.tmp 18) 27 rfl rfl rfl rfl HST.out ?_; simp only [Act.put])
    | ((with_reducible show wpList _ _ _ ({ dst := _, op := Op.load 27 (Operand.tmp 2), type := _, pos := _, after := _, guard := _ } :: _) _ _); refine armL (.tmp 2) 27 rfl rfl rfl (HLDX.out _ (Below.refl _ _)) ?_)
  refine Calls.mono (K1.out _ (Below.refl _ _)) ?_
  rintro e X1 ⟨v1, rfl, hr1, hB1⟩
  obtain ⟨a1, c1, rfl⟩ := hr1.slc
  have HR1 : Hid _ := hr1
  have HB1 : Hid (Below w2.heap.size w2 X1) := hB1
  rw [HLNE.out]
  clear hr1 hB1 K1 HST
  go_wp2_with first
    | ((with_reducible show wpList _ _ _ ({ dst := _, op := Op.load 27 (Operand.tmp 2), type := _, pos := _, after := _, guard := _ } :: _) _ _); refine armL (.tmp 2) 27 rfl rfl rfl (HLDX.out _ HB1.out) ?_)
  refine Calls.mono (K2.out _ HB1.out) ?_
  rintro e X2 ⟨v2, rfl, hr2, hb2⟩
  obtain ⟨a2, c2, rfl⟩ := hr2.slc
  have HR1 : Hid _ := HR1.out.on hb2
  have HR2 : Hid _ := hr2
  have HB2' : Hid (Below w2.heap.size w2 X2) := HB1.out.trans (hb2.mono HB1.out.size)
  rw [HLNE.out]
  clear hr2 hb2 K2 HB1
  go_wp2_with first
    | ((with_reducible show wpList _ _ _ ({ dst := _, op := Op.load 27 (Operand.tmp 2), type := _, pos := _, after := _, guard := _ } :: _) _ _); refine armL (.tmp 2) 27 rfl rfl rfl (HLDX.out _ HB2'.out) ?_)
  refine Calls.mono (K3.out _ HB2'.out) ?_
  rintro e X3 ⟨rfl, hb3⟩
  have HR1 : Hid _ := HR1.out.on hb3
  have HR2 : Hid _ := HR2.out.on hb3
  have HB3' : Hid (Below w2.heap.size w2 X3) := HB2'.out.trans (hb3.mono HB2'.out.size)
  clear hb3 K3 HB2'
  go_wp2_with first
    | ((with_reducible show wpList _ _ _ ({ dst := _, op := Op.load 27 (Operand.tmp 2), type := _, pos := _, after := _, guard := _ } :: _) _ _); refine armL (.tmp 2) 27 rfl rfl rfl (HLDX.out _ HB3'.out) ?_)
  refine Calls.mono (K4.out _ HB3'.out) ?_
  rintro e X4 ⟨rfl, hb4⟩
  have HR1 : Hid _ := HR1.out.on hb4
  have HR2 : Hid _ := HR2.out.on hb4
  have HB4' : Hid (Below w2.heap.size w2 X4) := HB3'.out.trans (hb4.mono HB3'.out.size)
  clear hb4 K4 HB3'
  go_wp2_with first
    | ((with_reducible show wpList _ _ _ ({ dst := _, op := Op.load 27 (Operand.tmp 2), type := _, pos := _, after := _, guard := _ } :: _) _ _); refine armL (.tmp 2) 27 rfl rfl rfl (HLDX.out _ HB4'.out) ?_)
  refine Calls.mono (K5.out _ HB4'.out) ?_
  rintro e X5 ⟨rfl, hb5⟩
  have HR1 : Hid _ := HR1.out.on hb5
  have HR2 : Hid _ := HR2.out.on hb5
  have HB5' : Hid (Below w2.heap.size w2 X5) := HB4'.out.trans (hb5.mono HB4'.out.size)
  clear hb5 K5 HB4'
  go_wp2_with first
    | ((with_reducible show wpList _ _ _ ({ dst := _, op := Op.load 27 (Operand.tmp 2), type := _, pos := _, after := _, guard := _ } :: _) _ _); refine armL (.tmp 2) 27 rfl rfl rfl (HLDX.out _ HB5'.out) ?_)
  refine Calls.mono (K6.out _ HB5'.out) ?_
  rintro e X6 ⟨rfl, hb6⟩
  have HR1 : Hid _ := HR1.out.on hb6
  have HR2 : Hid _ := HR2.out.on hb6
  have HB6' : Hid (Below w2.heap.size w2 X6) := HB5'.out.trans (hb6.mono HB5'.out.size)
  clear hb6 K6 HB5'
  have HSR : Hid _ := rows_same hf HR1.out HR2.out HOF.out (by rw [HLNE.out]; exact HLN.out)
  rw [HLNE.out] at HSR
  clear HR1 HR2 HOF HLDX
  go_wp2_with fail
  refine Calls.mono HSR.out ?_
  rintro e X7 ⟨rfl, hb7⟩
  have HB7 : Hid (Below w2.heap.size w2 X7) := HB6'.out.trans (hb7.mono HB6'.out.size)
  clear hb7 HSR
  go_wp2_with fail
  refine Calls.mono (HAL.out _) ?_
  rintro e X8 ⟨rfl, hb8⟩
  have HB8 : Hid (Below w2.heap.size w2 X8) := HB7.out.trans (hb8.mono HB7.out.size)
  clear hb8
  go_wp2
  go_ret
  exact ⟨rfl, HB2.out.trans (HB8.out.mono HB2.out.size)⟩
end

theorem splitSplits_open {H : Type} {enc : TypeId × Value → H} {W : World} {base : Nat} (v0 v1 : Value) {d0 d1 : DataW H} {p0 p1 : List MemPlace}
    (o0 : Value.okWide Try.prog W .any base 27 v0) (h0 : DataW.Trod enc Try.prog W 0 (fun _ => true) true 27 v0 d0 p0) (z0 : ∀ k ∈ d0.weights Try.prog 27, k ≤ reachBytes)
    (o1 : Value.okWide Try.prog W .any base 3 v1) (h1 : DataW.Trod enc Try.prog W 0 (fun _ => true) true 3 v1 d1 p1) (z1 : ∀ k ∈ d1.weights Try.prog 3, k ≤ reachBytes) :
    Calls Try.prog 3 #[v0, v1] W fun e w' => e = .returned (.bool true) ∧ Below W.heap.size W w' := by
  obtain ⟨f, mf, off, so, sb, opts, body, rfl, hf, hr1, hr2, ho⟩ := open_dg h0 z0
  obtain ⟨k, rfl, _, _, wk⟩ := open_int Try.underlying3 o1 h1
  exact splitSplits_walk f hf mf off so sb opts body k W hr1 hr2 ho (bounds_i64 wk)

end Go.Proofs.Ytackllcfnlhkpaa
