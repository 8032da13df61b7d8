/-
  Datagrams as before (package ipv4's texts): what they say; the document's Same of two.
-/
import Derived.Test.YtackllcfnlhkpaaVc4
namespace Go.Proofs.Ytackllcfnlhkpaa
open Go Go.RowKit Go.ChangeShapes Go.WideShapes Go.ChangeAt
set_option linter.unusedVariables false
set_option linter.unusedSimpArgs false

structure V4c (c : List Value) (tos id : Int) (df mf : Bool) (off ttl proto : Int) (src dst : List Int) (so sb : Value) : Prop where
  eq : c = [.int .u8 tos, .int .u16 id, .bool df, .bool mf, .int .i64 off, .int .u8 ttl, .int .u8 proto] ++ (src.map (fun z => Value.int .u8 z) ++ (dst.map (fun z => Value.int .u8 z) ++ [so, sb]))
  ls : src.length = 4
  ld : dst.length = 4

structure Dgram (w : World) (c : List Value) (tos id : Int) (df mf : Bool) (off ttl proto s0 s1 s2 s3 d0 d1 d2 d3 : Int) (opts body : List Int) : Prop where
  cells : ∃ so sb, V4c c tos id df mf off ttl proto [s0, s1, s2, s3] [d0, d1, d2, d3] so sb ∧ BytesAt w.heap.size w so opts ∧ BytesAt w.heap.size w sb body
  hid : 0 ≤ id ∧ id ≤ 65535
  ft : 0 ≤ tos ∧ tos < 256
  fl : 0 ≤ ttl ∧ ttl < 256
  fp : 0 ≤ proto ∧ proto < 256
  fs : Fit [s0, s1, s2, s3]
  fd : Fit [d0, d1, d2, d3]
  bo : -9223372036854775808 ≤ off ∧ off ≤ 9223372036854775807

theorem Dgram.lens {w : World} {c : List Value} {tos id : Int} {df mf : Bool} {off ttl proto s0 s1 s2 s3 d0 d1 d2 d3 : Int} {opts body : List Int} (h : Dgram w c tos id df mf off ttl proto s0 s1 s2 s3 d0 d1 d2 d3 opts body) : Lens c off opts.length body.length := by
  obtain ⟨so, sb, hc, ho, hb⟩ := h.cells
  obtain ⟨_, lo, ao, ko, rfl, _⟩ := ho
  obtain ⟨_, lb, ab, kb, rfl, _⟩ := hb
  exact ⟨by rw [hc.eq]; simp, by rw [hc.eq]; rfl, ⟨ao, ko, by rw [hc.eq]; rfl⟩, ⟨ab, kb, by rw [hc.eq]; rfl⟩, h.bo, lo, lb⟩

def sameB (tos id : Int) (df mf : Bool) (off ttl proto s0 s1 s2 s3 d0 d1 d2 d3 : Int) (opts body : List Int) (tos' id' : Int) (df' mf' : Bool) (off' ttl' proto' s0' s1' s2' s3' d0' d1' d2' d3' : Int) (opts' body' : List Int) : Bool :=
  (tos == tos') && (id == id') && (df == df') && (mf == mf') && (off == off') && (ttl == ttl') && (proto == proto') && decide ([s0, s1, s2, s3] = [s0', s1', s2', s3']) && decide ([d0, d1, d2, d3] = [d0', d1', d2', d3']) && ((strOfNums opts).toList == (strOfNums opts').toList) && ((strOfNums body).toList == (strOfNums body').toList)

theorem sameB_self (tos id : Int) (df mf : Bool) (off ttl proto s0 s1 s2 s3 d0 d1 d2 d3 : Int) (opts body : List Int) : sameB tos id df mf off ttl proto s0 s1 s2 s3 d0 d1 d2 d3 opts body tos id df mf off ttl proto s0 s1 s2 s3 d0 d1 d2 d3 opts body = true := by simp [sameB]

set_option maxHeartbeats 4000000 in
set_option maxRecDepth 100000 in
theorem RSame_calls {c c' : List Value} {tos id : Int} {df mf : Bool} {off ttl proto s0 s1 s2 s3 d0 d1 d2 d3 : Int} {opts body : List Int} {tos' id' : Int} {df' mf' : Bool} {off' ttl' proto' s0' s1' s2' s3' d0' d1' d2' d3' : Int} {opts' body' : List Int} (w : World) (h : Dgram w c tos id df mf off ttl proto s0 s1 s2 s3 d0 d1 d2 d3 opts body) (h' : Dgram w c' tos' id' df' mf' off' ttl' proto' s0' s1' s2' s3' d0' d1' d2' d3' opts' body') :
    Calls Try.prog 20 #[.agg c.toArray, .agg c'.toArray] w fun e w' => e = .returned (.bool (sameB tos id df mf off ttl proto s0 s1 s2 s3 d0 d1 d2 d3 opts body tos' id' df' mf' off' ttl' proto' s0' s1' s2' s3' d0' d1' d2' d3' opts' body')) ∧ Below w.heap.size w w' := by
  have fs := h.fs
  have fd := h.fd
  have fs' := h'.fs
  have fd' := h'.fd
  have hl := h.lens.len
  have hl' := h'.lens.len
  obtain ⟨so, sb, hc, ho, hb⟩ := h.cells
  obtain ⟨so', sb', hc', ho', hb'⟩ := h'.cells
  have q0 : c[0]? = some (.int .u8 tos) := by rw [hc.eq]; rfl
  have p0 : c'[0]? = some (.int .u8 tos') := by rw [hc'.eq]; rfl
  have q1 : c[1]? = some (.int .u16 id) := by rw [hc.eq]; rfl
  have p1 : c'[1]? = some (.int .u16 id') := by rw [hc'.eq]; rfl
  have q2 : c[2]? = some (.bool df) := by rw [hc.eq]; rfl
  have p2 : c'[2]? = some (.bool df') := by rw [hc'.eq]; rfl
  have q3 : c[3]? = some (.bool mf) := by rw [hc.eq]; rfl
  have p3 : c'[3]? = some (.bool mf') := by rw [hc'.eq]; rfl
  have q4 : c[4]? = some (.int .i64 off) := by rw [hc.eq]; rfl
  have p4 : c'[4]? = some (.int .i64 off') := by rw [hc'.eq]; rfl
  have q5 : c[5]? = some (.int .u8 ttl) := by rw [hc.eq]; rfl
  have p5 : c'[5]? = some (.int .u8 ttl') := by rw [hc'.eq]; rfl
  have q6 : c[6]? = some (.int .u8 proto) := by rw [hc.eq]; rfl
  have p6 : c'[6]? = some (.int .u8 proto') := by rw [hc'.eq]; rfl
  have q7 : c[7]? = some (.int .u8 s0) := by rw [hc.eq]; rfl
  have p7 : c'[7]? = some (.int .u8 s0') := by rw [hc'.eq]; rfl
  have q8 : c[8]? = some (.int .u8 s1) := by rw [hc.eq]; rfl
  have p8 : c'[8]? = some (.int .u8 s1') := by rw [hc'.eq]; rfl
  have q9 : c[9]? = some (.int .u8 s2) := by rw [hc.eq]; rfl
  have p9 : c'[9]? = some (.int .u8 s2') := by rw [hc'.eq]; rfl
  have q10 : c[10]? = some (.int .u8 s3) := by rw [hc.eq]; rfl
  have p10 : c'[10]? = some (.int .u8 s3') := by rw [hc'.eq]; rfl
  have q11 : c[11]? = some (.int .u8 d0) := by rw [hc.eq]; rfl
  have p11 : c'[11]? = some (.int .u8 d0') := by rw [hc'.eq]; rfl
  have q12 : c[12]? = some (.int .u8 d1) := by rw [hc.eq]; rfl
  have p12 : c'[12]? = some (.int .u8 d1') := by rw [hc'.eq]; rfl
  have q13 : c[13]? = some (.int .u8 d2) := by rw [hc.eq]; rfl
  have p13 : c'[13]? = some (.int .u8 d2') := by rw [hc'.eq]; rfl
  have q14 : c[14]? = some (.int .u8 d3) := by rw [hc.eq]; rfl
  have p14 : c'[14]? = some (.int .u8 d3') := by rw [hc'.eq]; rfl
  have q15 : c[15]? = some (so) := by rw [hc.eq]; rfl
  have p15 : c'[15]? = some (so') := by rw [hc'.eq]; rfl
  have q16 : c[16]? = some (sb) := by rw [hc.eq]; rfl
  have p16 : c'[16]? = some (sb') := by rw [hc'.eq]; rfl
  have hB := ((Below.refl w.heap.size w).alloc (Nat.le_refl _) (.cells c.toArray 27)).alloc (by simp) (.cells c'.toArray 27)
  have e7 : ∀ W, (Op.equalIn 10000 24 (.agg #[.int .u8 s0, .int .u8 s1, .int .u8 s2, .int .u8 s3]) (.agg #[.int .u8 s0', .int .u8 s1', .int .u8 s2', .int .u8 s3'])).run Try.prog W = .ok (decide ([s0, s1, s2, s3] = [s0', s1', s2', s3'])) W := fun W => eq_arr4 9998 [s0, s1, s2, s3] [s0', s1', s2', s3'] fs fs' rfl rfl W
  have e8 : ∀ W, (Op.equalIn 10000 24 (.agg #[.int .u8 d0, .int .u8 d1, .int .u8 d2, .int .u8 d3]) (.agg #[.int .u8 d0', .int .u8 d1', .int .u8 d2', .int .u8 d3'])).run Try.prog W = .ok (decide ([d0, d1, d2, d3] = [d0', d1', d2', d3'])) W := fun W => eq_arr4 9998 [d0, d1, d2, d3] [d0', d1', d2', d3'] fd fd' rfl rfl W
  have t9 := fun (W : World) (hW : Below w.heap.size w W) => (ho.below hW).text
  have u9 := fun (W : World) (hW : Below w.heap.size w W) => (ho'.below hW).text
  have t10 := fun (W : World) (hW : Below w.heap.size w W) => (hb.below hW).text
  have u10 := fun (W : World) (hW : Below w.heap.size w W) => (hb'.below hW).text
  have t9 := t9 _ hB
  have t10 := t10 _ hB
  have u9 := u9 _ hB
  have u10 := u10 _ hB
  clear ho ho' hb hb' hc hc' h h' hl hl' fs fd fs' fd'
  unfold sameB
  generalize strOfNums opts = X at *
  generalize strOfNums opts' = X' at *
  generalize strOfNums body = Y at *
  generalize strOfNums body' = Y' at *
  generalize decide ([s0, s1, s2, s3] = [s0', s1', s2', s3']) = x8 at *
  generalize decide ([d0, d1, d2, d3] = [d0', d1', d2', d3']) = x9 at *
  generalize hx1 : (tos == tos') = x1
  generalize hx2 : (id == id') = x2
  generalize hx3 : (df == df') = x3
  generalize hx4 : (mf == mf') = x4
  generalize hx5 : (off == off') = x5
  generalize hx6 : (ttl == ttl') = x6
  generalize hx7 : (proto == proto') = x7
  generalize hx10 : (X.toList == X'.toList) = x10
  generalize hx11 : (Y.toList == Y'.toList) = x11
  generalize hr : (x1 && x2 && x3 && x4 && x5 && x6 && x7 && x8 && x9 && x10 && x11) = r
  have HR : Hid _ := hr
  have HB : Hid _ := hB
  clear hr hB
  go_enter Try.func20, Try.ntmps20
  go_wp2
  all_goals
    go_ret
    refine ⟨congrArg (fun b => Ending.returned (.bool b)) ?_, HB.out⟩
    rw [← HR.out]
    simp [*]

theorem seventeen {l : List Value} (h : l.length = 17) : l = (l.drop 0).take 1 ++ ((l.drop 1).take 1 ++ ((l.drop 2).take 1 ++ ((l.drop 3).take 1 ++ ((l.drop 4).take 1 ++ ((l.drop 5).take 1 ++ ((l.drop 6).take 1 ++ ((l.drop 7).take 4 ++ ((l.drop 11).take 4 ++ ((l.drop 15).take 1 ++ (l.drop 16).take 1))))))))) := by
  match l, h with
  | [_, _, _, _, _, _, _, _, _, _, _, _, _, _, _, _, _], _ => rfl

theorem list11 {α : Type} {l : List α} (h : l.length = 11) : ∃ x0 x1 x2 x3 x4 x5 x6 x7 x8 x9 x10, l = [x0, x1, x2, x3, x4, x5, x6, x7, x8, x9, x10] := by
  match l, h with
  | [x0, x1, x2, x3, x4, x5, x6, x7, x8, x9, x10], _ => exact ⟨x0, x1, x2, x3, x4, x5, x6, x7, x8, x9, x10, rfl⟩

set_option maxRecDepth 100000 in
theorem open_v4 {H : Type} {enc : TypeId × Value → H} {W : World} {v : Value} {d : DataW H} {p : List MemPlace} (h : DataW.Trod enc Try.prog W 0 (fun _ => true) true 27 v d p) (hz : ∀ k ∈ d.weights Try.prog 27, k ≤ reachBytes) :
    ∃ c tos id df mf off ttl proto s0 s1 s2 s3 d0 d1 d2 d3 opts body, v = .agg c.toArray ∧ Dgram W c tos id df mf off ttl proto s0 s1 s2 s3 d0 d1 d2 d3 opts body := by
  obtain ⟨fuel, hf⟩ := h
  obtain ⟨xs, m, _, hx, hl, hxl, hi⟩ := DataW.trod_struct Try.underlying27 hf
  have c17 : Try.prog.cellsOf 27 = 17 := by kernel_rfl
  rw [c17] at hl
  obtain ⟨x0, x1, x2, x3, x4, x5, x6, x7, x8, x9, x10, rfl⟩ := list11 hxl
  have g0 : DataW.trod enc Try.prog W 0 (fun _ => true) true m 5 ((v.cells.toList.drop 0).take 1) = some x0 := by
    have e : DataW.trod enc Try.prog W 0 (fun _ => true) true m 5 ((v.cells.toList.drop 0).take (Try.prog.cellsOf 5)) = some x0 := hi 0 _ rfl
    rwa [show Try.prog.cellsOf 5 = 1 by kernel_rfl] at e
  have g1 : DataW.trod enc Try.prog W 0 (fun _ => true) true m 22 ((v.cells.toList.drop 1).take 1) = some x1 := by
    have e : DataW.trod enc Try.prog W 0 (fun _ => true) true m 22 ((v.cells.toList.drop 1).take (Try.prog.cellsOf 22)) = some x1 := hi 1 _ rfl
    rwa [show Try.prog.cellsOf 22 = 1 by kernel_rfl] at e
  have g2 : DataW.trod enc Try.prog W 0 (fun _ => true) true m 4 ((v.cells.toList.drop 2).take 1) = some x2 := by
    have e : DataW.trod enc Try.prog W 0 (fun _ => true) true m 4 ((v.cells.toList.drop 2).take (Try.prog.cellsOf 4)) = some x2 := hi 2 _ rfl
    rwa [show Try.prog.cellsOf 4 = 1 by kernel_rfl] at e
  have g3 : DataW.trod enc Try.prog W 0 (fun _ => true) true m 4 ((v.cells.toList.drop 3).take 1) = some x3 := by
    have e : DataW.trod enc Try.prog W 0 (fun _ => true) true m 4 ((v.cells.toList.drop 3).take (Try.prog.cellsOf 4)) = some x3 := hi 3 _ rfl
    rwa [show Try.prog.cellsOf 4 = 1 by kernel_rfl] at e
  have g4 : DataW.trod enc Try.prog W 0 (fun _ => true) true m 3 ((v.cells.toList.drop 4).take 1) = some x4 := by
    have e : DataW.trod enc Try.prog W 0 (fun _ => true) true m 3 ((v.cells.toList.drop 4).take (Try.prog.cellsOf 3)) = some x4 := hi 4 _ rfl
    rwa [show Try.prog.cellsOf 3 = 1 by kernel_rfl] at e
  have g5 : DataW.trod enc Try.prog W 0 (fun _ => true) true m 5 ((v.cells.toList.drop 5).take 1) = some x5 := by
    have e : DataW.trod enc Try.prog W 0 (fun _ => true) true m 5 ((v.cells.toList.drop 5).take (Try.prog.cellsOf 5)) = some x5 := hi 5 _ rfl
    rwa [show Try.prog.cellsOf 5 = 1 by kernel_rfl] at e
  have g6 : DataW.trod enc Try.prog W 0 (fun _ => true) true m 5 ((v.cells.toList.drop 6).take 1) = some x6 := by
    have e : DataW.trod enc Try.prog W 0 (fun _ => true) true m 5 ((v.cells.toList.drop 6).take (Try.prog.cellsOf 5)) = some x6 := hi 6 _ rfl
    rwa [show Try.prog.cellsOf 5 = 1 by kernel_rfl] at e
  have g7 : DataW.trod enc Try.prog W 0 (fun _ => true) true m 24 ((v.cells.toList.drop 7).take 4) = some x7 := by
    have e : DataW.trod enc Try.prog W 0 (fun _ => true) true m 24 ((v.cells.toList.drop 7).take (Try.prog.cellsOf 24)) = some x7 := hi 7 _ rfl
    rwa [show Try.prog.cellsOf 24 = 4 by kernel_rfl] at e
  have g8 : DataW.trod enc Try.prog W 0 (fun _ => true) true m 24 ((v.cells.toList.drop 11).take 4) = some x8 := by
    have e : DataW.trod enc Try.prog W 0 (fun _ => true) true m 24 ((v.cells.toList.drop 11).take (Try.prog.cellsOf 24)) = some x8 := hi 8 _ rfl
    rwa [show Try.prog.cellsOf 24 = 4 by kernel_rfl] at e
  have g9 : DataW.trod enc Try.prog W 0 (fun _ => true) true m 25 ((v.cells.toList.drop 15).take 1) = some x9 := by
    have e : DataW.trod enc Try.prog W 0 (fun _ => true) true m 25 ((v.cells.toList.drop 15).take (Try.prog.cellsOf 25)) = some x9 := hi 9 _ rfl
    rwa [show Try.prog.cellsOf 25 = 1 by kernel_rfl] at e
  have g10 : DataW.trod enc Try.prog W 0 (fun _ => true) true m 25 ((v.cells.toList.drop 16).take 1) = some x10 := by
    have e : DataW.trod enc Try.prog W 0 (fun _ => true) true m 25 ((v.cells.toList.drop 16).take (Try.prog.cellsOf 25)) = some x10 := hi 10 _ rfl
    rwa [show Try.prog.cellsOf 25 = 1 by kernel_rfl] at e
  obtain ⟨rfl, rfl⟩ := Prod.mk.inj hx
  have w9 : ∀ k ∈ x9.1.weights Try.prog 25, k ≤ reachBytes := fun k hk => hz k (by
    simp only [DataW.weights, Try.underlying27]
    exact DataW.weights_mem_each (j := 9) rfl rfl k hk)
  have w10 : ∀ k ∈ x10.1.weights Try.prog 25, k ≤ reachBytes := fun k hk => hz k (by
    simp only [DataW.weights, Try.underlying27]
    exact DataW.weights_mem_each (j := 10) rfl rfl k hk)
  obtain ⟨tos, e0, _, f0⟩ := DataW.trod_int Try.underlying5 g0
  obtain ⟨id, e1, _, f1⟩ := DataW.trod_int Try.underlying22 g1
  obtain ⟨df, e2, _⟩ := DataW.trod_bool Try.underlying4 g2
  obtain ⟨mf, e3, _⟩ := DataW.trod_bool Try.underlying4 g3
  obtain ⟨off, e4, _, f4⟩ := DataW.trod_int Try.underlying3 g4
  obtain ⟨ttl, e5, _, f5⟩ := DataW.trod_int Try.underlying5 g5
  obtain ⟨proto, e6, _, f6⟩ := DataW.trod_int Try.underlying5 g6
  obtain ⟨s0, s1, s2, s3, e7, f7⟩ := cells_arr4 g7
  obtain ⟨d0, d1, d2, d3, e8, f8⟩ := cells_arr4 g8
  obtain ⟨so, opts, e9, b9⟩ := open_bytes1 g9 w9
  obtain ⟨sb, body, e10, b10⟩ := open_bytes1 g10 w10
  have hall := seventeen hl
  rw [e0, e1, e2, e3, e4, e5, e6, e7, e8, e9, e10] at hall
  have hv := agg_cells hall (by simp)
  have q0 := bounds_u8 f0
  have q5 := bounds_u8 f5
  have q6 := bounds_u8 f6
  have q1 : 0 ≤ id ∧ id ≤ 65535 := bounds_u16 f1
  have q4 := bounds_i64 f4
  exact ⟨_, tos, id, df, mf, off, ttl, proto, s0, s1, s2, s3, d0, d1, d2, d3, opts, body, hv, ⟨so, sb, ⟨rfl, rfl, rfl⟩, b9, b10⟩, q1, by omega, by omega, by omega, f7, f8, q4⟩


end Go.Proofs.Ytackllcfnlhkpaa
