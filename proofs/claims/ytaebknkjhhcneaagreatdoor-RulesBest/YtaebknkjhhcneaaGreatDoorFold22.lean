/-
  Best4 and Best6 of a rule set.
  Rules and edges that came in.
  The statement MappingRules for every argument.
  set6 and set4 of the document.
-/
import Derived.Test.YtaebknkjhhcneaaGreatDoorFold21
import Derived.Test.YtaebknkjhhcneaaGreatDoorFold20
import Derived.Deep.Strs
import Derived.Test.YtaebknkjhhcneaaGreatDoorFold08
namespace Go.Proofs.YtaebknkjhhcneaaGreatDoor
open Go Go.RowKit
set_option linter.unusedVariables false
set_option linter.unusedSimpArgs false

/-- A rule set as cells: its mode, relay, prefix and the slice of its rules. -/
structure Dom where
  mode : Int
  relay : List Int
  pl : List Int
  pn : Int
structure Dom.In (d : Dom) : Prop where
  rf : FitB d.relay
  rl : d.relay.length = 16
  pf : FitB d.pl
  pl : d.pl.length = 16
  pn : In64 d.pn
  md : In64 d.mode
def dc (d : Dom) (v : Value) : List Value := [.int .i64 d.mode] ++ (u8s d.relay ++ (cp6 d.pl d.pn ++ [v]))
abbrev DV (d : Dom) (v : Value) : Value := .agg (dc d v).toArray
abbrev DO (d : Dom) (v : Value) : Obj := .cells (dc d v).toArray 29
theorem dc_length {d : Dom} (h : d.In) (v : Value) : (dc d v).length = 35 := by simp [dc, u8s_length, h.rl, cp6_length _ _ h.pl]
theorem dc_34 {d : Dom} (h : d.In) (v : Value) : (dc d v)[34]? = some v := by simp [dc, List.getElem?_append, u8s_length, h.rl, cp6_length _ _ h.pl]
theorem dc_0 (d : Dom) (v : Value) : (dc d v)[0]? = some (.int .i64 d.mode) := rfl
theorem dc_one (d : Dom) {v : Value} (hv : v.oneCell' = true) : ∀ u ∈ dc d v, u.oneCell' = true := by
  intro u hu
  unfold dc at hu
  rcases List.mem_append.1 hu with hu | hu
  · rw [List.mem_singleton.1 hu]; rfl
  · rcases List.mem_append.1 hu with hu | hu
    · exact u8s_one _ u hu
    · rcases List.mem_append.1 hu with hu | hu
      · exact cp6_one _ _ u hu
      · rw [List.mem_singleton.1 hu]; exact hv
theorem loadD {W : World} {b : Nat} {d : Dom} {v : Value} (h : d.In) (hb : W.heap[b]? = some (DO d v)) : (Instr.loadAt 29 (.pointer (some ⟨b, 0, none⟩))).run Tryz.prog W = .ok (DV d v) W :=
  agg_load (n := 35) (fun w => by kernel_rfl) (fun w => by kernel_rfl) (dc_length h v) (CellsAt.blk hb)
theorem relayD {W : World} {b : Nat} {d : Dom} {v : Value} (h : d.In) (hb : W.heap[b]? = some (DO d v)) : (Instr.loadAt 24 (.pointer (some ⟨b, 1, none⟩))).run Tryz.prog W = .ok (A6 d.relay) W := by
  have := CellsAt.part (xs := [.int .i64 d.mode]) (ys := u8s d.relay) (zs := cp6 d.pl d.pn ++ [v]) (CellsAt.blk hb)
  exact load6 h.rl this
theorem prefixD {W : World} {b : Nat} {d : Dom} {v : Value} (h : d.In) (hb : W.heap[b]? = some (DO d v)) : (Instr.loadAt 26 (.pointer (some ⟨b, 17, none⟩))).run Tryz.prog W = .ok (P6 d.pl d.pn) W := by
  have e : dc d v = ([.int .i64 d.mode] ++ u8s d.relay) ++ (cp6 d.pl d.pn ++ [v]) := by simp [dc]
  have h0 := CellsAt.blk hb
  rw [e] at h0
  have := CellsAt.part h0
  rw [show 0 + ([Value.int .i64 d.mode] ++ u8s d.relay).length = 17 by simp [u8s_length, h.rl]] at this
  exact loadP6 h.pl this


set_option maxRecDepth 100000 in
set_option maxHeartbeats 2000000 in
theorem Best4_any (d : Dom) (hd : d.In) (rs : List Ru) (hrs : ∀ r ∈ rs, r.In) (hlen : rs.length ≤ 1000000) (v : Value) (y : List Int) (yf : FitB y) (yl : y.length = 4) (w : World) (hv : RsAt w v rs) :
    Calls Tryz.prog 18 #[DV d v, A4L y] w fun e w' => e = .returned (bestE Ru.n4 (has4R y) rs) ∧ Below w.heap.size w w' := by
  generalize hQ : (fun (e : Ending) (w' : World) => e = .returned (bestE Ru.n4 (has4R y) rs) ∧ Below w.heap.size w w') = Q
  have HQ : Hid _ := hQ
  clear hQ
  have hB0 : Below w.heap.size w ((w.alloc (DO d v)).alloc (.cells (b8 y).toArray 61)) := ((Below.refl _ w).alloc (Nat.le_refl _) _).alloc (by simp) _
  have hd0 : ((w.alloc (DO d v)).alloc (.cells (b8 y).toArray 61)).heap[w.heap.size]? = some (DO d v) := blk_alloc (blk_new w _) _
  have hy0 : ((w.alloc (DO d v)).alloc (.cells (b8 y).toArray 61)).heap[w.heap.size + 1]? = some (.cells (b8 y).toArray 61) := by
    have := blk_new (w.alloc (DO d v)) (.cells (b8 y).toArray 61)
    rwa [show (w.alloc (DO d v)).heap.size = w.heap.size + 1 by simp] at this
  generalize hW0 : (w.alloc (DO d v)).alloc (.cells (b8 y).toArray 61) = W0 at *
  have HB : Hid _ := best4 rs hrs hlen v y yf yl (w.heap.size + 1) W0 (hv.below hB0) hy0
  obtain ⟨ad, cap, rfl, _⟩ := hv
  have c34 := blk_cell hd0 (dc_34 hd _)
  have hW0' : (w.alloc (.cells (dc d (.slice ad rs.length cap)).toArray 29)).alloc (.cells (b8 y).toArray 61) = W0 := hW0
  clear hW0 hd0 hy0
  go_enter Tryz.func18, Tryz.ntmps18
  go_wp2_with fail
  refine Calls.mono HB.out ?_
  rintro e w1 ⟨rfl, hB1⟩
  have HK : Hid _ := hB0.trans (hB1.mono hB0.size)
  unfold bestE at HQ ⊢
  clear hB0 hB1 HB hW0' c34
  go_wp2
  try go_ret2
  rw [← HQ.out]
  exact ⟨rfl, HK.out⟩


set_option maxRecDepth 100000 in
set_option maxHeartbeats 2000000 in
theorem Best6_any (d : Dom) (hd : d.In) (rs : List Ru) (hrs : ∀ r ∈ rs, r.In) (hlen : rs.length ≤ 1000000) (v : Value) (y : List Int) (yf : FitB y) (yl : y.length = 16) (w : World) (hv : RsAt w v rs) :
    Calls Tryz.prog 20 #[DV d v, A6 y] w fun e w' => e = .returned (bestE Ru.n6 (has6R y) rs) ∧ Below w.heap.size w w' := by
  generalize hQ : (fun (e : Ending) (w' : World) => e = .returned (bestE Ru.n6 (has6R y) rs) ∧ Below w.heap.size w w') = Q
  have HQ : Hid _ := hQ
  clear hQ
  have hB0 : Below w.heap.size w ((w.alloc (DO d v)).alloc (.cells (u8s y).toArray 24)) := ((Below.refl _ w).alloc (Nat.le_refl _) _).alloc (by simp) _
  have hd0 : ((w.alloc (DO d v)).alloc (.cells (u8s y).toArray 24)).heap[w.heap.size]? = some (DO d v) := blk_alloc (blk_new w _) _
  have hy0 : ((w.alloc (DO d v)).alloc (.cells (u8s y).toArray 24)).heap[w.heap.size + 1]? = some (.cells (u8s y).toArray 24) := by
    have := blk_new (w.alloc (DO d v)) (.cells (u8s y).toArray 24)
    rwa [show (w.alloc (DO d v)).heap.size = w.heap.size + 1 by simp] at this
  generalize hW0 : (w.alloc (DO d v)).alloc (.cells (u8s y).toArray 24) = W0 at *
  have HB : Hid _ := best6 rs hrs hlen v y yf yl (w.heap.size + 1) W0 (hv.below hB0) hy0
  obtain ⟨ad, cap, rfl, _⟩ := hv
  have c34 := blk_cell hd0 (dc_34 hd _)
  have hW0' : (w.alloc (.cells (dc d (.slice ad rs.length cap)).toArray 29)).alloc (.cells (u8s y).toArray 24) = W0 := hW0
  clear hW0 hd0 hy0
  go_enter Tryz.func20, Tryz.ntmps20
  go_wp2_with fail
  refine Calls.mono HB.out ?_
  rintro e w1 ⟨rfl, hB1⟩
  have HK : Hid _ := hB0.trans (hB1.mono hB0.size)
  unfold bestE at HQ ⊢
  clear hB0 hB1 HB hW0' c34
  go_wp2
  try go_ret2
  rw [← HQ.out]
  exact ⟨rfl, HK.out⟩


end Go.Proofs.YtaebknkjhhcneaaGreatDoor

namespace Go.Proofs.YtaebknkjhhcneaaGreatDoor
open Go Go.RowKit
set_option linter.unusedVariables false
set_option linter.unusedSimpArgs false

theorem list3' {α : Type} {l : List α} (h : l.length = 3) : ∃ a b c, l = [a, b, c] := by
  match l, h with
  | [a, b, c], _ => exact ⟨a, b, c, rfl⟩
section
variable {H : Type} {enc : TypeId × Value → H} {W : World} {fuel : Nat} {cs : List Value} {x : DataW H × List MemPlace}
theorem cells_p6 (h : DataW.trod enc Tryz.prog W 0 (fun _ => true) true fuel 26 cs = some x) : ∃ l n, cs = cp6 l n ∧ FitB l ∧ l.length = 16 ∧ In64 n := by
  obtain ⟨y0, y1, m, _, hl, h0, h1⟩ := Go.ChangeShapes.trod_struct2 Tryz.underlying26 h
  have c17 : Tryz.prog.cellsOf 26 = 17 := by kernel_rfl
  rw [c17] at hl
  have h0' : DataW.trod enc Tryz.prog W 0 (fun _ => true) true m 24 ((cs.drop 0).take (Tryz.prog.cellsOf 24)) = some y0 := h0
  have h1' : DataW.trod enc Tryz.prog W 0 (fun _ => true) true m 3 ((cs.drop 16).take (Tryz.prog.cellsOf 3)) = some y1 := h1
  rw [show Tryz.prog.cellsOf 24 = 16 by kernel_rfl] at h0'
  rw [show Tryz.prog.cellsOf 3 = 1 by kernel_rfl] at h1'
  obtain ⟨zs, hzl, hcs, hfit⟩ := cells_arr Tryz.underlying24 (by kernel_rfl) (by kernel_rfl) h0'
  obtain ⟨n, hn, _, wf⟩ := DataW.trod_int Tryz.underlying3 h1'
  refine ⟨zs, n, ?_, hfit, hzl, bounds_i64 wf⟩
  have e : cs = (cs.drop 0).take 16 ++ (cs.drop 16).take 1 := by
    rw [List.take_of_length_le (l := cs.drop 16) (by simp; omega)]
    simp
  rw [e, hcs, hn]
  rfl
theorem cells_p4 (h : DataW.trod enc Tryz.prog W 0 (fun _ => true) true fuel 63 cs = some x) : ∃ l n, cs = cp4 l n ∧ FitB l ∧ l.length = 4 ∧ In64 n := by
  obtain ⟨y0, y1, m, _, hl, h0, h1⟩ := Go.ChangeShapes.trod_struct2 Tryz.underlying63 h
  have c17 : Tryz.prog.cellsOf 63 = 5 := by kernel_rfl
  rw [c17] at hl
  have h0' : DataW.trod enc Tryz.prog W 0 (fun _ => true) true m 61 ((cs.drop 0).take (Tryz.prog.cellsOf 61)) = some y0 := h0
  have h1' : DataW.trod enc Tryz.prog W 0 (fun _ => true) true m 3 ((cs.drop 4).take (Tryz.prog.cellsOf 3)) = some y1 := h1
  rw [show Tryz.prog.cellsOf 61 = 4 by kernel_rfl] at h0'
  rw [show Tryz.prog.cellsOf 3 = 1 by kernel_rfl] at h1'
  obtain ⟨zs, hzl, hcs, hfit⟩ := cells_arr Tryz.underlying61 (by kernel_rfl) (by kernel_rfl) h0'
  obtain ⟨n, hn, _, wf⟩ := DataW.trod_int Tryz.underlying3 h1'
  refine ⟨zs, n, ?_, hfit, hzl, bounds_i64 wf⟩
  have e : cs = (cs.drop 0).take 4 ++ (cs.drop 4).take 1 := by
    rw [List.take_of_length_le (l := cs.drop 4) (by simp; omega)]
    simp
  rw [e, hcs, hn]
  rfl
theorem cells_ps (h : DataW.trod enc Tryz.prog W 0 (fun _ => true) true fuel 67 cs = some x) : ∃ o l p, cs = PSL o l p ∧ In64 o ∧ In64 l ∧ 0 ≤ p ∧ p < 65536 := by
  obtain ⟨y0, y1, y2, m, _, hl, h0, h1, h2⟩ := Go.Deep.trod_struct3 Tryz.underlying67 h
  rw [show Tryz.prog.cellsOf 67 = 3 by kernel_rfl] at hl
  have h0' : DataW.trod enc Tryz.prog W 0 (fun _ => true) true m 3 ((cs.drop 0).take (Tryz.prog.cellsOf 3)) = some y0 := h0
  have h1' : DataW.trod enc Tryz.prog W 0 (fun _ => true) true m 3 ((cs.drop 1).take (Tryz.prog.cellsOf 3)) = some y1 := h1
  have h2' : DataW.trod enc Tryz.prog W 0 (fun _ => true) true m 49 ((cs.drop 2).take (Tryz.prog.cellsOf 49)) = some y2 := h2
  rw [show Tryz.prog.cellsOf 3 = 1 by kernel_rfl] at h0' h1'
  rw [show Tryz.prog.cellsOf 49 = 1 by kernel_rfl] at h2'
  obtain ⟨n0, e0, _, wf0⟩ := DataW.trod_int Tryz.underlying3 h0'
  obtain ⟨n1, e1, _, wf1⟩ := DataW.trod_int Tryz.underlying3 h1'
  obtain ⟨n2, e2, _, wf2⟩ := DataW.trod_int Tryz.underlying49 h2'
  have b2 := bounds_u16 wf2
  refine ⟨n0, n1, n2, ?_, bounds_i64 wf0, bounds_i64 wf1, b2.1, by omega⟩
  clear h h0 h1 h2 h0' h1' h2'
  obtain ⟨x, y, z, rfl⟩ := list3' hl
  simp at e0 e1 e2
  rw [e0, e1, e2]
theorem list5 {α : Type} {l : List α} (h : l.length = 5) : ∃ a b c d e, l = [a, b, c, d, e] := by
  match l, h with
  | [a, b, c, d, e], _ => exact ⟨a, b, c, d, e, rfl⟩
theorem list4' {α : Type} {l : List α} (h : l.length = 4) : ∃ a b c d, l = [a, b, c, d] := by
  match l, h with
  | [a, b, c, d], _ => exact ⟨a, b, c, d, rfl⟩
theorem cut_at (L : List Value) (n k : Nat) : L.drop n = (L.drop n).take k ++ L.drop (n + k) := by
  rw [← List.drop_drop, List.take_append_drop]
end

set_option maxRecDepth 100000 in
theorem open_rule {H : Type} {enc : TypeId × Value → H} {W : World} {v : Value} {d : DataW H} {p : List MemPlace} (h : DataW.Trod enc Tryz.prog W 0 (fun _ => true) true 65 v d p) : ∃ r : Ru, v = RV r ∧ r.In := by
  obtain ⟨fuel, hf⟩ := h
  obtain ⟨xs, m, _, hx, hl, hxl, hi⟩ := DataW.trod_struct Tryz.underlying65 hf
  rw [show Tryz.prog.cellsOf 65 = 25 by kernel_rfl] at hl
  obtain ⟨x0, x1, x2, x3, x4, rfl⟩ := list5 hxl
  have g0 : DataW.trod enc Tryz.prog W 0 (fun _ => true) true m 26 ((v.cells.toList.drop 0).take 17) = some x0 := by
    have e : DataW.trod enc Tryz.prog W 0 (fun _ => true) true m 26 ((v.cells.toList.drop 0).take (Tryz.prog.cellsOf 26)) = some x0 := hi 0 _ rfl
    rwa [show Tryz.prog.cellsOf 26 = 17 by kernel_rfl] at e
  have g1 : DataW.trod enc Tryz.prog W 0 (fun _ => true) true m 63 ((v.cells.toList.drop 17).take 5) = some x1 := by
    have e : DataW.trod enc Tryz.prog W 0 (fun _ => true) true m 63 ((v.cells.toList.drop 17).take (Tryz.prog.cellsOf 63)) = some x1 := hi 1 _ rfl
    rwa [show Tryz.prog.cellsOf 63 = 5 by kernel_rfl] at e
  have g2 : DataW.trod enc Tryz.prog W 0 (fun _ => true) true m 3 ((v.cells.toList.drop 22).take 1) = some x2 := by
    have e : DataW.trod enc Tryz.prog W 0 (fun _ => true) true m 3 ((v.cells.toList.drop 22).take (Tryz.prog.cellsOf 3)) = some x2 := hi 2 _ rfl
    rwa [show Tryz.prog.cellsOf 3 = 1 by kernel_rfl] at e
  have g3 : DataW.trod enc Tryz.prog W 0 (fun _ => true) true m 3 ((v.cells.toList.drop 23).take 1) = some x3 := by
    have e : DataW.trod enc Tryz.prog W 0 (fun _ => true) true m 3 ((v.cells.toList.drop 23).take (Tryz.prog.cellsOf 3)) = some x3 := hi 3 _ rfl
    rwa [show Tryz.prog.cellsOf 3 = 1 by kernel_rfl] at e
  have g4 : DataW.trod enc Tryz.prog W 0 (fun _ => true) true m 4 ((v.cells.toList.drop 24).take 1) = some x4 := by
    have e : DataW.trod enc Tryz.prog W 0 (fun _ => true) true m 4 ((v.cells.toList.drop 24).take (Tryz.prog.cellsOf 4)) = some x4 := hi 4 _ rfl
    rwa [show Tryz.prog.cellsOf 4 = 1 by kernel_rfl] at e
  obtain ⟨l6, n6, c0, f6, k6, b6⟩ := cells_p6 g0
  obtain ⟨l4, n4, c1, f4, k4, b4⟩ := cells_p4 g1
  obtain ⟨ea, c2, _, wf2⟩ := DataW.trod_int Tryz.underlying3 g2
  obtain ⟨off, c3, _, wf3⟩ := DataW.trod_int Tryz.underlying3 g3
  obtain ⟨fmr, c4, _⟩ := DataW.trod_bool Tryz.underlying4 g4
  refine ⟨⟨l6, n6, l4, n4, ea, off, fmr⟩, ?_, ⟨f6, k6, b6, f4, k4, b4, bounds_i64 wf2, bounds_i64 wf3⟩⟩
  refine agg_of ?_ (by rw [rc_length ⟨f6, k6, b6, f4, k4, b4, bounds_i64 wf2, bounds_i64 wf3⟩]; omega)
  generalize v.cells.toList = L at *
  have e : L = (L.drop 0).take 17 ++ ((L.drop 17).take 5 ++ ((L.drop 22).take 1 ++ ((L.drop 23).take 1 ++ (L.drop 24).take 1))) := by
    rw [List.take_of_length_le (l := L.drop 24) (by simp; omega), ← cut_at L 23 1, ← cut_at L 22 1, ← cut_at L 17 5, ← cut_at L 0 17]
    rfl
  rw [e, c0, c1, c2, c3, c4]
  rfl

set_option maxRecDepth 100000 in
theorem open_edge {H : Type} {enc : TypeId × Value → H} {W : World} {v : Value} {d : DataW H} {p : List MemPlace} (h : DataW.Trod enc Tryz.prog W 0 (fun _ => true) true 69 v d p) : ∃ e : Ed, v = EV e ∧ e.In := by
  obtain ⟨fuel, hf⟩ := h
  obtain ⟨xs, m, _, hx, hl, hxl, hi⟩ := DataW.trod_struct Tryz.underlying69 hf
  rw [show Tryz.prog.cellsOf 69 = 41 by kernel_rfl] at hl
  obtain ⟨x0, x1, x2, x3, rfl⟩ := list4' hxl
  have g0 : DataW.trod enc Tryz.prog W 0 (fun _ => true) true m 63 ((v.cells.toList.drop 0).take 5) = some x0 := by
    have e : DataW.trod enc Tryz.prog W 0 (fun _ => true) true m 63 ((v.cells.toList.drop 0).take (Tryz.prog.cellsOf 63)) = some x0 := hi 0 _ rfl
    rwa [show Tryz.prog.cellsOf 63 = 5 by kernel_rfl] at e
  have g1 : DataW.trod enc Tryz.prog W 0 (fun _ => true) true m 67 ((v.cells.toList.drop 5).take 3) = some x1 := by
    have e : DataW.trod enc Tryz.prog W 0 (fun _ => true) true m 67 ((v.cells.toList.drop 5).take (Tryz.prog.cellsOf 67)) = some x1 := hi 1 _ rfl
    rwa [show Tryz.prog.cellsOf 67 = 3 by kernel_rfl] at e
  have g2 : DataW.trod enc Tryz.prog W 0 (fun _ => true) true m 26 ((v.cells.toList.drop 8).take 17) = some x2 := by
    have e : DataW.trod enc Tryz.prog W 0 (fun _ => true) true m 26 ((v.cells.toList.drop 8).take (Tryz.prog.cellsOf 26)) = some x2 := hi 2 _ rfl
    rwa [show Tryz.prog.cellsOf 26 = 17 by kernel_rfl] at e
  have g3 : DataW.trod enc Tryz.prog W 0 (fun _ => true) true m 24 ((v.cells.toList.drop 25).take 16) = some x3 := by
    have e : DataW.trod enc Tryz.prog W 0 (fun _ => true) true m 24 ((v.cells.toList.drop 25).take (Tryz.prog.cellsOf 24)) = some x3 := hi 3 _ rfl
    rwa [show Tryz.prog.cellsOf 24 = 16 by kernel_rfl] at e
  obtain ⟨l4, n4, c0, f4, k4, b4⟩ := cells_p4 g0
  obtain ⟨o, l, q, c1, bo, bl, bp⟩ := cells_ps g1
  obtain ⟨l6, n6, c2, f6, k6, b6⟩ := cells_p6 g2
  obtain ⟨ow, kw, c3, fw⟩ := cells_arr Tryz.underlying24 (by kernel_rfl) (by kernel_rfl) g3
  refine ⟨⟨l4, n4, o, l, q, l6, n6, ow⟩, ?_, ⟨f4, k4, b4, bo, bl, bp, f6, k6, b6, fw, kw⟩⟩
  refine agg_of ?_ (by rw [edC_length k4 k6 kw]; omega)
  generalize v.cells.toList = L at *
  have e : L = (L.drop 0).take 5 ++ ((L.drop 5).take 3 ++ ((L.drop 8).take 17 ++ (L.drop 25).take 16)) := by
    rw [List.take_of_length_le (l := L.drop 25) (by simp; omega), ← cut_at L 8 17, ← cut_at L 5 3, ← cut_at L 0 5]
    rfl
  rw [e, c0, c1, c2, c3]
  rfl

end Go.Proofs.YtaebknkjhhcneaaGreatDoor

namespace Go.Proofs.YtaebknkjhhcneaaGreatDoor
open Go Go.RowKit
set_option linter.unusedVariables false
set_option linter.unusedSimpArgs false

theorem eqPS (d : Nat) (o l p : Int) (W : World) : (Op.equalIn (d + 2) 67 (PS o l p) (PS o l p)).run Tryz.prog W = .ok true W := by
  have h2 : ∀ (x : Int) (W : World), (Op.equalIn (d + 1) 3 (.int .i64 x) (.int .i64 x)).run Tryz.prog W = .ok true W := fun x W => by simp [Op.equalIn, go_sem]
  have h3 : ∀ (x : Int) (W : World), (Op.equalIn (d + 1) 49 (.int .u16 x) (.int .u16 x)).run Tryz.prog W = .ok true W := fun x W => by simp [Op.equalIn, go_sem]
  have hstd : Tryz.prog.stoodInHeld 67 = false := by kernel_rfl
  show (Op.equalIn ((d + 1) + 1) _ _ _).run Tryz.prog W = _
  rw [Op.equalIn]
  generalize Op.equalIn (d + 1) = E at *
  simp [go_sem, hstd, h2, h3]
theorem ports_form (r : Ru) : ∃ o l b e, portsE r = .tuple #[PS o l 0, .bool b, .int .i64 e] := by
  unfold portsE
  split
  · split
    · exact ⟨_, _, _, _, rfl⟩
    · exact ⟨_, _, _, _, rfl⟩
  · exact ⟨_, _, _, _, rfl⟩
theorem count_form (r : Ru) : ∃ n g, countE r = .tuple #[.int .u64 n, .int .i64 g] := by
  unfold countE
  split
  · exact ⟨_, _, rfl⟩
  · exact ⟨_, _, rfl⟩
theorem load_ps {W : World} {c : Nat} {o l p : Int} (h : W.heap[c]? = some (.cells (PSL o l p).toArray 67)) : (Instr.loadAt 67 (.pointer (some ⟨c, 0, none⟩))).run Tryz.prog W = .ok (PS o l p) W :=
  agg_load (t := 67) Tryz.isAgg67 Tryz.sizeOf67 rfl (CellsAt.of_blk h)

end Go.Proofs.YtaebknkjhhcneaaGreatDoor

namespace Go.Proofs.YtaebknkjhhcneaaGreatDoor
open Go Go.RowKit
set_option linter.unusedVariables false
set_option linter.unusedSimpArgs false

theorem or_1 (z : Int) (k : Nat) (hk : k < 8) (h : 0 ≤ z ∧ z < 256) : bits .or .u8 z (2 ^ k) = ((setN z.toNat k 1 : Nat) : Int) := by
  have hp : ∀ j, j < 8 → 2 ^ j < 256 := by decide
  have h1 := u8_or_nat z.toNat (2 ^ k) (by omega) (hp k hk)
  rw [← tab_or k hk _ (by omega), ← h1, Int.toNat_of_nonneg h.1]
  simp
theorem bit_v (v m : Nat) (h : v < 18446744073709551616) : bits .and .u64 ((v : Int) / 2 ^ m) 1 = ((bk v m : Nat) : Int) := by
  have := Fld.bit_u64 (v : Int) m (by omega) (by omega)
  rwa [Int.toNat_natCast] at this
theorem setL_same {zs : List Int} (h : FitB zs) (p : Nat) (hp : p < 8 * zs.length) (hb : bitN zs p = 0) : setL zs p 0 = zs := by
  refine row_ext (by simp) (setL_fit h _ _ (by decide)) h fun q hq => ?_
  rw [bitN_setL h p 0 q (by decide) hp]
  by_cases c : q = p
  · rw [if_pos c, c, hb]
  · rw [if_neg c]
theorem tdiv8 (p : Nat) : ((p : Nat) : Int).tdiv 8 = ((p / 8 : Nat) : Int) := by
  rw [show (8 : Int) = ((8 : Nat) : Int) from rfl, ← Int.ofNat_tdiv]
theorem tmod8 (p : Nat) : ((p : Nat) : Int).tmod 8 = ((p % 8 : Nat) : Int) := by
  rw [show (8 : Int) = ((8 : Nat) : Int) from rfl, ← Int.ofNat_tmod]
abbrev A16 (l : List Int) : Value := .agg (b8 l).toArray
theorem blk_b8 {W : World} {b : Nat} {l : List Int} {t : TypeId} (h : W.heap[b]? = some (.cells (b8 l).toArray t)) {j : Nat} (hj : j < l.length) : W.cell? ⟨b, j, none⟩ = some (.int .u8 (l[j]?.getD 0)) := by
  refine blk_cell h ?_
  rw [b8, List.getElem?_map, List.getElem?_eq_getElem hj]
  rfl


set_option maxHeartbeats 4000000 in
set_option maxRecDepth 100000 in
theorem set4_any (l : List Int) (at' n v : Nat) (w : World) (hf : FitB l) (hl : l.length = 4) (hn : n ≤ 64) (ha : at' + n ≤ 32) (hv : v < 18446744073709551616) (hz : ∀ i, i < n → bitN l (at' + i) = 0) :
    Calls Tryz.prog 104 #[A4L l, .int .i64 at', .int .i64 n, .int .u64 v] w fun e w' => e = .returned (A4L (writeL l at' n v n)) ∧ Below w.heap.size w w' := by
  obtain ⟨hb, hb2, hBw⟩ := two_box' w (.cells (b8 l).toArray 61) (.cells zero4L.toArray 61)
  generalize hW : (w.alloc (.cells (b8 l).toArray 61)).alloc (.cells zero4L.toArray 61) = W at *
  have HZ : Hid _ := hz
  have HB : Hid _ := hb
  have HB2 : Hid _ := hb2
  have HBW : Hid _ := hBw
  clear hz hb hb2 hBw
  go_enter Tryz.func104, Tryz.ntmps104
  go_wp2
  go_loopw [9] (fun i wr => ∃ k : Nat, k ≤ n ∧ i = .int .i64 k ∧ wr.heap[w.heap.size]? = some (.cells (b8 (writeL l at' n v k)).toArray 61) ∧ Only w.heap.size W wr) (fun i _ => n - (intOf i).toNat)
  case atStart => exact ⟨0, Nat.zero_le _, rfl, HB.out, Only.refl _ _⟩
  case round =>
    obtain ⟨k, hk, rfl, ho, hO⟩ := hrel
    by_cases hlt : k < n
    · obtain ⟨m, hm⟩ : ∃ m : Nat, m = n - 1 - k := ⟨_, rfl⟩
      have hmi : (n : Int) - 1 - (k : Int) = (m : Int) := by omega
      have hm64 : m < 64 := by omega
      obtain ⟨p, hp⟩ : ∃ p : Nat, p = at' + k := ⟨_, rfl⟩
      have hpi : (at' : Int) + (k : Int) = (p : Int) := by omega
      have hset : writeL l at' n v (k + 1) = setL (writeL l at' n v k) p (bk v m) := by rw [hp, hm]; rfl
      have hxl : (writeL l at' n v k).length = 4 := by simp [hl]
      have hxf : FitB (writeL l at' n v k) := writeL_fit hf _ _ _ _
      have hbit := bit_v v m hv
      have hbt : bitN (writeL l at' n v k) p = 0 := by
        rw [hp, bitN_writeL hf _ _ _ _ _ (by omega), if_neg (by omega)]
        exact HZ.out k hlt
      have hb2 := bk_lt v m
      have hfit := fit_at hxf (p / 8)
      have hcc := blk_b8 ho (j := p / 8) (by omega)
      have hop := blk_open ho (p / 8)
      have h8 := tdiv8 p
      have h9 := tmod8 p
      have h10 : (7 : Int) - ((p % 8 : Nat) : Int) = ((7 - p % 8 : Nat) : Int) := by omega
      have hor := or_1 ((writeL l at' n v k)[p / 8]?.getD 0) (7 - p % 8) (by omega) hfit
      have h256 := pow256 (7 - p % 8) (by omega)
      have hwr := wrap_u8 (7 - p % 8) (by omega)
      have hsetL : setL (writeL l at' n v k) p 1 = (writeL l at' n v k).set (p / 8) ((setN ((writeL l at' n v k)[p / 8]?.getD 0).toNat (7 - p % 8) 1 : Nat) : Int) := rfl
      have hsame := setL_same hxf p (by omega) hbt
      have hst := fun z : Int => blk_set ho (p / 8) (.int .u8 z)
      have hp8 : p / 8 < 4 := by omega
      by_cases hbk : bk v m = 1
      · rw [hbk] at hset hbit
        rw [hsetL] at hset
        generalize hy : writeL l at' n v (k + 1) = y at *
        generalize writeL l at' n v k = x at *
        generalize x[p / 8]?.getD 0 = z at *
        generalize setN z.toNat (7 - p % 8) 1 = s at *
        generalize 7 - p % 8 = r at *
        generalize p / 8 = c at *
        generalize p % 8 = c2 at *
        have HY : Hid _ := hy
        have HS : Hid _ := hset
        have HO : Hid _ := hst
        have HONE : Hid _ := hO.set c (.int .u8 (s : Int))
        clear hy hset hst hO ho hbt hsame hsetL hxl hxf hbk hb2 hfit hp hm HZ
        go_wp2
        refine ⟨⟨k + 1, by omega, by simp, ?_, HONE.out⟩, by simp [intOf]; omega⟩
        rw [HY.out, HS.out, ← b8_set]
        exact HO.out s
      · have hbk0 : bk v m = 0 := by omega
        rw [hbk0, hsame] at hset
        rw [hbk0] at hbit
        generalize hy : writeL l at' n v (k + 1) = y at *
        generalize writeL l at' n v k = x at *
        have HY : Hid _ := hy
        have HS : Hid _ := hset
        have HO : Hid _ := ho
        have HONE : Hid _ := hO
        clear hy hset hst hO ho hbt hsame hsetL hxl hxf hbk hbk0 hb2 hfit hcc hop h8 h9 h10 hor h256 hwr hp hm HZ
        go_wp2
        refine ⟨⟨k + 1, by omega, by simp, ?_, HONE.out⟩, by simp [intOf]; omega⟩
        rw [HY.out, HS.out]
        exact HO.out
    · obtain rfl : k = n := by omega
      have hlen : (b8 (writeL l at' k v k)).length = 4 := by simp [b8_length, hl]
      have HL : Hid _ := agg_load (t := 61) Tryz.isAgg61 Tryz.sizeOf61 hlen (CellsAt.of_blk ho)
      have hR := (hO.other (w.heap.size + 1) (by omega)).trans HB2.out
      obtain ⟨wE, hst, bE, honE⟩ := box_store Tryz.sizeOf61 hR rfl (b8 (writeL l at' k v k)) hlen (b8_one _)
      have HLV : Hid _ := agg_loadVar (t := 61) Tryz.isAgg61 Tryz.sizeOf61 hlen (CellsAt.of_blk bE)
      have HST : Hid _ := hst
      have HBE : Hid (Below w.heap.size w wE) := (HBW.out.trans (hO.below (Nat.le_refl _))).trans (honE.below (by omega))
      clear hst bE honE hR ho hO hlen HZ
      generalize hfin : writeL l at' k v k = fin at *
      have HFIN : Hid _ := hfin
      clear hfin
      go_wp2_with first
        | ((with_reducible show wpList _ _ _ _ _ _); refine armL (.tmp 4) 61 rfl rfl rfl HL.out ?_)
        | ((with_reducible show wpList _ _ _ _ _ _); refine armS (.tmp 8) (.tmp 41) 61 rfl rfl rfl rfl HST.out ?_)
      refine bodyPost_ret (res_cell1 Tryz.results104 rfl HLV.out) rfl ?_
      exact ⟨by rw [HFIN.out] <;> rfl, HBE.out⟩


set_option maxHeartbeats 4000000 in
set_option maxRecDepth 100000 in
theorem set6_any (l : List Int) (at' n v : Nat) (w : World) (hf : FitB l) (hl : l.length = 16) (hn : n ≤ 64) (ha : at' + n ≤ 128) (hv : v < 18446744073709551616) (hz : ∀ i, i < n → bitN l (at' + i) = 0) :
    Calls Tryz.prog 103 #[A16 l, .int .i64 at', .int .i64 n, .int .u64 v] w fun e w' => e = .returned (A16 (writeL l at' n v n)) ∧ Below w.heap.size w w' := by
  obtain ⟨hb, hb2, hBw⟩ := two_box' w (.cells (b8 l).toArray 24) (.cells zero16V.toArray 24)
  generalize hW : (w.alloc (.cells (b8 l).toArray 24)).alloc (.cells zero16V.toArray 24) = W at *
  have HZ : Hid _ := hz
  have HB : Hid _ := hb
  have HB2 : Hid _ := hb2
  have HBW : Hid _ := hBw
  clear hz hb hb2 hBw
  go_enter Tryz.func103, Tryz.ntmps103
  go_wp2
  go_loopw [9] (fun i wr => ∃ k : Nat, k ≤ n ∧ i = .int .i64 k ∧ wr.heap[w.heap.size]? = some (.cells (b8 (writeL l at' n v k)).toArray 24) ∧ Only w.heap.size W wr) (fun i _ => n - (intOf i).toNat)
  case atStart => exact ⟨0, Nat.zero_le _, rfl, HB.out, Only.refl _ _⟩
  case round =>
    obtain ⟨k, hk, rfl, ho, hO⟩ := hrel
    by_cases hlt : k < n
    · obtain ⟨m, hm⟩ : ∃ m : Nat, m = n - 1 - k := ⟨_, rfl⟩
      have hmi : (n : Int) - 1 - (k : Int) = (m : Int) := by omega
      have hm64 : m < 64 := by omega
      obtain ⟨p, hp⟩ : ∃ p : Nat, p = at' + k := ⟨_, rfl⟩
      have hpi : (at' : Int) + (k : Int) = (p : Int) := by omega
      have hset : writeL l at' n v (k + 1) = setL (writeL l at' n v k) p (bk v m) := by rw [hp, hm]; rfl
      have hxl : (writeL l at' n v k).length = 16 := by simp [hl]
      have hxf : FitB (writeL l at' n v k) := writeL_fit hf _ _ _ _
      have hbit := bit_v v m hv
      have hbt : bitN (writeL l at' n v k) p = 0 := by
        rw [hp, bitN_writeL hf _ _ _ _ _ (by omega), if_neg (by omega)]
        exact HZ.out k hlt
      have hb2 := bk_lt v m
      have hfit := fit_at hxf (p / 8)
      have hcc := blk_b8 ho (j := p / 8) (by omega)
      have hop := blk_open ho (p / 8)
      have h8 := tdiv8 p
      have h9 := tmod8 p
      have h10 : (7 : Int) - ((p % 8 : Nat) : Int) = ((7 - p % 8 : Nat) : Int) := by omega
      have hor := or_1 ((writeL l at' n v k)[p / 8]?.getD 0) (7 - p % 8) (by omega) hfit
      have h256 := pow256 (7 - p % 8) (by omega)
      have hwr := wrap_u8 (7 - p % 8) (by omega)
      have hsetL : setL (writeL l at' n v k) p 1 = (writeL l at' n v k).set (p / 8) ((setN ((writeL l at' n v k)[p / 8]?.getD 0).toNat (7 - p % 8) 1 : Nat) : Int) := rfl
      have hsame := setL_same hxf p (by omega) hbt
      have hst := fun z : Int => blk_set ho (p / 8) (.int .u8 z)
      have hp8 : p / 8 < 16 := by omega
      by_cases hbk : bk v m = 1
      · rw [hbk] at hset hbit
        rw [hsetL] at hset
        generalize hy : writeL l at' n v (k + 1) = y at *
        generalize writeL l at' n v k = x at *
        generalize x[p / 8]?.getD 0 = z at *
        generalize setN z.toNat (7 - p % 8) 1 = s at *
        generalize 7 - p % 8 = r at *
        generalize p / 8 = c at *
        generalize p % 8 = c2 at *
        have HY : Hid _ := hy
        have HS : Hid _ := hset
        have HO : Hid _ := hst
        have HONE : Hid _ := hO.set c (.int .u8 (s : Int))
        clear hy hset hst hO ho hbt hsame hsetL hxl hxf hbk hb2 hfit hp hm HZ
        go_wp2
        refine ⟨⟨k + 1, by omega, by simp, ?_, HONE.out⟩, by simp [intOf]; omega⟩
        rw [HY.out, HS.out, ← b8_set]
        exact HO.out s
      · have hbk0 : bk v m = 0 := by omega
        rw [hbk0, hsame] at hset
        rw [hbk0] at hbit
        generalize hy : writeL l at' n v (k + 1) = y at *
        generalize writeL l at' n v k = x at *
        have HY : Hid _ := hy
        have HS : Hid _ := hset
        have HO : Hid _ := ho
        have HONE : Hid _ := hO
        clear hy hset hst hO ho hbt hsame hsetL hxl hxf hbk hbk0 hb2 hfit hcc hop h8 h9 h10 hor h256 hwr hp hm HZ
        go_wp2
        refine ⟨⟨k + 1, by omega, by simp, ?_, HONE.out⟩, by simp [intOf]; omega⟩
        rw [HY.out, HS.out]
        exact HO.out
    · obtain rfl : k = n := by omega
      have hlen : (b8 (writeL l at' k v k)).length = 16 := by simp [b8_length, hl]
      have HL : Hid _ := agg_load (t := 24) Tryz.isAgg24 Tryz.sizeOf24 hlen (CellsAt.of_blk ho)
      have hR := (hO.other (w.heap.size + 1) (by omega)).trans HB2.out
      obtain ⟨wE, hst, bE, honE⟩ := box_store Tryz.sizeOf24 hR rfl (b8 (writeL l at' k v k)) hlen (b8_one _)
      have HLV : Hid _ := agg_loadVar (t := 24) Tryz.isAgg24 Tryz.sizeOf24 hlen (CellsAt.of_blk bE)
      have HST : Hid _ := hst
      have HBE : Hid (Below w.heap.size w wE) := (HBW.out.trans (hO.below (Nat.le_refl _))).trans (honE.below (by omega))
      clear hst bE honE hR ho hO hlen HZ
      generalize hfin : writeL l at' k v k = fin at *
      have HFIN : Hid _ := hfin
      clear hfin
      go_wp2_with first
        | ((with_reducible show wpList _ _ _ _ _ _); refine armL (.tmp 4) 24 rfl rfl rfl HL.out ?_)
        | ((with_reducible show wpList _ _ _ _ _ _); refine armS (.tmp 8) (.tmp 41) 24 rfl rfl rfl rfl HST.out ?_)
      refine bodyPost_ret (res_cell1 Tryz.results103 rfl HLV.out) rfl ?_
      exact ⟨by rw [HFIN.out] <;> rfl, HBE.out⟩

end Go.Proofs.YtaebknkjhhcneaaGreatDoor
