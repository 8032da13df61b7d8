/-
  whole of a datagram of UDP; ParseUDP4 and ParseUDP6 of package segment.
-/
import Derived.Test.YtnlaomjhnndblaaSk2
import Derived.Test.YtnlaomjhnndblaaRg
namespace Go.Proofs.Ytnlaomjhnndblaa
open Go Go.RowKit Go.Shelf
set_option linter.unusedVariables false
set_option linter.unusedSimpArgs false

set_option maxHeartbeats 2000000 in
set_option maxRecDepth 100000 in
theorem whole_calls (R : Nat) (vl : Value) (s d k : Int) (ys : List Int) (w : World) (hb : w.heap[R]? = some (.cells [vl, .int .u16 s, .int .u16 d, .slice none 0 0, .int .u16 k].toArray 84)) (hl : BytesAt w.heap.size w vl ys) :
    Calls Try.prog 50 #[.pointer (some ⟨R, 0, none⟩)] w fun e w' => ∃ vd, e = .returned (.agg #[.int .u16 s, .int .u16 d, vd]) ∧ BytesAt w'.heap.size w' vd ys ∧ (ys.length = 0 ∨ ∃ b off n k, vd = .slice (some ⟨b, off, none⟩) n k ∧ w.heap.size ≤ b) ∧ But R w w' ∧ w'.heap[R]? = some (.cells [vl, .int .u16 s, .int .u16 d, vd, .int .u16 k].toArray 84) := by
  have hR : R < w.heap.size := (Array.getElem?_eq_some_iff.1 hb).1
  obtain ⟨W0, hW0⟩ : ∃ W0, w.alloc (.cells [.int .u16 0, .int .u16 0, .slice none 0 0].toArray 31) = W0 := ⟨_, rfl⟩
  have b0 := blk_new w (.cells [.int .u16 0, .int .u16 0, .slice none 0 0].toArray 31)
  have hB0 := (Below.refl w.heap.size w).alloc (Nat.le_refl _) (.cells [.int .u16 0, .int .u16 0, .slice none 0 0].toArray 31)
  rw [hW0] at b0 hB0
  have bR := blk_on hb hB0
  have c0 := blk_cell bR (j := 0) rfl
  have HC : Hid _ := Clone_calls vl ys W0 (hl.later hB0)
  have BR : Hid _ := bR
  have B0 : Hid _ := b0
  have HB0 : Hid _ := hB0
  obtain ⟨al, cl, rfl, _⟩ := hl.val
  clear bR b0 hB0 hl hb
  go_enter Try.func50, Try.ntmps50
  go_wp2_with fail
  refine Calls.mono HC.out ?_
  rintro _ w1 ⟨vd, rfl, hvd, hb1, hloc⟩
  have bR1 := blk_on BR.out hb1
  have b01 := blk_on B0.out hb1
  have c3 := blk_cell bR1 (j := 3) rfl
  have f3 := blk_open bR1 3
  obtain ⟨ad, cd, rfl, _⟩ := hvd.val
  have bR2 := blk_set bR1 3 (.slice ad ys.length cd)
  have b02 := blk_set_other b01 (by omega : w.heap.size ≠ R) 3 (.slice ad ys.length cd)
  have hvd2 : BytesAt (w1.setCell ⟨R, 3, none⟩ (.slice ad ys.length cd)).heap.size (w1.setCell ⟨R, 3, none⟩ (.slice ad ys.length cd)) (.slice ad ys.length cd) ys := bytes_only hvd ((Only.refl R w1).set 3 _) (hloc.imp id (fun ⟨b, off, n, k', e, hbb⟩ => ⟨b, off, n, k', e, Nat.lt_of_lt_of_le hR (Nat.le_trans HB0.out.size hbb)⟩))
  have hbut : But R w (w1.setCell ⟨R, 3, none⟩ (.slice ad ys.length cd)) := ((But.of_below (R := R) HB0.out).trans (.of_below hb1)).trans (.of_only ((Only.refl R w1).set 3 _))
  have HL : Hid _ := agg_load (t := 31) Try.isAgg31 Try.sizeOf31 (vs := [.int .u16 s, .int .u16 d, .slice ad ys.length cd]) rfl (CellsAt.part (xs := [.slice al ys.length cl]) (ys := [.int .u16 s, .int .u16 d, .slice ad ys.length cd]) (zs := [.int .u16 k]) (CellsAt.of_blk bR2))
  obtain ⟨wE, hst, bE, hon⟩ := box_store Try.sizeOf31 b02 rfl [.int .u16 s, .int .u16 d, .slice ad ys.length cd] rfl (by simp [Value.oneCell'])
  have HST : Hid _ := hst
  have HBE : Hid (But R w wE) := hbut.off hon (Nat.le_refl _)
  have BRE : Hid (wE.heap[R]? = some (.cells [.slice al ys.length cl, .int .u16 s, .int .u16 d, .slice ad ys.length cd, .int .u16 k].toArray 84)) := (hon.other R (by omega)).trans bR2
  have HVD : Hid (BytesAt wE.heap.size wE (.slice ad ys.length cd) ys) := bytes_only hvd2 hon (hloc.imp id (fun ⟨b, off, n, k', e, hbb⟩ => ⟨b, off, n, k', e, Nat.lt_of_lt_of_le (Array.getElem?_eq_some_iff.1 B0.out).1 hbb⟩))
  have BE : Hid _ := bE
  have HLOC : Hid (ys.length = 0 ∨ ∃ b off n k, Value.slice ad ys.length cd = .slice (some ⟨b, off, none⟩) n k ∧ w.heap.size ≤ b) := hloc.imp id (fun ⟨b, off, n, k', e, hbb⟩ => ⟨b, off, n, k', e, Nat.le_trans HB0.out.size hbb⟩)
  clear hst hon bE hbut hvd2 hvd hb1 bR1 b01 bR2 b02 hloc HC c0
  go_wp2_with first
    | ((with_reducible show wpList _ _ _ _ _ _); refine arm_load rfl (.tmp 15) 31 rfl rfl HL.out ?_)
    | ((with_reducible show wpList _ _ _ _ _ _); refine arm_store rfl (.tmp 2) (.tmp 16) 31 rfl rfl rfl HST.out ?_)
  exact bodyPost_ret (res1t rfl rfl (agg_loadVar Try.isAgg31 Try.sizeOf31 rfl (CellsAt.of_blk BE.out))) rfl ⟨_, rfl, HVD.out, HLOC.out, HBE.out, BRE.out⟩

end Go.Proofs.Ytnlaomjhnndblaa
