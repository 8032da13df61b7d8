/-
  The walk of the statement AddrSets out of contracts.
-/
import Derived.Test.YthejkiocndoflaaDoorHi
namespace Go.Proofs.YthejkiocndoflaaDoor
open Go Go.RowKit
set_option linter.unusedVariables false
set_option linter.unusedSimpArgs false

def One (f : FuncId) (args : Array Value) (v : Value) : Prop := ∀ w : World, Calls Tryd.prog f args w (fun e w' => e = .returned v ∧ Below w.heap.size w w')

/-- The boxes of the four arguments, behind a first call. -/
theorem sets_boxes (a0 a1 a2 a3 n b0 b1 b2 b3 m c0 c1 c2 c3 k d0 d1 d2 d3 : Int) (w w1 : World) (hb : Below ((((w.alloc (.cells #[.int .u8 a0, .int .u8 a1, .int .u8 a2, .int .u8 a3, .int .i64 n] 38)).alloc (.cells #[.int .u8 b0, .int .u8 b1, .int .u8 b2, .int .u8 b3, .int .i64 m] 38)).alloc (.cells #[.int .u8 c0, .int .u8 c1, .int .u8 c2, .int .u8 c3, .int .i64 k] 38)).alloc (.cells #[.int .u8 d0, .int .u8 d1, .int .u8 d2, .int .u8 d3] 23)).heap.size ((((w.alloc (.cells #[.int .u8 a0, .int .u8 a1, .int .u8 a2, .int .u8 a3, .int .i64 n] 38)).alloc (.cells #[.int .u8 b0, .int .u8 b1, .int .u8 b2, .int .u8 b3, .int .i64 m] 38)).alloc (.cells #[.int .u8 c0, .int .u8 c1, .int .u8 c2, .int .u8 c3, .int .i64 k] 38)).alloc (.cells #[.int .u8 d0, .int .u8 d1, .int .u8 d2, .int .u8 d3] 23)) w1) :
    Below w.heap.size w w1 ∧ w1.heap[w.heap.size]? = some (.cells #[.int .u8 a0, .int .u8 a1, .int .u8 a2, .int .u8 a3, .int .i64 n] 38) ∧ w1.heap[w.heap.size + 1]? = some (.cells #[.int .u8 b0, .int .u8 b1, .int .u8 b2, .int .u8 b3, .int .i64 m] 38) ∧ w1.heap[w.heap.size + 1 + 1]? = some (.cells #[.int .u8 c0, .int .u8 c1, .int .u8 c2, .int .u8 c3, .int .i64 k] 38) ∧ w1.heap[w.heap.size + 1 + 1 + 1]? = some (.cells #[.int .u8 d0, .int .u8 d1, .int .u8 d2, .int .u8 d3] 23) := by
  have hB0 : Below w.heap.size w ((((w.alloc (.cells #[.int .u8 a0, .int .u8 a1, .int .u8 a2, .int .u8 a3, .int .i64 n] 38)).alloc (.cells #[.int .u8 b0, .int .u8 b1, .int .u8 b2, .int .u8 b3, .int .i64 m] 38)).alloc (.cells #[.int .u8 c0, .int .u8 c1, .int .u8 c2, .int .u8 c3, .int .i64 k] 38)).alloc (.cells #[.int .u8 d0, .int .u8 d1, .int .u8 d2, .int .u8 d3] 23)) := ((((Below.refl _ w).alloc (Nat.le_refl _) _).alloc (by simp) _).alloc (by simp; omega) _).alloc (by simp; omega) _
  have p0 : ((((w.alloc (.cells #[.int .u8 a0, .int .u8 a1, .int .u8 a2, .int .u8 a3, .int .i64 n] 38)).alloc (.cells #[.int .u8 b0, .int .u8 b1, .int .u8 b2, .int .u8 b3, .int .i64 m] 38)).alloc (.cells #[.int .u8 c0, .int .u8 c1, .int .u8 c2, .int .u8 c3, .int .i64 k] 38)).alloc (.cells #[.int .u8 d0, .int .u8 d1, .int .u8 d2, .int .u8 d3] 23)).heap[w.heap.size]? = some (.cells #[.int .u8 a0, .int .u8 a1, .int .u8 a2, .int .u8 a3, .int .i64 n] 38) := blk_alloc (blk_alloc (blk_alloc (alloc_new _ _) _) _) _
  have q0 : ((((w.alloc (.cells #[.int .u8 a0, .int .u8 a1, .int .u8 a2, .int .u8 a3, .int .i64 n] 38)).alloc (.cells #[.int .u8 b0, .int .u8 b1, .int .u8 b2, .int .u8 b3, .int .i64 m] 38)).alloc (.cells #[.int .u8 c0, .int .u8 c1, .int .u8 c2, .int .u8 c3, .int .i64 k] 38)).alloc (.cells #[.int .u8 d0, .int .u8 d1, .int .u8 d2, .int .u8 d3] 23)).heap[w.heap.size + 1]? = some (.cells #[.int .u8 b0, .int .u8 b1, .int .u8 b2, .int .u8 b3, .int .i64 m] 38) := blk_alloc (blk_alloc (alloc_new2 _ _ _) _) _
  have r0 : ((((w.alloc (.cells #[.int .u8 a0, .int .u8 a1, .int .u8 a2, .int .u8 a3, .int .i64 n] 38)).alloc (.cells #[.int .u8 b0, .int .u8 b1, .int .u8 b2, .int .u8 b3, .int .i64 m] 38)).alloc (.cells #[.int .u8 c0, .int .u8 c1, .int .u8 c2, .int .u8 c3, .int .i64 k] 38)).alloc (.cells #[.int .u8 d0, .int .u8 d1, .int .u8 d2, .int .u8 d3] 23)).heap[w.heap.size + 1 + 1]? = some (.cells #[.int .u8 c0, .int .u8 c1, .int .u8 c2, .int .u8 c3, .int .i64 k] 38) := by
    have := alloc_new ((w.alloc (.cells #[.int .u8 a0, .int .u8 a1, .int .u8 a2, .int .u8 a3, .int .i64 n] 38)).alloc (.cells #[.int .u8 b0, .int .u8 b1, .int .u8 b2, .int .u8 b3, .int .i64 m] 38)) (.cells #[.int .u8 c0, .int .u8 c1, .int .u8 c2, .int .u8 c3, .int .i64 k] 38)
    simp only [World.size_alloc] at this
    exact blk_alloc this _
  have s0 : ((((w.alloc (.cells #[.int .u8 a0, .int .u8 a1, .int .u8 a2, .int .u8 a3, .int .i64 n] 38)).alloc (.cells #[.int .u8 b0, .int .u8 b1, .int .u8 b2, .int .u8 b3, .int .i64 m] 38)).alloc (.cells #[.int .u8 c0, .int .u8 c1, .int .u8 c2, .int .u8 c3, .int .i64 k] 38)).alloc (.cells #[.int .u8 d0, .int .u8 d1, .int .u8 d2, .int .u8 d3] 23)).heap[w.heap.size + 1 + 1 + 1]? = some (.cells #[.int .u8 d0, .int .u8 d1, .int .u8 d2, .int .u8 d3] 23) := by
    have := alloc_new (((w.alloc (.cells #[.int .u8 a0, .int .u8 a1, .int .u8 a2, .int .u8 a3, .int .i64 n] 38)).alloc (.cells #[.int .u8 b0, .int .u8 b1, .int .u8 b2, .int .u8 b3, .int .i64 m] 38)).alloc (.cells #[.int .u8 c0, .int .u8 c1, .int .u8 c2, .int .u8 c3, .int .i64 k] 38)) (.cells #[.int .u8 d0, .int .u8 d1, .int .u8 d2, .int .u8 d3] 23)
    simpa only [World.size_alloc] using this
  exact ⟨hB0.trans (hb.mono hB0.size), blk_on p0 hb, blk_on q0 hb, blk_on r0 hb, blk_on s0 hb⟩

set_option maxHeartbeats 4000000 in
set_option maxRecDepth 100000 in
/-- Where one of them may not be. -/
theorem sets_bad (a0 a1 a2 a3 n b0 b1 b2 b3 m c0 c1 c2 c3 k d0 d1 d2 d3 : Int) (x y z u : Bool) (w : World) (ok1 ok2 ok3 : Bool) (hbad : (ok1 && ok2 && ok3) = false)
    (h1 : One 32 #[P4 a0 a1 a2 a3 n, P4 b0 b1 b2 b3 m] (.tuple #[.bool x, .int .i64 (if ok1 && ok2 then 0 else 22)]))
    (h2 : One 32 #[P4 b0 b1 b2 b3 m, P4 a0 a1 a2 a3 n] (.tuple #[.bool y, .int .i64 (if ok2 && ok1 then 0 else 22)]))
    (h3 : One 32 #[P4 b0 b1 b2 b3 m, P4 c0 c1 c2 c3 k] (.tuple #[.bool z, .int .i64 (if ok2 && ok3 then 0 else 22)]))
    (h4 : One 32 #[P4 a0 a1 a2 a3 n, P4 c0 c1 c2 c3 k] (.tuple #[.bool u, .int .i64 (if ok1 && ok3 then 0 else 22)]))
    (g1 : One 39 #[P4 a0 a1 a2 a3 n] (.int .i64 (if ok1 then 0 else 22)))
    (g2 : One 39 #[P4 b0 b1 b2 b3 m] (.int .i64 (if ok2 then 0 else 22)))
    (g3 : One 39 #[P4 c0 c1 c2 c3 k] (.int .i64 (if ok3 then 0 else 22)))
    (h6 : ∀ w' : World, Below w.heap.size w w' → Calls Tryd.prog 17 #[] w' fun e w'' => e = .returned (.bool true) ∧ Below w'.heap.size w' w'') :
    Calls Tryd.prog 11 #[P4 a0 a1 a2 a3 n, P4 b0 b1 b2 b3 m, P4 c0 c1 c2 c3 k, A4 d0 d1 d2 d3] w fun e w' => e = .returned (.bool true) ∧ Below w.heap.size w w' := by
  have G1 : Hid _ := g1
  have G2 : Hid _ := g2
  have G3 : Hid _ := g3
  clear g1 g2 g3
  cases ok1 <;> cases ok2 <;> cases ok3
  · have H6 : Hid _ := h6
    have HB0 : Hid (Below w.heap.size w ((((w.alloc (.cells #[.int .u8 a0, .int .u8 a1, .int .u8 a2, .int .u8 a3, .int .i64 n] 38)).alloc (.cells #[.int .u8 b0, .int .u8 b1, .int .u8 b2, .int .u8 b3, .int .i64 m] 38)).alloc (.cells #[.int .u8 c0, .int .u8 c1, .int .u8 c2, .int .u8 c3, .int .i64 k] 38)).alloc (.cells #[.int .u8 d0, .int .u8 d1, .int .u8 d2, .int .u8 d3] 23))) := ((((Below.refl _ w).alloc (Nat.le_refl _) _).alloc (by simp) _).alloc (by simp; omega) _).alloc (by simp; omega) _
    have hbx := sets_boxes a0 a1 a2 a3 n b0 b1 b2 b3 m c0 c1 c2 c3 k d0 d1 d2 d3 w
    have HBX : Hid _ := hbx
    clear h6 hbx
    go_enter Tryd.func11, Tryd.ntmps11
    go_wp2_with fail
    refine Calls.mono (H6.out _ HB0.out) ?_
    rintro e0 w1 ⟨rfl, hb⟩
    obtain ⟨hbl, bp, bq, br, ba⟩ := HBX.out w1 hb
    clear HBX HB0 H6 hb
    obtain ⟨ap0, ap1, ap2, ap3, ap4⟩ := cell5_of bp
    obtain ⟨aq0, aq1, aq2, aq3, aq4⟩ := cell5_of bq
    obtain ⟨kp0, kp1, kp2, kp3, kp4⟩ := Hi.cell5 bp
    obtain ⟨kq0, kq1, kq2, kq3, kq4⟩ := Hi.cell5 bq
    obtain ⟨kr0, kr1, kr2, kr3, kr4⟩ := Hi.cell5 br
    obtain ⟨kd0, kd1, kd2, kd3⟩ := Hi.cell4 ba
    clear bp bq br ba
    go_wp2_with fail
    refine Calls.mono (h1 _) ?_
    rintro e1 w2 ⟨rfl, hb⟩
    obtain ⟨x2, rfl⟩ : ∃ x : Hi w1, w2 = x.W := ⟨⟨w2, hb⟩, rfl⟩
    clear hb ap0 ap1 ap2 ap3 ap4 aq0 aq1 aq2 aq3 aq4
    go_wp2_with fail
    refine Calls.mono (Hi.calls (h2 _)) ?_
    rintro e2 w3 ⟨rfl, x3, rfl⟩
    go_wp2_with fail
    refine Calls.mono (Hi.calls (h3 _)) ?_
    rintro e3 w4 ⟨rfl, x4, rfl⟩
    go_wp2_with fail
    refine Calls.mono (Hi.calls (h4 _)) ?_
    rintro e4 w5 ⟨rfl, x5, rfl⟩
    go_wp2_with fail
    refine Calls.mono (Hi.calls (G1.out _)) ?_
    rintro e5 w6 ⟨rfl, x6, rfl⟩
    go_wp2
    go_ret
    exact ⟨rfl, hbl.trans (x6.below.mono hbl.size)⟩
  · have H6 : Hid _ := h6
    have HB0 : Hid (Below w.heap.size w ((((w.alloc (.cells #[.int .u8 a0, .int .u8 a1, .int .u8 a2, .int .u8 a3, .int .i64 n] 38)).alloc (.cells #[.int .u8 b0, .int .u8 b1, .int .u8 b2, .int .u8 b3, .int .i64 m] 38)).alloc (.cells #[.int .u8 c0, .int .u8 c1, .int .u8 c2, .int .u8 c3, .int .i64 k] 38)).alloc (.cells #[.int .u8 d0, .int .u8 d1, .int .u8 d2, .int .u8 d3] 23))) := ((((Below.refl _ w).alloc (Nat.le_refl _) _).alloc (by simp) _).alloc (by simp; omega) _).alloc (by simp; omega) _
    have hbx := sets_boxes a0 a1 a2 a3 n b0 b1 b2 b3 m c0 c1 c2 c3 k d0 d1 d2 d3 w
    have HBX : Hid _ := hbx
    clear h6 hbx
    go_enter Tryd.func11, Tryd.ntmps11
    go_wp2_with fail
    refine Calls.mono (H6.out _ HB0.out) ?_
    rintro e0 w1 ⟨rfl, hb⟩
    obtain ⟨hbl, bp, bq, br, ba⟩ := HBX.out w1 hb
    clear HBX HB0 H6 hb
    obtain ⟨ap0, ap1, ap2, ap3, ap4⟩ := cell5_of bp
    obtain ⟨aq0, aq1, aq2, aq3, aq4⟩ := cell5_of bq
    obtain ⟨kp0, kp1, kp2, kp3, kp4⟩ := Hi.cell5 bp
    obtain ⟨kq0, kq1, kq2, kq3, kq4⟩ := Hi.cell5 bq
    obtain ⟨kr0, kr1, kr2, kr3, kr4⟩ := Hi.cell5 br
    obtain ⟨kd0, kd1, kd2, kd3⟩ := Hi.cell4 ba
    clear bp bq br ba
    go_wp2_with fail
    refine Calls.mono (h1 _) ?_
    rintro e1 w2 ⟨rfl, hb⟩
    obtain ⟨x2, rfl⟩ : ∃ x : Hi w1, w2 = x.W := ⟨⟨w2, hb⟩, rfl⟩
    clear hb ap0 ap1 ap2 ap3 ap4 aq0 aq1 aq2 aq3 aq4
    go_wp2_with fail
    refine Calls.mono (Hi.calls (h2 _)) ?_
    rintro e2 w3 ⟨rfl, x3, rfl⟩
    go_wp2_with fail
    refine Calls.mono (Hi.calls (h3 _)) ?_
    rintro e3 w4 ⟨rfl, x4, rfl⟩
    go_wp2_with fail
    refine Calls.mono (Hi.calls (h4 _)) ?_
    rintro e4 w5 ⟨rfl, x5, rfl⟩
    go_wp2_with fail
    refine Calls.mono (Hi.calls (G1.out _)) ?_
    rintro e5 w6 ⟨rfl, x6, rfl⟩
    go_wp2
    go_ret
    exact ⟨rfl, hbl.trans (x6.below.mono hbl.size)⟩
  · have H6 : Hid _ := h6
    have HB0 : Hid (Below w.heap.size w ((((w.alloc (.cells #[.int .u8 a0, .int .u8 a1, .int .u8 a2, .int .u8 a3, .int .i64 n] 38)).alloc (.cells #[.int .u8 b0, .int .u8 b1, .int .u8 b2, .int .u8 b3, .int .i64 m] 38)).alloc (.cells #[.int .u8 c0, .int .u8 c1, .int .u8 c2, .int .u8 c3, .int .i64 k] 38)).alloc (.cells #[.int .u8 d0, .int .u8 d1, .int .u8 d2, .int .u8 d3] 23))) := ((((Below.refl _ w).alloc (Nat.le_refl _) _).alloc (by simp) _).alloc (by simp; omega) _).alloc (by simp; omega) _
    have hbx := sets_boxes a0 a1 a2 a3 n b0 b1 b2 b3 m c0 c1 c2 c3 k d0 d1 d2 d3 w
    have HBX : Hid _ := hbx
    clear h6 hbx
    go_enter Tryd.func11, Tryd.ntmps11
    go_wp2_with fail
    refine Calls.mono (H6.out _ HB0.out) ?_
    rintro e0 w1 ⟨rfl, hb⟩
    obtain ⟨hbl, bp, bq, br, ba⟩ := HBX.out w1 hb
    clear HBX HB0 H6 hb
    obtain ⟨ap0, ap1, ap2, ap3, ap4⟩ := cell5_of bp
    obtain ⟨aq0, aq1, aq2, aq3, aq4⟩ := cell5_of bq
    obtain ⟨kp0, kp1, kp2, kp3, kp4⟩ := Hi.cell5 bp
    obtain ⟨kq0, kq1, kq2, kq3, kq4⟩ := Hi.cell5 bq
    obtain ⟨kr0, kr1, kr2, kr3, kr4⟩ := Hi.cell5 br
    obtain ⟨kd0, kd1, kd2, kd3⟩ := Hi.cell4 ba
    clear bp bq br ba
    go_wp2_with fail
    refine Calls.mono (h1 _) ?_
    rintro e1 w2 ⟨rfl, hb⟩
    obtain ⟨x2, rfl⟩ : ∃ x : Hi w1, w2 = x.W := ⟨⟨w2, hb⟩, rfl⟩
    clear hb ap0 ap1 ap2 ap3 ap4 aq0 aq1 aq2 aq3 aq4
    go_wp2_with fail
    refine Calls.mono (Hi.calls (h2 _)) ?_
    rintro e2 w3 ⟨rfl, x3, rfl⟩
    go_wp2_with fail
    refine Calls.mono (Hi.calls (h3 _)) ?_
    rintro e3 w4 ⟨rfl, x4, rfl⟩
    go_wp2_with fail
    refine Calls.mono (Hi.calls (h4 _)) ?_
    rintro e4 w5 ⟨rfl, x5, rfl⟩
    go_wp2_with fail
    refine Calls.mono (Hi.calls (G1.out _)) ?_
    rintro e5 w6 ⟨rfl, x6, rfl⟩
    go_wp2
    go_ret
    exact ⟨rfl, hbl.trans (x6.below.mono hbl.size)⟩
  · have H6 : Hid _ := h6
    have HB0 : Hid (Below w.heap.size w ((((w.alloc (.cells #[.int .u8 a0, .int .u8 a1, .int .u8 a2, .int .u8 a3, .int .i64 n] 38)).alloc (.cells #[.int .u8 b0, .int .u8 b1, .int .u8 b2, .int .u8 b3, .int .i64 m] 38)).alloc (.cells #[.int .u8 c0, .int .u8 c1, .int .u8 c2, .int .u8 c3, .int .i64 k] 38)).alloc (.cells #[.int .u8 d0, .int .u8 d1, .int .u8 d2, .int .u8 d3] 23))) := ((((Below.refl _ w).alloc (Nat.le_refl _) _).alloc (by simp) _).alloc (by simp; omega) _).alloc (by simp; omega) _
    have hbx := sets_boxes a0 a1 a2 a3 n b0 b1 b2 b3 m c0 c1 c2 c3 k d0 d1 d2 d3 w
    have HBX : Hid _ := hbx
    clear h6 hbx
    go_enter Tryd.func11, Tryd.ntmps11
    go_wp2_with fail
    refine Calls.mono (H6.out _ HB0.out) ?_
    rintro e0 w1 ⟨rfl, hb⟩
    obtain ⟨hbl, bp, bq, br, ba⟩ := HBX.out w1 hb
    clear HBX HB0 H6 hb
    obtain ⟨ap0, ap1, ap2, ap3, ap4⟩ := cell5_of bp
    obtain ⟨aq0, aq1, aq2, aq3, aq4⟩ := cell5_of bq
    obtain ⟨kp0, kp1, kp2, kp3, kp4⟩ := Hi.cell5 bp
    obtain ⟨kq0, kq1, kq2, kq3, kq4⟩ := Hi.cell5 bq
    obtain ⟨kr0, kr1, kr2, kr3, kr4⟩ := Hi.cell5 br
    obtain ⟨kd0, kd1, kd2, kd3⟩ := Hi.cell4 ba
    clear bp bq br ba
    go_wp2_with fail
    refine Calls.mono (h1 _) ?_
    rintro e1 w2 ⟨rfl, hb⟩
    obtain ⟨x2, rfl⟩ : ∃ x : Hi w1, w2 = x.W := ⟨⟨w2, hb⟩, rfl⟩
    clear hb ap0 ap1 ap2 ap3 ap4 aq0 aq1 aq2 aq3 aq4
    go_wp2_with fail
    refine Calls.mono (Hi.calls (h2 _)) ?_
    rintro e2 w3 ⟨rfl, x3, rfl⟩
    go_wp2_with fail
    refine Calls.mono (Hi.calls (h3 _)) ?_
    rintro e3 w4 ⟨rfl, x4, rfl⟩
    go_wp2_with fail
    refine Calls.mono (Hi.calls (h4 _)) ?_
    rintro e4 w5 ⟨rfl, x5, rfl⟩
    go_wp2_with fail
    refine Calls.mono (Hi.calls (G1.out _)) ?_
    rintro e5 w6 ⟨rfl, x6, rfl⟩
    go_wp2
    go_ret
    exact ⟨rfl, hbl.trans (x6.below.mono hbl.size)⟩
  · have H6 : Hid _ := h6
    have HB0 : Hid (Below w.heap.size w ((((w.alloc (.cells #[.int .u8 a0, .int .u8 a1, .int .u8 a2, .int .u8 a3, .int .i64 n] 38)).alloc (.cells #[.int .u8 b0, .int .u8 b1, .int .u8 b2, .int .u8 b3, .int .i64 m] 38)).alloc (.cells #[.int .u8 c0, .int .u8 c1, .int .u8 c2, .int .u8 c3, .int .i64 k] 38)).alloc (.cells #[.int .u8 d0, .int .u8 d1, .int .u8 d2, .int .u8 d3] 23))) := ((((Below.refl _ w).alloc (Nat.le_refl _) _).alloc (by simp) _).alloc (by simp; omega) _).alloc (by simp; omega) _
    have hbx := sets_boxes a0 a1 a2 a3 n b0 b1 b2 b3 m c0 c1 c2 c3 k d0 d1 d2 d3 w
    have HBX : Hid _ := hbx
    clear h6 hbx
    go_enter Tryd.func11, Tryd.ntmps11
    go_wp2_with fail
    refine Calls.mono (H6.out _ HB0.out) ?_
    rintro e0 w1 ⟨rfl, hb⟩
    obtain ⟨hbl, bp, bq, br, ba⟩ := HBX.out w1 hb
    clear HBX HB0 H6 hb
    obtain ⟨ap0, ap1, ap2, ap3, ap4⟩ := cell5_of bp
    obtain ⟨aq0, aq1, aq2, aq3, aq4⟩ := cell5_of bq
    obtain ⟨kp0, kp1, kp2, kp3, kp4⟩ := Hi.cell5 bp
    obtain ⟨kq0, kq1, kq2, kq3, kq4⟩ := Hi.cell5 bq
    obtain ⟨kr0, kr1, kr2, kr3, kr4⟩ := Hi.cell5 br
    obtain ⟨kd0, kd1, kd2, kd3⟩ := Hi.cell4 ba
    clear bp bq br ba
    go_wp2_with fail
    refine Calls.mono (h1 _) ?_
    rintro e1 w2 ⟨rfl, hb⟩
    obtain ⟨x2, rfl⟩ : ∃ x : Hi w1, w2 = x.W := ⟨⟨w2, hb⟩, rfl⟩
    clear hb ap0 ap1 ap2 ap3 ap4 aq0 aq1 aq2 aq3 aq4
    go_wp2_with fail
    refine Calls.mono (Hi.calls (h2 _)) ?_
    rintro e2 w3 ⟨rfl, x3, rfl⟩
    go_wp2_with fail
    refine Calls.mono (Hi.calls (h3 _)) ?_
    rintro e3 w4 ⟨rfl, x4, rfl⟩
    go_wp2_with fail
    refine Calls.mono (Hi.calls (h4 _)) ?_
    rintro e4 w5 ⟨rfl, x5, rfl⟩
    go_wp2_with fail
    refine Calls.mono (Hi.calls (G1.out _)) ?_
    rintro e5 w6 ⟨rfl, x6, rfl⟩
    go_wp2_with fail
    refine Calls.mono (Hi.calls (G2.out _)) ?_
    rintro e6 w7 ⟨rfl, x7, rfl⟩
    go_wp2
    go_ret
    exact ⟨rfl, hbl.trans (x7.below.mono hbl.size)⟩
  · have H6 : Hid _ := h6
    have HB0 : Hid (Below w.heap.size w ((((w.alloc (.cells #[.int .u8 a0, .int .u8 a1, .int .u8 a2, .int .u8 a3, .int .i64 n] 38)).alloc (.cells #[.int .u8 b0, .int .u8 b1, .int .u8 b2, .int .u8 b3, .int .i64 m] 38)).alloc (.cells #[.int .u8 c0, .int .u8 c1, .int .u8 c2, .int .u8 c3, .int .i64 k] 38)).alloc (.cells #[.int .u8 d0, .int .u8 d1, .int .u8 d2, .int .u8 d3] 23))) := ((((Below.refl _ w).alloc (Nat.le_refl _) _).alloc (by simp) _).alloc (by simp; omega) _).alloc (by simp; omega) _
    have hbx := sets_boxes a0 a1 a2 a3 n b0 b1 b2 b3 m c0 c1 c2 c3 k d0 d1 d2 d3 w
    have HBX : Hid _ := hbx
    clear h6 hbx
    go_enter Tryd.func11, Tryd.ntmps11
    go_wp2_with fail
    refine Calls.mono (H6.out _ HB0.out) ?_
    rintro e0 w1 ⟨rfl, hb⟩
    obtain ⟨hbl, bp, bq, br, ba⟩ := HBX.out w1 hb
    clear HBX HB0 H6 hb
    obtain ⟨ap0, ap1, ap2, ap3, ap4⟩ := cell5_of bp
    obtain ⟨aq0, aq1, aq2, aq3, aq4⟩ := cell5_of bq
    obtain ⟨kp0, kp1, kp2, kp3, kp4⟩ := Hi.cell5 bp
    obtain ⟨kq0, kq1, kq2, kq3, kq4⟩ := Hi.cell5 bq
    obtain ⟨kr0, kr1, kr2, kr3, kr4⟩ := Hi.cell5 br
    obtain ⟨kd0, kd1, kd2, kd3⟩ := Hi.cell4 ba
    clear bp bq br ba
    go_wp2_with fail
    refine Calls.mono (h1 _) ?_
    rintro e1 w2 ⟨rfl, hb⟩
    obtain ⟨x2, rfl⟩ : ∃ x : Hi w1, w2 = x.W := ⟨⟨w2, hb⟩, rfl⟩
    clear hb ap0 ap1 ap2 ap3 ap4 aq0 aq1 aq2 aq3 aq4
    go_wp2_with fail
    refine Calls.mono (Hi.calls (h2 _)) ?_
    rintro e2 w3 ⟨rfl, x3, rfl⟩
    go_wp2_with fail
    refine Calls.mono (Hi.calls (h3 _)) ?_
    rintro e3 w4 ⟨rfl, x4, rfl⟩
    go_wp2_with fail
    refine Calls.mono (Hi.calls (h4 _)) ?_
    rintro e4 w5 ⟨rfl, x5, rfl⟩
    go_wp2_with fail
    refine Calls.mono (Hi.calls (G1.out _)) ?_
    rintro e5 w6 ⟨rfl, x6, rfl⟩
    go_wp2_with fail
    refine Calls.mono (Hi.calls (G2.out _)) ?_
    rintro e6 w7 ⟨rfl, x7, rfl⟩
    go_wp2
    go_ret
    exact ⟨rfl, hbl.trans (x7.below.mono hbl.size)⟩
  · have H6 : Hid _ := h6
    have HB0 : Hid (Below w.heap.size w ((((w.alloc (.cells #[.int .u8 a0, .int .u8 a1, .int .u8 a2, .int .u8 a3, .int .i64 n] 38)).alloc (.cells #[.int .u8 b0, .int .u8 b1, .int .u8 b2, .int .u8 b3, .int .i64 m] 38)).alloc (.cells #[.int .u8 c0, .int .u8 c1, .int .u8 c2, .int .u8 c3, .int .i64 k] 38)).alloc (.cells #[.int .u8 d0, .int .u8 d1, .int .u8 d2, .int .u8 d3] 23))) := ((((Below.refl _ w).alloc (Nat.le_refl _) _).alloc (by simp) _).alloc (by simp; omega) _).alloc (by simp; omega) _
    have hbx := sets_boxes a0 a1 a2 a3 n b0 b1 b2 b3 m c0 c1 c2 c3 k d0 d1 d2 d3 w
    have HBX : Hid _ := hbx
    clear h6 hbx
    go_enter Tryd.func11, Tryd.ntmps11
    go_wp2_with fail
    refine Calls.mono (H6.out _ HB0.out) ?_
    rintro e0 w1 ⟨rfl, hb⟩
    obtain ⟨hbl, bp, bq, br, ba⟩ := HBX.out w1 hb
    clear HBX HB0 H6 hb
    obtain ⟨ap0, ap1, ap2, ap3, ap4⟩ := cell5_of bp
    obtain ⟨aq0, aq1, aq2, aq3, aq4⟩ := cell5_of bq
    obtain ⟨kp0, kp1, kp2, kp3, kp4⟩ := Hi.cell5 bp
    obtain ⟨kq0, kq1, kq2, kq3, kq4⟩ := Hi.cell5 bq
    obtain ⟨kr0, kr1, kr2, kr3, kr4⟩ := Hi.cell5 br
    obtain ⟨kd0, kd1, kd2, kd3⟩ := Hi.cell4 ba
    clear bp bq br ba
    go_wp2_with fail
    refine Calls.mono (h1 _) ?_
    rintro e1 w2 ⟨rfl, hb⟩
    obtain ⟨x2, rfl⟩ : ∃ x : Hi w1, w2 = x.W := ⟨⟨w2, hb⟩, rfl⟩
    clear hb ap0 ap1 ap2 ap3 ap4 aq0 aq1 aq2 aq3 aq4
    go_wp2_with fail
    refine Calls.mono (Hi.calls (h2 _)) ?_
    rintro e2 w3 ⟨rfl, x3, rfl⟩
    go_wp2_with fail
    refine Calls.mono (Hi.calls (h3 _)) ?_
    rintro e3 w4 ⟨rfl, x4, rfl⟩
    go_wp2_with fail
    refine Calls.mono (Hi.calls (h4 _)) ?_
    rintro e4 w5 ⟨rfl, x5, rfl⟩
    go_wp2_with fail
    refine Calls.mono (Hi.calls (G1.out _)) ?_
    rintro e5 w6 ⟨rfl, x6, rfl⟩
    go_wp2_with fail
    refine Calls.mono (Hi.calls (G2.out _)) ?_
    rintro e6 w7 ⟨rfl, x7, rfl⟩
    go_wp2_with fail
    refine Calls.mono (Hi.calls (G3.out _)) ?_
    rintro e7 w8 ⟨rfl, x8, rfl⟩
    go_wp2
    go_ret
    exact ⟨rfl, hbl.trans (x8.below.mono hbl.size)⟩
  · exact absurd hbad (by decide)


end Go.Proofs.YthejkiocndoflaaDoor
