/-
  The walk of the statement AddrChecks out of the contracts of both sides.
-/
import Derived.Test.YthejkiocndoflaaDoorHi
import Derived.Deep.RegionWith
namespace Go.Proofs.YthejkiocndoflaaDoor
open Go Go.RowKit
set_option linter.unusedVariables false
set_option linter.unusedSimpArgs false

def Same2 (f g : FuncId) (args : Array Value) (v : Value) : Prop := ∀ w : World, Calls Tryd.prog f args w (fun e w' => e = .returned v ∧ Below w.heap.size w w') ∧ Calls Tryd.prog g args w (fun e w' => e = .returned v ∧ Below w.heap.size w w')

theorem cell4_of {W : World} {b : Nat} {v0 v1 v2 v3 : Value} {t : TypeId} (h : W.heap[b]? = some (.cells #[v0, v1, v2, v3] t)) :
    W.cell? ⟨b, 0, none⟩ = some v0 ∧ W.cell? ⟨b, 1, none⟩ = some v1 ∧ W.cell? ⟨b, 2, none⟩ = some v2 ∧ W.cell? ⟨b, 3, none⟩ = some v3 := by simp [World.cell?, h]
theorem cell5_of {W : World} {b : Nat} {v0 v1 v2 v3 v4 : Value} {t : TypeId} (h : W.heap[b]? = some (.cells #[v0, v1, v2, v3, v4] t)) :
    W.cell? ⟨b, 0, none⟩ = some v0 ∧ W.cell? ⟨b, 1, none⟩ = some v1 ∧ W.cell? ⟨b, 2, none⟩ = some v2 ∧ W.cell? ⟨b, 3, none⟩ = some v3 ∧ W.cell? ⟨b, 4, none⟩ = some v4 := by simp [World.cell?, h]
theorem blk_on {w W : World} {b : Nat} {o : Obj} (h : w.heap[b]? = some o) (hb : Below w.heap.size w W) : W.heap[b]? = some o :=
  (hb.block b (Array.getElem?_eq_some_iff.1 h).1).trans h
theorem blk_alloc {w : World} {b : Nat} {o : Obj} (h : w.heap[b]? = some o) (o' : Obj) : (w.alloc o').heap[b]? = some o :=
  blk_on h ((Below.refl _ w).alloc (Nat.le_refl _) o')

set_option maxHeartbeats 4000000 in
set_option maxRecDepth 100000 in
theorem addrChecks_core (a0 a1 a2 a3 n b0 b1 b2 b3 m c0 c1 c2 c3 k r0 r1 r2 r3 rn t0 t1 t2 t3 : Int) (x c : Bool) (e g i l kk : Int) (w : World)
    (hr : FitB [r0, r1, r2, r3]) (ht : FitB [t0, t1, t2, t3])
    (h1 : Same2 30 31 #[P4 a0 a1 a2 a3 n, A4 c0 c1 c2 c3] (.tuple #[.bool x, .int .i64 e]))
    (h2 : Same2 32 33 #[P4 a0 a1 a2 a3 n, P4 b0 b1 b2 b3 m] (.tuple #[.bool c, .int .i64 g]))
    (h3 : Same2 34 35 #[A4 c0 c1 c2 c3, .int .i64 k] (.tuple #[P4 r0 r1 r2 r3 rn, .int .i64 i]))
    (h4 : Same2 36 37 #[P4 a0 a1 a2 a3 n] (.tuple #[A4 t0 t1 t2 t3, .int .i64 l]))
    (h5 : Same2 38 39 #[P4 a0 a1 a2 a3 n] (.int .i64 kk))
    (h6 : ∀ w' : World, Below w.heap.size w w' → Calls Tryd.prog 17 #[] w' fun e w'' => e = .returned (.bool true) ∧ Below w'.heap.size w' w'') :
    Calls Tryd.prog 7 #[P4 a0 a1 a2 a3 n, P4 b0 b1 b2 b3 m, A4 c0 c1 c2 c3, .int .i64 k] w fun e w' => e = .returned (.bool true) ∧ Below w.heap.size w w' := by
  have H6 : Hid _ := h6
  clear h6
  have eqr9999 : ∀ W, (Op.equalIn 9999 23 (.agg #[.int .u8 r0, .int .u8 r1, .int .u8 r2, .int .u8 r3]) (.agg #[.int .u8 r0, .int .u8 r1, .int .u8 r2, .int .u8 r3])).run Tryd.prog W = .ok true W := fun W => by
    have := eq_arr4 9997 [r0, r1, r2, r3] [r0, r1, r2, r3] hr hr rfl rfl W
    rwa [decide_eq_true rfl] at this
  have eqt9999 : ∀ W, (Op.equalIn 9999 23 (.agg #[.int .u8 t0, .int .u8 t1, .int .u8 t2, .int .u8 t3]) (.agg #[.int .u8 t0, .int .u8 t1, .int .u8 t2, .int .u8 t3])).run Tryd.prog W = .ok true W := fun W => by
    have := eq_arr4 9997 [t0, t1, t2, t3] [t0, t1, t2, t3] ht ht rfl rfl W
    rwa [decide_eq_true rfl] at this
  have eqr10000 : ∀ W, (Op.equalIn 10000 23 (.agg #[.int .u8 r0, .int .u8 r1, .int .u8 r2, .int .u8 r3]) (.agg #[.int .u8 r0, .int .u8 r1, .int .u8 r2, .int .u8 r3])).run Tryd.prog W = .ok true W := fun W => by
    have := eq_arr4 9998 [r0, r1, r2, r3] [r0, r1, r2, r3] hr hr rfl rfl W
    rwa [decide_eq_true rfl] at this
  have eqt10000 : ∀ W, (Op.equalIn 10000 23 (.agg #[.int .u8 t0, .int .u8 t1, .int .u8 t2, .int .u8 t3]) (.agg #[.int .u8 t0, .int .u8 t1, .int .u8 t2, .int .u8 t3])).run Tryd.prog W = .ok true W := fun W => by
    have := eq_arr4 9998 [t0, t1, t2, t3] [t0, t1, t2, t3] ht ht rfl rfl W
    rwa [decide_eq_true rfl] at this
  have hB0 : Below w.heap.size w (((w.alloc (.cells #[.int .u8 a0, .int .u8 a1, .int .u8 a2, .int .u8 a3, .int .i64 n] 38)).alloc (.cells #[.int .u8 b0, .int .u8 b1, .int .u8 b2, .int .u8 b3, .int .i64 m] 38)).alloc (.cells #[.int .u8 c0, .int .u8 c1, .int .u8 c2, .int .u8 c3] 23)) := (((Below.refl _ w).alloc (Nat.le_refl _) _).alloc (by simp) _).alloc (by simp; omega) _
  have p0 : (((w.alloc (.cells #[.int .u8 a0, .int .u8 a1, .int .u8 a2, .int .u8 a3, .int .i64 n] 38)).alloc (.cells #[.int .u8 b0, .int .u8 b1, .int .u8 b2, .int .u8 b3, .int .i64 m] 38)).alloc (.cells #[.int .u8 c0, .int .u8 c1, .int .u8 c2, .int .u8 c3] 23)).heap[w.heap.size]? = some (.cells #[.int .u8 a0, .int .u8 a1, .int .u8 a2, .int .u8 a3, .int .i64 n] 38) := blk_alloc (blk_alloc (alloc_new _ _) _) _
  have q0 : (((w.alloc (.cells #[.int .u8 a0, .int .u8 a1, .int .u8 a2, .int .u8 a3, .int .i64 n] 38)).alloc (.cells #[.int .u8 b0, .int .u8 b1, .int .u8 b2, .int .u8 b3, .int .i64 m] 38)).alloc (.cells #[.int .u8 c0, .int .u8 c1, .int .u8 c2, .int .u8 c3] 23)).heap[w.heap.size + 1]? = some (.cells #[.int .u8 b0, .int .u8 b1, .int .u8 b2, .int .u8 b3, .int .i64 m] 38) := blk_alloc (alloc_new2 _ _ _) _
  have s0 : (((w.alloc (.cells #[.int .u8 a0, .int .u8 a1, .int .u8 a2, .int .u8 a3, .int .i64 n] 38)).alloc (.cells #[.int .u8 b0, .int .u8 b1, .int .u8 b2, .int .u8 b3, .int .i64 m] 38)).alloc (.cells #[.int .u8 c0, .int .u8 c1, .int .u8 c2, .int .u8 c3] 23)).heap[w.heap.size + 1 + 1]? = some (.cells #[.int .u8 c0, .int .u8 c1, .int .u8 c2, .int .u8 c3] 23) := by
    have := alloc_new ((w.alloc (.cells #[.int .u8 a0, .int .u8 a1, .int .u8 a2, .int .u8 a3, .int .i64 n] 38)).alloc (.cells #[.int .u8 b0, .int .u8 b1, .int .u8 b2, .int .u8 b3, .int .i64 m] 38)) (.cells #[.int .u8 c0, .int .u8 c1, .int .u8 c2, .int .u8 c3] 23)
    simpa using this
  have P0 : Hid _ := And.intro hB0 (And.intro p0 (And.intro q0 s0))
  clear hB0 p0 q0 s0
  go_enter Tryd.func7, Tryd.ntmps7
  go_wp2_with fail
  refine Calls.mono (h1 _).1 ?_
  rintro e1 w1 ⟨rfl, hb⟩
  obtain ⟨x0, x1, x2, x3⟩ := P0.out
  have P1 : Hid _ := And.intro (x0.trans (hb.mono x0.size)) (And.intro (blk_on x1 hb) (And.intro (blk_on x2 hb) (blk_on x3 hb)))
  clear x0 x1 x2 x3 hb P0
  obtain ⟨k00, k01, k02, k03, k04⟩ := cell5_of P1.out.2.1
  obtain ⟨k10, k11, k12, k13, k14⟩ := cell5_of P1.out.2.2.1
  obtain ⟨k20, k21, k22, k23⟩ := cell4_of P1.out.2.2.2
  go_wp2_with fail
  refine Calls.mono (h1 _).2 ?_
  clear k00 k01 k02 k03 k04 k10 k11 k12 k13 k14 k20 k21 k22 k23
  rintro e2 w2 ⟨rfl, hb⟩
  obtain ⟨x0, x1, x2, x3⟩ := P1.out
  have P2 : Hid _ := And.intro (x0.trans (hb.mono x0.size)) (And.intro (blk_on x1 hb) (And.intro (blk_on x2 hb) (blk_on x3 hb)))
  clear x0 x1 x2 x3 hb P1
  obtain ⟨k00, k01, k02, k03, k04⟩ := cell5_of P2.out.2.1
  obtain ⟨k10, k11, k12, k13, k14⟩ := cell5_of P2.out.2.2.1
  obtain ⟨k20, k21, k22, k23⟩ := cell4_of P2.out.2.2.2
  go_wp2_with fail
  refine Calls.mono (h2 _).1 ?_
  clear k00 k01 k02 k03 k04 k10 k11 k12 k13 k14 k20 k21 k22 k23
  rintro e3 w3 ⟨rfl, hb⟩
  obtain ⟨x0, x1, x2, x3⟩ := P2.out
  have P3 : Hid _ := And.intro (x0.trans (hb.mono x0.size)) (And.intro (blk_on x1 hb) (And.intro (blk_on x2 hb) (blk_on x3 hb)))
  clear x0 x1 x2 x3 hb P2
  obtain ⟨k00, k01, k02, k03, k04⟩ := cell5_of P3.out.2.1
  obtain ⟨k10, k11, k12, k13, k14⟩ := cell5_of P3.out.2.2.1
  obtain ⟨k20, k21, k22, k23⟩ := cell4_of P3.out.2.2.2
  go_wp2_with fail
  refine Calls.mono (h2 _).2 ?_
  clear k00 k01 k02 k03 k04 k10 k11 k12 k13 k14 k20 k21 k22 k23
  rintro e4 w4 ⟨rfl, hb⟩
  obtain ⟨x0, x1, x2, x3⟩ := P3.out
  have P4 : Hid _ := And.intro (x0.trans (hb.mono x0.size)) (And.intro (blk_on x1 hb) (And.intro (blk_on x2 hb) (blk_on x3 hb)))
  clear x0 x1 x2 x3 hb P3
  obtain ⟨k00, k01, k02, k03, k04⟩ := cell5_of P4.out.2.1
  obtain ⟨k10, k11, k12, k13, k14⟩ := cell5_of P4.out.2.2.1
  obtain ⟨k20, k21, k22, k23⟩ := cell4_of P4.out.2.2.2
  go_wp2_with fail
  refine Calls.mono (h3 _).1 ?_
  clear k00 k01 k02 k03 k04 k10 k11 k12 k13 k14 k20 k21 k22 k23
  rintro e5 w5 ⟨rfl, hb⟩
  obtain ⟨x0, x1, x2, x3⟩ := P4.out
  have hba := hb.alloc hb.size (.cells #[.int .u8 r0, .int .u8 r1, .int .u8 r2, .int .u8 r3, .int .i64 rn] 38)
  have P5 : Hid _ := And.intro (x0.trans (hba.mono x0.size)) (And.intro (blk_on x1 hba) (And.intro (blk_on x2 hba) (And.intro (blk_on x3 hba) (alloc_new w5 (.cells #[.int .u8 r0, .int .u8 r1, .int .u8 r2, .int .u8 r3, .int .i64 rn] 38)))))
  clear hba
  clear x0 x1 x2 x3 hb P4
  obtain ⟨k00, k01, k02, k03, k04⟩ := cell5_of P5.out.2.1
  obtain ⟨k10, k11, k12, k13, k14⟩ := cell5_of P5.out.2.2.1
  obtain ⟨k20, k21, k22, k23⟩ := cell4_of P5.out.2.2.2.1
  go_wp2_with fail
  refine Calls.mono (h3 _).2 ?_
  clear k00 k01 k02 k03 k04 k10 k11 k12 k13 k14 k20 k21 k22 k23
  rintro e6 w6 ⟨rfl, hb⟩
  obtain ⟨x0, x1, x2, x3, x4⟩ := P5.out
  have hba := hb.alloc hb.size (.cells #[.int .u8 r0, .int .u8 r1, .int .u8 r2, .int .u8 r3, .int .i64 rn] 38)
  have P6 : Hid _ := And.intro (x0.trans (hba.mono x0.size)) (And.intro (blk_on x1 hba) (And.intro (blk_on x2 hba) (And.intro (blk_on x3 hba) (And.intro (blk_on x4 hba) (alloc_new w6 (.cells #[.int .u8 r0, .int .u8 r1, .int .u8 r2, .int .u8 r3, .int .i64 rn] 38))))))
  clear hba
  clear x0 x1 x2 x3 x4 hb P5
  obtain ⟨k00, k01, k02, k03, k04⟩ := cell5_of P6.out.2.1
  obtain ⟨k10, k11, k12, k13, k14⟩ := cell5_of P6.out.2.2.1
  obtain ⟨k20, k21, k22, k23⟩ := cell4_of P6.out.2.2.2.1
  obtain ⟨k30, k31, k32, k33, k34⟩ := cell5_of P6.out.2.2.2.2.1
  go_wp2_with fail
  refine Calls.mono (h4 _).1 ?_
  clear k00 k01 k02 k03 k04 k10 k11 k12 k13 k14 k20 k21 k22 k23 k30 k31 k32 k33 k34
  rintro e7 w7 ⟨rfl, hb⟩
  obtain ⟨x0, x1, x2, x3, x4, x5⟩ := P6.out
  have hba := hb.alloc hb.size (.cells #[.int .u8 t0, .int .u8 t1, .int .u8 t2, .int .u8 t3] 23)
  have P7 : Hid _ := And.intro (x0.trans (hba.mono x0.size)) (And.intro (blk_on x1 hba) (And.intro (blk_on x2 hba) (And.intro (blk_on x3 hba) (And.intro (blk_on x4 hba) (And.intro (blk_on x5 hba) (alloc_new w7 (.cells #[.int .u8 t0, .int .u8 t1, .int .u8 t2, .int .u8 t3] 23)))))))
  clear hba
  clear x0 x1 x2 x3 x4 x5 hb P6
  obtain ⟨k00, k01, k02, k03, k04⟩ := cell5_of P7.out.2.1
  obtain ⟨k10, k11, k12, k13, k14⟩ := cell5_of P7.out.2.2.1
  obtain ⟨k20, k21, k22, k23⟩ := cell4_of P7.out.2.2.2.1
  obtain ⟨k30, k31, k32, k33, k34⟩ := cell5_of P7.out.2.2.2.2.1
  obtain ⟨k40, k41, k42, k43, k44⟩ := cell5_of P7.out.2.2.2.2.2.1
  go_wp2_with fail
  refine Calls.mono (h4 _).2 ?_
  clear k00 k01 k02 k03 k04 k10 k11 k12 k13 k14 k20 k21 k22 k23 k30 k31 k32 k33 k34 k40 k41 k42 k43 k44
  rintro e8 w8 ⟨rfl, hb⟩
  obtain ⟨x0, x1, x2, x3, x4, x5, x6⟩ := P7.out
  have hba := hb.alloc hb.size (.cells #[.int .u8 t0, .int .u8 t1, .int .u8 t2, .int .u8 t3] 23)
  have P8 : Hid _ := And.intro (x0.trans (hba.mono x0.size)) (And.intro (blk_on x1 hba) (And.intro (blk_on x2 hba) (And.intro (blk_on x3 hba) (And.intro (blk_on x4 hba) (And.intro (blk_on x5 hba) (And.intro (blk_on x6 hba) (alloc_new w8 (.cells #[.int .u8 t0, .int .u8 t1, .int .u8 t2, .int .u8 t3] 23))))))))
  clear hba
  clear x0 x1 x2 x3 x4 x5 x6 hb P7
  obtain ⟨k00, k01, k02, k03, k04⟩ := cell5_of P8.out.2.1
  obtain ⟨k10, k11, k12, k13, k14⟩ := cell5_of P8.out.2.2.1
  obtain ⟨k20, k21, k22, k23⟩ := cell4_of P8.out.2.2.2.1
  obtain ⟨k30, k31, k32, k33, k34⟩ := cell5_of P8.out.2.2.2.2.1
  obtain ⟨k40, k41, k42, k43, k44⟩ := cell5_of P8.out.2.2.2.2.2.1
  obtain ⟨k50, k51, k52, k53⟩ := cell4_of P8.out.2.2.2.2.2.2.1
  go_wp2_with fail
  clear k00 k01 k02 k03 k04 k10 k11 k12 k13 k14 k20 k21 k22 k23 k30 k31 k32 k33 k34 k40 k41 k42 k43 k44 k50 k51 k52 k53
  obtain ⟨kp0, kp1, kp2, kp3, kp4⟩ := Hi.cell5 P8.out.2.1
  obtain ⟨kr0, kr1, kr2, kr3, kr4⟩ := Hi.cell5 P8.out.2.2.2.2.1
  obtain ⟨ks0, ks1, ks2, ks3, ks4⟩ := Hi.cell5 P8.out.2.2.2.2.2.1
  obtain ⟨kt0, kt1, kt2, kt3⟩ := Hi.cell4 P8.out.2.2.2.2.2.2.1
  obtain ⟨ku0, ku1, ku2, ku3⟩ := Hi.cell4 P8.out.2.2.2.2.2.2.2
  have hbl := P8.out.1
  clear P8
  have H5 : Hid _ := h5
  clear h1 h2 h3 h4 h5
  refine wp_region_hi (by kernel_rfl) (by kernel_rfl) ?_
  repeat (go_big_quiet_step (first | (go_at_call 38; exact Hi.calls (H5.out _).1) | (go_at_call 39; exact Hi.calls (H5.out _).2) | (go_at_call 17; exact Hi.calls (H6.out _ (hbl.trans (Hi.below _ |>.mono hbl.size))))))
  refine wpQuiet_nil ?_
  intro _ hw
  obtain ⟨y, rfl⟩ := hw
  go_wp2
  go_ret
  exact ⟨rfl, hbl.trans (y.below.mono hbl.size)⟩

end Go.Proofs.YthejkiocndoflaaDoor
