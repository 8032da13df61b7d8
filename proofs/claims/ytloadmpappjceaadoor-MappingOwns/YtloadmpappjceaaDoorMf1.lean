/-
  The statement MappingRules for every argument.
-/
import Derived.Test.YtloadmpappjceaaDoorMa6
import Derived.Test.YtloadmpappjceaaDoorMd2
import Derived.Test.YtloadmpappjceaaDoorMo1
import Derived.Test.YtloadmpappjceaaDoorQd3
namespace Go.Proofs.YtloadmpappjceaaDoor
open Go Go.RowKit
set_option linter.unusedVariables false
set_option linter.unusedSimpArgs false

theorem eqPS (d : Nat) (o l p : Int) (W : World) : (Op.equalIn (d + 2) 34 (PS o l p) (PS o l p)).run Tryd.prog W = .ok true W := by
  have h2 : ∀ (x : Int) (W : World), (Op.equalIn (d + 1) 3 (.int .i64 x) (.int .i64 x)).run Tryd.prog W = .ok true W := fun x W => by simp [Op.equalIn, go_sem]
  have h3 : ∀ (x : Int) (W : World), (Op.equalIn (d + 1) 32 (.int .u16 x) (.int .u16 x)).run Tryd.prog W = .ok true W := fun x W => by simp [Op.equalIn, go_sem]
  have hstd : Tryd.prog.stoodInHeld 34 = false := by kernel_rfl
  show (Op.equalIn ((d + 1) + 1) _ _ _).run Tryd.prog W = _
  rw [Op.equalIn]
  generalize Op.equalIn (d + 1) = E at *
  simp [go_sem, hstd, h2, h3]
theorem ports_form (r : Ru) : ∃ o l b e, portsE r = .tuple #[PS o l 0, .bool b, .int .i64 e] := by
  unfold portsE
  split
  · split
    · exact ⟨_, _, _, _, rfl⟩
    · exact ⟨_, _, _, _, rfl⟩
  · exact ⟨_, _, _, _, rfl⟩
theorem count_form (r : Ru) : ∃ n g, countE r = .tuple #[.int .u64 n, .int .i64 g] := by
  unfold countE
  split
  · exact ⟨_, _, rfl⟩
  · exact ⟨_, _, rfl⟩
theorem load_ps {W : World} {c : Nat} {o l p : Int} (h : W.heap[c]? = some (.cells (PSL o l p).toArray 34)) : (Instr.loadAt 34 (.pointer (some ⟨c, 0, none⟩))).run Tryd.prog W = .ok (PS o l p) W :=
  agg_load (t := 34) Tryd.isAgg34 Tryd.sizeOf34 rfl (CellsAt.of_blk h)

set_option maxHeartbeats 4000000 in
set_option maxRecDepth 100000 in
theorem mappingRules_walk (r : Ru) (hr : r.In) (w : World) (ht : Tz w) :
    Calls Tryd.prog 3 #[RV r] w fun e w' => e = .returned (.bool true) ∧ Below w.heap.size w w' := by
  have hB0 := bA w (RO r)
  have hb := blk_new w (RO r)
  obtain ⟨o, l, bb, e, hpe⟩ := ports_form r
  obtain ⟨n, g, hce⟩ := count_form r
  have HP1 : Hid (∀ W, Calls Tryd.prog 10 #[RV r] W fun e' w' => e' = .returned (.tuple #[PS o l 0, .bool bb, .int .i64 e]) ∧ Below W.heap.size W w') := fun W => by have := Ports_any r hr W; rw [hpe] at this; exact this
  have HP2 : Hid (∀ W, Calls Tryd.prog 11 #[RV r] W fun e' w' => e' = .returned (.tuple #[PS o l 0, .bool bb, .int .i64 e]) ∧ Below W.heap.size W w') := fun W => by have := RPorts_any r hr W; rw [hpe] at this; exact this
  have HC1 : Hid (∀ W, Calls Tryd.prog 12 #[RV r] W fun e' w' => e' = .returned (.tuple #[.int .u64 n, .int .i64 g]) ∧ Below W.heap.size W w') := fun W => by have := Count_any r hr W; rw [hce] at this; exact this
  have HC2 : Hid (∀ W, Calls Tryd.prog 13 #[RV r] W fun e' w' => e' = .returned (.tuple #[.int .u64 n, .int .i64 g]) ∧ Below W.heap.size W w') := fun W => by have := RCount_r r hr W; rw [hce] at this; exact this
  have HK1 : Hid _ := fun W => Check_any' r hr W
  have HK2 : Hid _ := fun W => RCheck_r r hr W
  generalize ckE r = c at *
  have heq : ∀ W, (Op.equalIn 9999 34 (PS o l 0) (PS o l 0)).run Tryd.prog W = .ok true W := fun W => eqPS 9997 o l 0 W
  have q2 : (bb == bb) = true := beq_self_eq_true bb
  have q3 : (e == e) = true := beq_self_eq_true e
  have q4 : (n == n) = true := beq_self_eq_true n
  have q5 : (g == g) = true := beq_self_eq_true g
  have q6 : (c == c) = true := beq_self_eq_true c
  clear hpe hce
  have HLR : Hid _ := (RuAt.of hr hb).ldR
  generalize hW : w.alloc (RO r) = W at *
  go_enter Tryd.func3, Tryd.ntmps3
  go_wp2_with first
    | ((with_reducible show wpList _ _ _ _ _ _); refine armL (.tmp 1) 31 rfl rfl rfl HLR.out ?_)
  refine (HP1.out _).mono ?_
  rintro e' w2 ⟨rfl, hB2⟩
  obtain ⟨w3, hst3, b3, hB3⟩ := box_new Tryd.sizeOf34 w2 [.int .i64 0, .int .i64 0, .int .u16 0] rfl (PSL o l 0) rfl (by simp [PSL, Value.oneCell'])
  have HS3 : Hid _ := hst3
  have hb23 := hB2.trans (hB3.mono hB2.size)
  have HL3 : Hid _ := (RuAt.of hr (blk_on hb hb23)).ldR
  clear hst3
  go_wp2_with first
    | ((with_reducible show wpList _ _ _ _ _ _); refine armL (.tmp 1) 31 rfl rfl rfl HL3.out ?_)
    | ((with_reducible show wpList _ _ _ _ _ _); refine armS (.tmp 3) (.tmp 16) 34 rfl rfl rfl rfl HS3.out ?_)
  refine (HP2.out _).mono ?_
  rintro e' w4 ⟨rfl, hB4⟩
  obtain ⟨w5, hst5, b5, hB5⟩ := box_new Tryd.sizeOf34 w4 [.int .i64 0, .int .i64 0, .int .u16 0] rfl (PSL o l 0) rfl (by simp [PSL, Value.oneCell'])
  have HS5 : Hid _ := hst5
  have hb35 := hB4.trans (hB5.mono hB4.size)
  have hb25 := hb23.trans (hb35.mono hb23.size)
  have HL5 : Hid _ := (RuAt.of hr (blk_on hb hb25)).ldR
  clear hst5
  go_wp2_with first
    | ((with_reducible show wpList _ _ _ _ _ _); refine armL (.tmp 1) 31 rfl rfl rfl HL5.out ?_)
    | ((with_reducible show wpList _ _ _ _ _ _); refine armS (.tmp 6) (.tmp 22) 34 rfl rfl rfl rfl HS5.out ?_)
  refine (HC1.out _).mono ?_
  rintro e' w6 ⟨rfl, hB6⟩
  have hb26 := hb25.trans (hB6.mono hb25.size)
  have HL6 : Hid _ := (RuAt.of hr (blk_on hb hb26)).ldR
  go_wp2_with first
    | ((with_reducible show wpList _ _ _ _ _ _); refine armL (.tmp 1) 31 rfl rfl rfl HL6.out ?_)
  refine (HC2.out _).mono ?_
  rintro e' w7 ⟨rfl, hB7⟩
  have hb27 := hb26.trans (hB7.mono hb26.size)
  have hb57 := hB6.trans (hB7.mono hB6.size)
  have hb37 := hb35.trans (hb57.mono hb35.size)
  have HLH : Hid _ := (RuHi.of hr (blk_on hb hb27)).ldR
  have HS3H : Hid (∀ x : Hi w7, (Instr.loadAt 34 (.pointer (some ⟨w2.heap.size, 0, none⟩))).run Tryd.prog x.W = .ok (PS o l 0) x.W) := fun x => load_ps (Hi.blk (blk_on b3 hb37) x)
  have HS5H : Hid (∀ x : Hi w7, (Instr.loadAt 34 (.pointer (some ⟨w4.heap.size, 0, none⟩))).run Tryd.prog x.W = .ok (PS o l 0) x.W) := fun x => load_ps (Hi.blk (blk_on b5 hb57) x)
  have hBw := hB0.trans (hb27.mono hB0.size)
  have HTZ : Hid (∀ x : Hi w7, Tz x.W) := fun x => ht.on (hBw.trans (x.below.mono hBw.size))
  clear hB0 hb hB2 hB3 hb23 hB4 hB5 hb35 hb25 hB6 hb26 hB7 hb27 hb57 hb37 b3 b5 HP1 HP2 HC1 HC2 HLR HL3 HL5 HL6 HS3 HS5
  go_wp2_with fail
  refine wp_region_hi (by kernel_rfl) (by kernel_rfl) ?_
  repeat (first | go_big_quiet_skip | (go_big_quiet_want; refine hi_load (.tmp 3) 34 rfl rfl HS3H.out ?_; simp only [Act.put, List.setIfInBounds_toArray, List.set_cons_zero, List.set_cons_succ]; go_big_quiet_on) | (go_big_quiet_want; refine hi_load (.tmp 6) 34 rfl rfl HS5H.out ?_; simp only [Act.put, List.setIfInBounds_toArray, List.set_cons_zero, List.set_cons_succ]; go_big_quiet_on) | (go_big_quiet_want; refine hi_load (.tmp 1) 31 rfl rfl HLH.out ?_; simp only [Act.put, List.setIfInBounds_toArray, List.set_cons_zero, List.set_cons_succ]; go_big_quiet_on) | (go_big_quiet_want; go_big_quiet_op; first | go_big_quiet_on | go_big_quiet_call (first | (go_at_call 14; with_reducible exact Hi.calls (HK1.out _)) | (go_at_call 15; with_reducible exact Hi.calls (HK2.out _)) | (go_at_call 16; with_reducible exact Hi.calls (awake_calls _ (HTZ.out _))))))
  refine wpQuiet_nil ?_
  intro _ hw
  obtain ⟨y, rfl⟩ := hw
  go_wp2
  go_ret
  exact ⟨rfl, hBw.trans (y.below.mono hBw.size)⟩

set_option maxRecDepth 100000 in
theorem mappingRules_open {H : Type} {enc : TypeId × Value → H} {W : World} {base : Nat} (tb : Tz W) (v0 : Value) {d0 : DataW H} {p0 : List MemPlace}
    (o0 : Value.okWide Tryd.prog W .any base 31 v0) (h0 : DataW.Trod enc Tryd.prog W 0 (fun _ => true) true 31 v0 d0 p0) :
    Calls Tryd.prog 3 #[v0] W fun e w' => e = .returned (.bool true) ∧ Below W.heap.size W w' := by
  obtain ⟨r, rfl, hr⟩ := open_rule h0
  exact mappingRules_walk r hr W tb

end Go.Proofs.YtloadmpappjceaaDoor
