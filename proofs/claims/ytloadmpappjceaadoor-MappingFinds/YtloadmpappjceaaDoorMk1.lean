/-
  The statement MappingFinds for every argument.
-/
import Derived.Test.YtloadmpappjceaaDoorMj2
namespace Go.Proofs.YtloadmpappjceaaDoor
open Go Go.RowKit Go.ChangeShapes Go.WideShapes Go.ChangeAt
set_option linter.unusedVariables false
set_option linter.unusedSimpArgs false


theorem map_form (r : Ru) (hr : r.In) (y : List Int) (n : Nat) : ∃ (l : List Int) (e : Int), FitB l ∧ l.length = 16 ∧ mapE r y n = .tuple #[.agg (b8 l).toArray, .int .i64 e] := by
  unfold mapE
  by_cases h : (ofV r y n).2 = 0
  · rw [if_pos h]
    have hok := (of_ok hr h).1
    exact ⟨_, _, ownL_fit hok, ownL_length hok, rfl⟩
  · rw [if_neg h]
    exact ⟨[0, 0, 0, 0, 0, 0, 0, 0, 0, 0, 0, 0, 0, 0, 0, 0], _, fit_of (by decide), rfl, rfl⟩

set_option maxHeartbeats 8000000 in
set_option maxRecDepth 100000 in
theorem mappingFinds_walk (r : Ru) (hr : r.In) (x : List Int) (xf : FitB x) (xl : x.length = 16) (y : List Int) (yf : FitB y) (yl : y.length = 4) (n : Nat) (hn : n < 65536) (w : World) (ht : Tz w) :
    Calls Tryd.prog 5 #[RV r, .agg (b8 x).toArray, A4L y, .int .u16 n] w fun e w' => e = .returned (.bool true) ∧ Below w.heap.size w w' := by
  obtain ⟨hb, hbx, hby, hBw⟩ := three_box w (RO r) (XO x) (YO y)
  obtain ⟨bn, be, hbe⟩ := bits_form r x
  obtain ⟨l, me, lf, ll, hme⟩ := map_form r hr y n
  have HB1 : Hid (∀ W, Calls Tryd.prog 19 #[RV r, .agg (b8 x).toArray] W fun e' w' => e' = .returned (UE bn be) ∧ Below W.heap.size W w') := fun W => by have := Bits_any r hr x xf xl W; rw [hbe] at this; exact this
  have HB2 : Hid (∀ W, Calls Tryd.prog 20 #[RV r, .agg (b8 x).toArray] W fun e' w' => e' = .returned (UE bn be) ∧ Below W.heap.size W w') := fun W => by have := RBits_any r hr x xf xl W; rw [hbe] at this; exact this
  have HO1 : Hid _ := fun W => Of_r r hr y yf yl n hn W
  have HO2 : Hid _ := fun W => ROf_r r hr y yf yl n hn W
  have HM1 : Hid (∀ W, Calls Tryd.prog 23 #[RV r, A4L y, .int .u16 n] W fun e' w' => e' = .returned (.tuple #[.agg (b8 l).toArray, .int .i64 me]) ∧ Below W.heap.size W w') := fun W => by have := Map_any r hr y yf yl n hn W; rw [hme] at this; exact this
  have HM2 : Hid (∀ W, Calls Tryd.prog 24 #[RV r, A4L y, .int .u16 n] W fun e' w' => e' = .returned (.tuple #[.agg (b8 l).toArray, .int .i64 me]) ∧ Below W.heap.size W w') := fun W => by have := RMap_any r hr y yf yl n hn W; rw [hme] at this; exact this
  have HEQ : Hid (∀ W, (binOp .eql 23 (.agg (b8 l).toArray) (.agg (b8 l).toArray)).run Tryd.prog W = .ok (.bool true) W) := fun W => by
    have := eqlA6 l l lf lf ll ll W
    rw [decide_eq_true rfl] at this
    exact this
  have HTZ : Hid (∀ W', Below (((w.alloc (RO r)).alloc (XO x)).alloc (YO y)).heap.size (((w.alloc (RO r)).alloc (XO x)).alloc (YO y)) W' → Tz W') := fun W' h => ht.on (hBw.trans (h.mono hBw.size))
  have HLR : Hid _ := (RuAt.of hr hb).ldR
  have HLX : Hid _ := load_x xl hbx
  generalize hW : ((w.alloc (RO r)).alloc (XO x)).alloc (YO y) = W at *
  generalize (ofV r y n).1 = mm at *
  generalize (ofV r y n).2 = kk at *
  have q1 : (bn == bn) = true := beq_self_eq_true bn
  have q2 : (be == be) = true := beq_self_eq_true be
  have q3 : ((mm : Int) == (mm : Int)) = true := beq_self_eq_true _
  have q4 : (kk == kk) = true := beq_self_eq_true kk
  have q5 : (me == me) = true := beq_self_eq_true me
  clear hbe hme
  go_enter Tryd.func5, Tryd.ntmps5
  go_wp2_with first
    | ((with_reducible show wpList _ _ _ _ _ _); refine armL (.tmp 4) 31 rfl rfl rfl HLR.out ?_)
    | ((with_reducible show wpList _ _ _ _ _ _); refine armL (.tmp 5) 23 rfl rfl rfl HLX.out ?_)
  refine (HB1.out _).mono ?_
  rintro e' w1 ⟨rfl, hB1⟩
  have HL1 : Hid _ := (RuAt.of hr (blk_on hb hB1)).ldR
  have HX1 : Hid _ := load_x xl (blk_on hbx hB1)
  go_wp2_with first
    | ((with_reducible show wpList _ _ _ _ _ _); refine armL (.tmp 4) 31 rfl rfl rfl HL1.out ?_)
    | ((with_reducible show wpList _ _ _ _ _ _); refine armL (.tmp 5) 23 rfl rfl rfl HX1.out ?_)
  refine (HB2.out _).mono ?_
  rintro e' w2 ⟨rfl, hB2⟩
  have hA2 := hB1.trans (hB2.mono hB1.size)
  have HL2 : Hid _ := (RuAt.of hr (blk_on hb hA2)).ldR
  have HY2 : Hid _ := load_y yl (blk_on hby hA2)
  go_wp2_with first
    | ((with_reducible show wpList _ _ _ _ _ _); refine armL (.tmp 4) 31 rfl rfl rfl HL2.out ?_)
    | ((with_reducible show wpList _ _ _ _ _ _); refine armL (.tmp 6) 27 rfl rfl rfl HY2.out ?_)
  refine (HO1.out _).mono ?_
  rintro e' w3 ⟨rfl, hB3⟩
  have hA3 := hA2.trans (hB3.mono hA2.size)
  have HL3 : Hid _ := (RuAt.of hr (blk_on hb hA3)).ldR
  have HY3 : Hid _ := load_y yl (blk_on hby hA3)
  go_wp2_with first
    | ((with_reducible show wpList _ _ _ _ _ _); refine armL (.tmp 4) 31 rfl rfl rfl HL3.out ?_)
    | ((with_reducible show wpList _ _ _ _ _ _); refine armL (.tmp 6) 27 rfl rfl rfl HY3.out ?_)
  refine (HO2.out _).mono ?_
  rintro e' w4 ⟨rfl, hB4⟩
  have hA4 := hA3.trans (hB4.mono hA3.size)
  have HL4 : Hid _ := (RuAt.of hr (blk_on hb hA4)).ldR
  have HY4 : Hid _ := load_y yl (blk_on hby hA4)
  go_wp2_with first
    | ((with_reducible show wpList _ _ _ _ _ _); refine armL (.tmp 4) 31 rfl rfl rfl HL4.out ?_)
    | ((with_reducible show wpList _ _ _ _ _ _); refine armL (.tmp 6) 27 rfl rfl rfl HY4.out ?_)
  refine (HM1.out _).mono ?_
  rintro e' w5 ⟨rfl, hB5⟩
  obtain ⟨w6, hst6, b6, hB6⟩ := box_new Tryd.sizeOf23 w5 zero16V rfl (b8 l) (by rw [b8_length, ll]) (b8_one _)
  have HS6 : Hid _ := hst6
  have h46 := hB5.trans (hB6.mono hB5.size)
  have hA6 := hA4.trans (h46.mono hA4.size)
  have HL6 : Hid _ := (RuAt.of hr (blk_on hb hA6)).ldR
  have HY6 : Hid _ := load_y yl (blk_on hby hA6)
  clear hst6
  go_wp2_with first
    | ((with_reducible show wpList _ _ _ _ _ _); refine armL (.tmp 4) 31 rfl rfl rfl HL6.out ?_)
    | ((with_reducible show wpList _ _ _ _ _ _); refine armL (.tmp 6) 27 rfl rfl rfl HY6.out ?_)
    | ((with_reducible show wpList _ _ _ _ _ _); refine armS (.tmp 17) (.tmp 52) 23 rfl rfl rfl rfl HS6.out ?_)
  refine (HM2.out _).mono ?_
  rintro e' w7 ⟨rfl, hB7⟩
  obtain ⟨w8, hst8, b8', hB8⟩ := box_new Tryd.sizeOf23 w7 zero16V rfl (b8 l) (by rw [b8_length, ll]) (b8_one _)
  have HS8 : Hid _ := hst8
  have h68 := hB7.trans (hB8.mono hB7.size)
  have hA8 := hA6.trans (h68.mono hA6.size)
  have HM6 : Hid _ := load_x ll (blk_on b6 h68)
  have HM8 : Hid _ := load_x ll b8'
  have HEQ8 : Hid _ := HEQ.out w8
  have HTZ8 : Hid _ := HTZ.out w8 hA8
  clear hst8 b6 b8'
  go_wp2_with first
    | ((with_reducible show wpList _ _ _ _ _ _); refine armLg (.tmp 17) 23 rfl rfl rfl HM6.out ?_)
    | ((with_reducible show wpList _ _ _ _ _ _); refine armLg (.tmp 19) 23 rfl rfl rfl HM8.out ?_)
    | ((with_reducible show wpList _ _ _ _ _ _); refine armS (.tmp 19) (.tmp 59) 23 rfl rfl rfl rfl HS8.out ?_)
    | ((with_reducible show wpList _ _ _ _ _ _); refine armB .eql 23 23 (.tmp 80) (.tmp 81) rfl rfl rfl rfl (gdA6 _ _ _ _ _ _) HEQ8.out ?_)
  refine (awake_calls _ HTZ8.out).mono ?_
  rintro e' w9 ⟨rfl, hB9⟩
  have hA9 := hA8.trans (hB9.mono hA8.size)
  go_wp2
  go_ret
  exact ⟨rfl, hBw.trans (hA9.mono hBw.size)⟩

set_option maxRecDepth 100000 in
theorem mappingFinds_open {H : Type} {enc : TypeId × Value → H} {W : World} {base : Nat} (tb : Tz W) (v0 v1 v2 v3 : Value) {d0 d1 d2 d3 : DataW H} {p0 p1 p2 p3 : List MemPlace}
    (o0 : Value.okWide Tryd.prog W .any base 31 v0) (h0 : DataW.Trod enc Tryd.prog W 0 (fun _ => true) true 31 v0 d0 p0)
    (o1 : Value.okWide Tryd.prog W .any base 23 v1) (h1 : DataW.Trod enc Tryd.prog W 0 (fun _ => true) true 23 v1 d1 p1)
    (o2 : Value.okWide Tryd.prog W .any base 27 v2) (h2 : DataW.Trod enc Tryd.prog W 0 (fun _ => true) true 27 v2 d2 p2)
    (o3 : Value.okWide Tryd.prog W .any base 32 v3) (h3 : DataW.Trod enc Tryd.prog W 0 (fun _ => true) true 32 v3 d3 p3) :
    Calls Tryd.prog 5 #[v0, v1, v2, v3] W fun e w' => e = .returned (.bool true) ∧ Below W.heap.size W w' := by
  obtain ⟨r, rfl, hr⟩ := open_rule h0
  obtain ⟨x, rfl, xf, xl⟩ := open_a6 h1
  obtain ⟨y, rfl, yf, yl⟩ := open_a4 h2
  obtain ⟨k4, rfl, _, _, wk4⟩ := open_int Tryd.underlying32 o3 h3
  have hk4 := bounds_u16 wk4
  obtain ⟨p, rfl⟩ := Int.eq_ofNat_of_zero_le hk4.1
  exact mappingFinds_walk r hr x xf xl y yf yl p (by omega) W tb

end Go.Proofs.YtloadmpappjceaaDoor
