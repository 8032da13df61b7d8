/-
  The statement MappingOwns for every argument.
-/
import Derived.Test.YtloadmpappjceaaDoorMj2
namespace Go.Proofs.YtloadmpappjceaaDoor
open Go Go.RowKit Go.ChangeShapes Go.WideShapes Go.ChangeAt
set_option linter.unusedVariables false
set_option linter.unusedSimpArgs false


theorem four_box (w : World) (o1 o2 o3 o4 : Obj) : ((((w.alloc o1).alloc o2).alloc o3).alloc o4).heap[w.heap.size]? = some o1 ∧ ((((w.alloc o1).alloc o2).alloc o3).alloc o4).heap[w.heap.size + 1]? = some o2 ∧ ((((w.alloc o1).alloc o2).alloc o3).alloc o4).heap[w.heap.size + 2]? = some o3 ∧ ((((w.alloc o1).alloc o2).alloc o3).alloc o4).heap[w.heap.size + 3]? = some o4 ∧ Below w.heap.size w ((((w.alloc o1).alloc o2).alloc o3).alloc o4) := by
  obtain ⟨h1, h2, h3, hB⟩ := three_box w o1 o2 o3
  have hz : (((w.alloc o1).alloc o2).alloc o3).heap.size = w.heap.size + 3 := by simp
  have h4 := blk_new (((w.alloc o1).alloc o2).alloc o3) o4
  rw [hz] at h4
  exact ⟨blk_alloc h1 _, blk_alloc h2 _, blk_alloc h3 _, h4, hB.trans ((bA _ o4).mono hB.size)⟩
theorem owns_form (e : Ed) (y : List Int) (n : Nat) : ∃ (b : Bool) (g : Int), ownsE e y n = .tuple #[.bool b, .int .i64 g] := by
  unfold ownsE
  split
  · split
    · exact ⟨_, _, rfl⟩
    · exact ⟨_, _, rfl⟩
  · exact ⟨_, _, rfl⟩
theorem comes_form (r : Ru) (x y : List Int) (n : Nat) : ∃ (b : Bool) (g : Int), comesE r x y n = .tuple #[.bool b, .int .i64 g] := by
  unfold comesE
  split
  · exact ⟨_, _, rfl⟩
  · split
    · exact ⟨_, _, rfl⟩
    · exact ⟨_, _, rfl⟩

set_option maxHeartbeats 8000000 in
set_option maxRecDepth 100000 in
theorem mappingOwns_walk (e : Ed) (he : e.In) (r : Ru) (hr : r.In) (x : List Int) (xf : FitB x) (xl : x.length = 16) (y : List Int) (yf : FitB y) (yl : y.length = 4) (n : Nat) (hn : n < 65536) (w : World) (ht : Tz w) :
    Calls Tryd.prog 6 #[EV e, RV r, .agg (b8 x).toArray, A4L y, .int .u16 n] w fun e w' => e = .returned (.bool true) ∧ Below w.heap.size w w' := by
  obtain ⟨hbe, hb, hbx, hby, hBw⟩ := four_box w (EO e) (RO r) (XO x) (YO y)
  obtain ⟨ob, og, hoe⟩ := owns_form e y n
  obtain ⟨cb, cg, hce⟩ := comes_form r x y n
  have HO1 : Hid (∀ W, Calls Tryd.prog 25 #[EV e, A4L y, .int .u16 n] W fun e' w' => e' = .returned (.tuple #[.bool ob, .int .i64 og]) ∧ Below W.heap.size W w') := fun W => by have := Owns_any e he y yf yl n hn W; rw [hoe] at this; exact this
  have HO2 : Hid (∀ W, Calls Tryd.prog 26 #[EV e, A4L y, .int .u16 n] W fun e' w' => e' = .returned (.tuple #[.bool ob, .int .i64 og]) ∧ Below W.heap.size W w') := fun W => by have := ROwns_any e he y yf yl n hn W; rw [hoe] at this; exact this
  have HC1 : Hid (∀ W, Calls Tryd.prog 27 #[RV r, .agg (b8 x).toArray, A4L y, .int .u16 n] W fun e' w' => e' = .returned (.tuple #[.bool cb, .int .i64 cg]) ∧ Below W.heap.size W w') := fun W => by have := Comes_any r hr x xf xl y yf yl n hn W; rw [hce] at this; exact this
  have HC2 : Hid (∀ W, Calls Tryd.prog 28 #[RV r, .agg (b8 x).toArray, A4L y, .int .u16 n] W fun e' w' => e' = .returned (.tuple #[.bool cb, .int .i64 cg]) ∧ Below W.heap.size W w') := fun W => by have := RComes_any r hr x xf xl y yf yl n hn W; rw [hce] at this; exact this
  have HTZ : Hid (∀ W', Below ((((w.alloc (EO e)).alloc (RO r)).alloc (XO x)).alloc (YO y)).heap.size ((((w.alloc (EO e)).alloc (RO r)).alloc (XO x)).alloc (YO y)) W' → Tz W') := fun W' h => ht.on (hBw.trans (h.mono hBw.size))
  have HAT : Hid (∀ W b, W.heap[b]? = some (EO e) → EdAt W b e) := fun W b hh => EdAt.of he.k4 he.k6 he.kw hh
  have HLE : Hid _ := (EdAt.of he.k4 he.k6 he.kw hbe).ldE
  have HLY : Hid _ := load_y yl hby
  generalize hW : (((w.alloc (EO e)).alloc (RO r)).alloc (XO x)).alloc (YO y) = W at *
  have q1 : (ob == ob) = true := beq_self_eq_true ob
  have q2 : (og == og) = true := beq_self_eq_true og
  have q3 : (cb == cb) = true := beq_self_eq_true cb
  have q4 : (cg == cg) = true := beq_self_eq_true cg
  clear hoe hce he
  go_enter Tryd.func6, Tryd.ntmps6
  go_wp2_with first
    | ((with_reducible show wpList _ _ _ _ _ _); refine armL (.tmp 5) 45 rfl rfl rfl HLE.out ?_)
    | ((with_reducible show wpList _ _ _ _ _ _); refine armL (.tmp 8) 27 rfl rfl rfl HLY.out ?_)
  refine (HO1.out _).mono ?_
  rintro e' w1 ⟨rfl, hB1⟩
  have HE1 : Hid _ := (HAT.out w1 _ (blk_on hbe hB1)).ldE
  have HY1 : Hid _ := load_y yl (blk_on hby hB1)
  go_wp2_with first
    | ((with_reducible show wpList _ _ _ _ _ _); refine armL (.tmp 5) 45 rfl rfl rfl HE1.out ?_)
    | ((with_reducible show wpList _ _ _ _ _ _); refine armL (.tmp 8) 27 rfl rfl rfl HY1.out ?_)
  refine (HO2.out _).mono ?_
  rintro e' w2 ⟨rfl, hB2⟩
  have hA2 := hB1.trans (hB2.mono hB1.size)
  have HL2 : Hid _ := (RuAt.of hr (blk_on hb hA2)).ldR
  have HX2 : Hid _ := load_x xl (blk_on hbx hA2)
  have HY2 : Hid _ := load_y yl (blk_on hby hA2)
  go_wp2_with first
    | ((with_reducible show wpList _ _ _ _ _ _); refine armL (.tmp 6) 31 rfl rfl rfl HL2.out ?_)
    | ((with_reducible show wpList _ _ _ _ _ _); refine armL (.tmp 7) 23 rfl rfl rfl HX2.out ?_)
    | ((with_reducible show wpList _ _ _ _ _ _); refine armL (.tmp 8) 27 rfl rfl rfl HY2.out ?_)
  refine (HC1.out _).mono ?_
  rintro e' w3 ⟨rfl, hB3⟩
  have hA3 := hA2.trans (hB3.mono hA2.size)
  have HL3 : Hid _ := (RuAt.of hr (blk_on hb hA3)).ldR
  have HX3 : Hid _ := load_x xl (blk_on hbx hA3)
  have HY3 : Hid _ := load_y yl (blk_on hby hA3)
  go_wp2_with first
    | ((with_reducible show wpList _ _ _ _ _ _); refine armL (.tmp 6) 31 rfl rfl rfl HL3.out ?_)
    | ((with_reducible show wpList _ _ _ _ _ _); refine armL (.tmp 7) 23 rfl rfl rfl HX3.out ?_)
    | ((with_reducible show wpList _ _ _ _ _ _); refine armL (.tmp 8) 27 rfl rfl rfl HY3.out ?_)
  refine (HC2.out _).mono ?_
  rintro e' w4 ⟨rfl, hB4⟩
  have hA4 := hA3.trans (hB4.mono hA3.size)
  have HTZ4 : Hid _ := HTZ.out w4 hA4
  go_wp2_with fail
  refine (awake_calls _ HTZ4.out).mono ?_
  rintro e' w5 ⟨rfl, hB5⟩
  have hA5 := hA4.trans (hB5.mono hA4.size)
  go_wp2
  go_ret
  exact ⟨rfl, hBw.trans (hA5.mono hBw.size)⟩

set_option maxRecDepth 100000 in
theorem mappingOwns_open {H : Type} {enc : TypeId × Value → H} {W : World} {base : Nat} (tb : Tz W) (v0 v1 v2 v3 v4 : Value) {d0 d1 d2 d3 d4 : DataW H} {p0 p1 p2 p3 p4 : List MemPlace}
    (o0 : Value.okWide Tryd.prog W .any base 45 v0) (h0 : DataW.Trod enc Tryd.prog W 0 (fun _ => true) true 45 v0 d0 p0)
    (o1 : Value.okWide Tryd.prog W .any base 31 v1) (h1 : DataW.Trod enc Tryd.prog W 0 (fun _ => true) true 31 v1 d1 p1)
    (o2 : Value.okWide Tryd.prog W .any base 23 v2) (h2 : DataW.Trod enc Tryd.prog W 0 (fun _ => true) true 23 v2 d2 p2)
    (o3 : Value.okWide Tryd.prog W .any base 27 v3) (h3 : DataW.Trod enc Tryd.prog W 0 (fun _ => true) true 27 v3 d3 p3)
    (o4 : Value.okWide Tryd.prog W .any base 32 v4) (h4 : DataW.Trod enc Tryd.prog W 0 (fun _ => true) true 32 v4 d4 p4) :
    Calls Tryd.prog 6 #[v0, v1, v2, v3, v4] W fun e w' => e = .returned (.bool true) ∧ Below W.heap.size W w' := by
  obtain ⟨e, rfl, he⟩ := open_edge h0
  obtain ⟨r, rfl, hr⟩ := open_rule h1
  obtain ⟨x, rfl, xf, xl⟩ := open_a6 h2
  obtain ⟨y, rfl, yf, yl⟩ := open_a4 h3
  obtain ⟨k4, rfl, _, _, wk4⟩ := open_int Tryd.underlying32 o4 h4
  have hk4 := bounds_u16 wk4
  obtain ⟨p, rfl⟩ := Int.eq_ofNat_of_zero_le hk4.1
  exact mappingOwns_walk e he r hr x xf xl y yf yl p (by omega) W tb

end Go.Proofs.YtloadmpappjceaaDoor
