/-
  The statement MappingBack for every argument.
-/
import Derived.Test.YtloadmpappjceaaDoorMi1
namespace Go.Proofs.YtloadmpappjceaaDoor
open Go Go.RowKit Go.ChangeShapes Go.WideShapes Go.ChangeAt
set_option linter.unusedVariables false
set_option linter.unusedSimpArgs false

theorem edge_two (r : Ru) (hr : r.In) (v : Nat) : (r.Ok ∧ ckE r = 0 ∧ v < 2 ^ r.ea.toNat ∧ edgE r v = .tuple #[EV (edg r v), .int .i64 0]) ∨ ∃ g : Int, g ≠ 0 ∧ edgE r v = .tuple #[EV zeroEd, .int .i64 g] := by
  unfold edgE
  by_cases c : ckE r = 0
  · rw [if_pos c]
    by_cases c2 : v < 2 ^ r.ea.toNat
    · rw [if_pos c2]; exact .inl ⟨Ru.ok_of hr c, c, c2, rfl⟩
    · rw [if_neg c2]; exact .inr ⟨101, by decide, rfl⟩
  · rw [if_neg c]; exact .inr ⟨_, c, rfl⟩
theorem bits_own {r : Ru} (hr : r.In) (hok : r.Ok) (h0 : ckE r = 0) {v : Nat} (hv : v < 2 ^ r.ea.toNat) : bitsE r (edg r v).ow = UE v 0 := by
  obtain ⟨a, b, d, h, q, o, hn⟩ := hok.nums
  rw [hn.eb, Int.toNat_natCast] at hv
  have hh := own_has hok hn hv
  unfold bitsE
  rw [if_pos h0, edg_ow, has6, decide_eq_true hh.1, if_pos rfl, hn.e6, hn.eb, Int.toNat_natCast, Int.toNat_natCast, hh.2]
theorem bits_in {r : Ru} (hok : r.Ok) (h0 : ckE r = 0) {v : Nat} (hv : v < 2 ^ r.ea.toNat) {x : List Int} (xf : FitB x) (xl : x.length = 16) (hx : has6 (edg r v).l6 (edg r v).n6 x = true) : bitsE r x = UE v 0 := by
  obtain ⟨a, b, d, h, q, o, hn⟩ := hok.nums
  rw [hn.eb, Int.toNat_natCast] at hv
  have e1 : has6 (edg r v).l6 (edg r v).n6 x = decide (blR (r.n6 + r.ea) x = endL r v) := rfl
  rw [e1, decide_eq_true_eq, end_has hok hn hv xf xl] at hx
  unfold bitsE
  rw [if_pos h0, has6, decide_eq_true hx.1, if_pos rfl, hn.e6, hn.eb, Int.toNat_natCast, Int.toNat_natCast, hx.2]
theorem bits_form (r : Ru) (x : List Int) : ∃ n e : Int, bitsE r x = UE n e := by
  unfold bitsE
  split
  · split
    · exact ⟨_, _, rfl⟩
    · exact ⟨_, _, rfl⟩
  · exact ⟨_, _, rfl⟩
theorem of_nums {r : Ru} {a b d h q o : Nat} (hn : Nums r a b d h q o) (h0 : ckE r = 0) (y : List Int) (n : Nat) : ofV r y n = if hasL r.l4 r.n4 y = true then (if 0 < q then (if isOnes o n then (accN y d h * 2 ^ q + pidN o q n, 0) else (0, 91)) else (accN y d h, 0)) else (0, 82) := by
  unfold ofV
  rw [if_pos h0, hn.eq, hn.e4, hn.eh, hn.eo, Int.toNat_natCast, Int.toNat_natCast, Int.toNat_natCast, Int.toNat_natCast]
  by_cases c : 0 < q
  · rw [if_pos c, if_pos (show (0 : Int) < (q : Int) by omega)]
  · rw [if_neg c, if_neg (show ¬ (0 : Int) < (q : Int) by omega)]
theorem of_owns {r : Ru} (hok : r.Ok) (h0 : ckE r = 0) {v : Nat} (hv : v < 2 ^ r.ea.toNat) {y : List Int} (yf : FitB y) (yl : y.length = 4) (n : Nat) : ownsB (edg r v) y n = true ↔ ((ofV r y n).2 = 0 ∧ (ofV r y n).1 = v) := by
  obtain ⟨a, b, d, h, q, o, hn⟩ := hok.nums
  rw [hn.eb, Int.toNat_natCast] at hv
  rw [owns_iff hok hn hv yf yl n, of_nums hn h0]
  have ehas : hasL r.l4 r.n4 y = true ↔ blR r.n4 y = r.l4 := by unfold hasL; rw [decide_eq_true_eq]
  have hq2 := Nat.two_pow_pos q
  have hdm := Nat.div_add_mod v (2 ^ q)
  by_cases c1 : hasL r.l4 r.n4 y = true
  · rw [if_pos c1, ← ehas]
    by_cases c2 : 0 < q
    · rw [if_pos c2]
      by_cases c3 : isOnes o n
      · rw [if_pos c3]
        have hp := pid_lt o q n
        constructor
        · rintro ⟨_, e1, e2⟩
          refine ⟨rfl, ?_⟩
          rw [e1, (e2 c2).2, Nat.mul_comm]
          exact hdm
        · rintro ⟨_, e⟩
          refine ⟨c1, ?_, fun _ => ⟨c3, ?_⟩⟩
          · rw [← e, Nat.mul_comm, Nat.mul_add_div hq2, Nat.div_eq_of_lt hp, Nat.add_zero]
          · rw [← e, Nat.mul_comm, Nat.mul_add_mod, Nat.mod_eq_of_lt hp]
      · rw [if_neg c3]
        exact ⟨fun k => absurd (k.2.2 c2).1 c3, fun k => by have := k.1; simp at this⟩
    · rw [if_neg c2]
      obtain rfl : q = 0 := by omega
      simp only [Nat.pow_zero, Nat.div_one]
      exact ⟨fun k => ⟨trivial, k.2.1⟩, fun k => ⟨c1, k.2, fun z => by omega⟩⟩
  · rw [if_neg c1]
    exact ⟨fun k => absurd (ehas.2 k.1) c1, fun k => by have := k.1; simp at this⟩

set_option maxHeartbeats 8000000 in
set_option maxRecDepth 100000 in
theorem mappingBack_walk (r : Ru) (hr : r.In) (v : Nat) (hv : v < 18446744073709551616) (x : List Int) (xf : FitB x) (xl : x.length = 16) (y : List Int) (yf : FitB y) (yl : y.length = 4) (n : Nat) (hn : n < 65536) (w : World) (ht : Tz w) :
    Calls Tryd.prog 7 #[RV r, .int .u64 v, .agg (b8 x).toArray, A4L y, .int .u16 n] w fun e w' => e = .returned (.bool true) ∧ Below w.heap.size w w' := by
  obtain ⟨hb, hbx, hby, hBw⟩ := three_box w (RO r) (XO x) (YO y)
  have HTZ : Hid (Tz (((w.alloc (RO r)).alloc (XO x)).alloc (YO y))) := ht.on hBw
  have HE : Hid _ := fun W => Edge_any r hr v hv W
  generalize hW : ((w.alloc (RO r)).alloc (XO x)).alloc (YO y) = W at *
  rcases edge_two r hr v with ⟨hok, h0, hv2, he⟩ | ⟨g, hg, he⟩
  · rw [he] at HE
    have hi := edg_in hok v
    have HBO : Hid (∀ W, Calls Tryd.prog 19 #[RV r, A6 (edg r v).ow] W fun e' w' => e' = .returned (UE v 0) ∧ Below W.heap.size W w') := fun W => by have := Bits_any r hr (edg r v).ow hi.fw hi.kw W; rw [bits_own hr hok h0 hv2] at this; exact this
    have HK6 : Hid (∀ W, Calls Tryd.prog 29 #[P6 (edg r v).l6 (edg r v).n6] W fun e' w' => e' = .returned (.int .i64 0) ∧ Below W.heap.size W w') := fun W => by have := RCheck6_calls (edg r v).l6 (edg r v).n6 W hi.f6 hi.k6 hi.b6; rw [edg_ok6 hok v] at this; exact this
    have HK4 : Hid (∀ W, Calls Tryd.prog 30 #[P4L (edg r v).l4 (edg r v).n4] W fun e' w' => e' = .returned (.int .i64 0) ∧ Below W.heap.size W w') := fun W => by have := RCheck4_L (edg r v).l4 (edg r v).n4 W hi.f4 hi.k4 hi.b4; rw [edg_ok4 hok v] at this; exact this
    have HH6 : Hid (∀ W, Calls Tryd.prog 31 #[P6 (edg r v).l6 (edg r v).n6, .agg (b8 x).toArray] W fun e' w' => e' = .returned (.tuple #[.bool (has6 (edg r v).l6 (edg r v).n6 x), .int .i64 0]) ∧ Below W.heap.size W w') := fun W => by have := RHas6_calls (edg r v).l6 (edg r v).n6 x W hi.f6 hi.k6 xf xl hi.b6; rw [edg_ok6 hok v, Bool.true_and] at this; exact this
    obtain ⟨bn, be, hbe⟩ := bits_form r x
    have HBX2 : Hid (∀ W, Calls Tryd.prog 19 #[RV r, .agg (b8 x).toArray] W fun e' w' => e' = .returned (UE bn be) ∧ Below W.heap.size W w') := fun W => by have := Bits_any r hr x xf xl W; rw [hbe] at this; exact this
    have hin : has6 (edg r v).l6 (edg r v).n6 x = true → bn = v ∧ be = 0 := fun hx => by
      have := bits_in hok h0 hv2 xf xl hx
      rw [hbe] at this
      simpa using this
    have HOW : Hid (∀ W, Calls Tryd.prog 25 #[.agg (edC (edg r v)).toArray, A4L y, .int .u16 n] W fun e' w' => e' = .returned (.tuple #[.bool (ownsB (edg r v) y n), .int .i64 0]) ∧ Below W.heap.size W w') := fun W => by have := Owns_any (edg r v) hi y yf yl n hn W; rw [owns_ok hok] at this; exact this
    have HOF : Hid _ := fun W => Of_r r hr y yf yl n hn W
    have hof := of_owns hok h0 hv2 yf yl n
    have HAT : Hid (∀ W b, W.heap[b]? = some (EO (edg r v)) → EdAt W b (edg r v)) := fun W b hh => EdAt.of hi.k4 hi.k6 hi.kw hh
    have hln := edC_length hi.k4 hi.k6 hi.kw
    have hon := edC_one (edg r v)
    have hvv : ((v : Int) != (v : Int)) = false := by simp
    have hvv2 : ((v : Int) == (v : Int)) = true := by simp
    have HIN : Hid _ := hin
    have HOFI : Hid _ := hof
    generalize ownsB (edg r v) y n = ob at *
    generalize has6 (edg r v).l6 (edg r v).n6 x = bh at *
    generalize (ofV r y n).1 = mm at *
    generalize (ofV r y n).2 = kk at *
    unfold EV at HE
    clear he hi hok h0 hv2 hbe hin hof
    generalize edg r v = E at *
    go_enter Tryd.func7, Tryd.ntmps7
    go_wp2_with fail
    refine (awake_calls _ HTZ.out).mono ?_
    rintro e' wA ⟨rfl, hBA⟩
    have HLR : Hid _ := (RuAt.of hr (blk_on hb hBA)).ldR
    go_wp2_with first
      | ((with_reducible show wpList _ _ _ _ _ _); refine armL (.tmp 5) 31 rfl rfl rfl HLR.out ?_)
    refine (HE.out _).mono ?_
    rintro e' w2 ⟨rfl, hB2⟩
    obtain ⟨w3, hst3, b3, hB3⟩ := box_new Tryd.sizeOf45 w2 zeroEL rfl (edC E) hln hon
    have HS3 : Hid _ := hst3
    have hA3 := (hBA.trans (hB2.mono hBA.size)).trans (hB3.mono (Nat.le_trans hBA.size hB2.size))
    have HL3 : Hid _ := (RuAt.of hr (blk_on hb hA3)).ldR
    have HW3 : Hid _ := (HAT.out w3 _ b3).ldw
    clear hst3
    go_wp2_with first
      | ((with_reducible show wpList _ _ _ _ _ _); refine armL (.tmp 5) 31 rfl rfl rfl HL3.out ?_)
      | ((with_reducible show wpList _ _ _ _ _ _); refine armL (.tmp 38) 23 rfl rfl rfl HW3.out ?_)
      | ((with_reducible show wpList _ _ _ _ _ _); refine armS (.tmp 11) (.tmp 29) 45 rfl rfl rfl rfl HS3.out ?_)
    refine (HBO.out _).mono ?_
    rintro e' w4 ⟨rfl, hB4⟩
    have HX4 : Hid _ := (HAT.out w4 _ (blk_on b3 hB4)).ld6
    go_wp2_with first
      | ((with_reducible show wpList _ _ _ _ _ _); refine armLg (.tmp 51) 25 rfl rfl rfl HX4.out ?_)
    refine (HK6.out _).mono ?_
    rintro e' w5 ⟨rfl, hB5⟩
    have h35 := hB4.trans (hB5.mono hB4.size)
    have HX5 : Hid _ := (HAT.out w5 _ (blk_on b3 h35)).ld4
    go_wp2_with first
      | ((with_reducible show wpList _ _ _ _ _ _); refine armLg (.tmp 57) 29 rfl rfl rfl HX5.out ?_)
    refine (HK4.out _).mono ?_
    rintro e' w6 ⟨rfl, hB6⟩
    have h36 := h35.trans (hB6.mono h35.size)
    have hA6 := hA3.trans (h36.mono hA3.size)
    have HX6 : Hid _ := (HAT.out w6 _ (blk_on b3 h36)).ld6
    have HXX6 : Hid _ := load_x xl (blk_on hbx hA6)
    go_wp2_with first
      | ((with_reducible show wpList _ _ _ _ _ _); refine armL (.tmp 63) 25 rfl rfl rfl HX6.out ?_)
      | ((with_reducible show wpList _ _ _ _ _ _); refine armL (.tmp 7) 23 rfl rfl rfl HXX6.out ?_)
    refine (HH6.out _).mono ?_
    rintro e' w7 ⟨rfl, hB7⟩
    have h37 := h36.trans (hB7.mono h36.size)
    have hA7 := hA3.trans (h37.mono hA3.size)
    have HL7 : Hid _ := (RuAt.of hr (blk_on hb hA7)).ldR
    have HXX7 : Hid _ := load_x xl (blk_on hbx hA7)
    go_wp2_with first
      | ((with_reducible show wpList _ _ _ _ _ _); refine armL (.tmp 5) 31 rfl rfl rfl HL7.out ?_)
      | ((with_reducible show wpList _ _ _ _ _ _); refine armL (.tmp 7) 23 rfl rfl rfl HXX7.out ?_)
    refine (HBX2.out _).mono ?_
    rintro e' w8 ⟨rfl, hB8⟩
    have h38 := h37.trans (hB8.mono h37.size)
    have hA8 := hA3.trans (h38.mono hA3.size)
    have HX8 : Hid _ := (HAT.out w8 _ (blk_on b3 h38)).ldE
    have HY8 : Hid _ := load_y yl (blk_on hby hA8)
    have hin := HIN.out
    clear HIN
    cases bh
    focus
      clear hin
    rotate_left
    focus
      obtain ⟨rfl, rfl⟩ := hin rfl
      clear hin
    all_goals
      go_wp2_with first
        | ((with_reducible show wpList _ _ _ _ _ _); refine armL (.tmp 11) 45 rfl rfl rfl HX8.out ?_)
        | ((with_reducible show wpList _ _ _ _ _ _); refine armL (.tmp 8) 27 rfl rfl rfl HY8.out ?_)
      refine (HOW.out _).mono ?_
      rintro e' w9 ⟨rfl, hB9⟩
      have hA9 := hA8.trans (hB9.mono hA8.size)
      have HL9 : Hid _ := (RuAt.of hr (blk_on hb hA9)).ldR
      have HY9 : Hid _ := load_y yl (blk_on hby hA9)
      go_wp2_with first
        | ((with_reducible show wpList _ _ _ _ _ _); refine armL (.tmp 5) 31 rfl rfl rfl HL9.out ?_)
        | ((with_reducible show wpList _ _ _ _ _ _); refine armL (.tmp 8) 27 rfl rfl rfl HY9.out ?_)
      refine (HOF.out _).mono ?_
      rintro e' wE ⟨rfl, hBE⟩
      have hAE := hBw.trans ((hA9.trans (hBE.mono hA9.size)).mono hBw.size)
      have hof := HOFI.out
      clear HOFI
      by_cases c1 : kk = 0
      · by_cases c2 : mm = v
        · have hob : ob = true := hof.2 ⟨c1, c2⟩
          subst c1 c2 hob
          clear hof
          go_wp2
          go_ret
          exact ⟨rfl, hAE⟩
        · have hob : ob = false := by cases ob; rfl; exact absurd (hof.1 rfl).2 c2
          have c3 : ((mm : Int) == (v : Int)) = false := beq_eq_false_iff_ne.2 (fun k => c2 (Int.ofNat.inj k))
          subst c1 hob
          clear hof c2
          go_wp2
          go_ret
          exact ⟨rfl, hAE⟩
      · have hob : ob = false := by cases ob; rfl; exact absurd (hof.1 rfl).1 c1
        have c3 : (kk == 0) = false := by simpa using c1
        subst hob
        clear hof c1
        go_wp2
        go_ret
        exact ⟨rfl, hAE⟩
  · rw [he] at HE
    have q0 : (g != 0) = true := by simpa using hg
    have HEQ : Hid _ := eqlE zeroEd zero_fit
    unfold EV at HE HEQ
    rw [zeroEd_c] at HE HEQ
    clear he hg
    go_enter Tryd.func7, Tryd.ntmps7
    go_wp2_with fail
    refine (awake_calls _ HTZ.out).mono ?_
    rintro e' wA ⟨rfl, hBA⟩
    have HLR : Hid _ := (RuAt.of hr (blk_on hb hBA)).ldR
    go_wp2_with first
      | ((with_reducible show wpList _ _ _ _ _ _); refine armL (.tmp 5) 31 rfl rfl rfl HLR.out ?_)
    refine (HE.out _).mono ?_
    rintro e' w2 ⟨rfl, hB2⟩
    obtain ⟨w3, hst3, b3, hB3⟩ := box_new Tryd.sizeOf45 w2 zeroEL rfl zeroEL rfl (by decide)
    have HS3 : Hid _ := hst3
    have hA3 := (hBA.trans (hB2.mono hBA.size)).trans (hB3.mono (Nat.le_trans hBA.size hB2.size))
    have HX3 : Hid _ := agg_load (t := 45) Tryd.isAgg45 Tryd.sizeOf45 rfl (CellsAt.of_blk b3)
    have HEQ3 : Hid _ := HEQ.out w3
    clear hst3 b3
    go_wp2_with first
      | ((with_reducible show wpList _ _ _ _ _ _); refine armL (.tmp 11) 45 rfl rfl rfl HX3.out ?_)
      | ((with_reducible show wpList _ _ _ _ _ _); refine armS (.tmp 11) (.tmp 29) 45 rfl rfl rfl rfl HS3.out ?_)
      | ((with_reducible show wpList _ _ _ _ _ _); refine armV (Op.build 45 #[]) rfl rfl (v := .agg zeroEL.toArray) (by kernel_rfl) ?_)
      | ((with_reducible show wpList _ _ _ _ _ _); refine armB .eql 45 45 (.tmp 33) (.tmp 34) rfl rfl rfl rfl (gdE _ _ _ _ _ _) HEQ3.out ?_)
    go_ret
    exact ⟨rfl, hBw.trans (hA3.mono hBw.size)⟩

set_option maxRecDepth 100000 in
theorem mappingBack_open {H : Type} {enc : TypeId × Value → H} {W : World} {base : Nat} (tb : Tz W) (v0 v1 v2 v3 v4 : Value) {d0 d1 d2 d3 d4 : DataW H} {p0 p1 p2 p3 p4 : List MemPlace}
    (o0 : Value.okWide Tryd.prog W .any base 31 v0) (h0 : DataW.Trod enc Tryd.prog W 0 (fun _ => true) true 31 v0 d0 p0)
    (o1 : Value.okWide Tryd.prog W .any base 38 v1) (h1 : DataW.Trod enc Tryd.prog W 0 (fun _ => true) true 38 v1 d1 p1)
    (o2 : Value.okWide Tryd.prog W .any base 23 v2) (h2 : DataW.Trod enc Tryd.prog W 0 (fun _ => true) true 23 v2 d2 p2)
    (o3 : Value.okWide Tryd.prog W .any base 27 v3) (h3 : DataW.Trod enc Tryd.prog W 0 (fun _ => true) true 27 v3 d3 p3)
    (o4 : Value.okWide Tryd.prog W .any base 32 v4) (h4 : DataW.Trod enc Tryd.prog W 0 (fun _ => true) true 32 v4 d4 p4) :
    Calls Tryd.prog 7 #[v0, v1, v2, v3, v4] W fun e w' => e = .returned (.bool true) ∧ Below W.heap.size W w' := by
  obtain ⟨r, rfl, hr⟩ := open_rule h0
  obtain ⟨k, rfl, _, _, wk⟩ := open_int Tryd.underlying38 o1 h1
  have hk := bounds_u64 wk
  obtain ⟨n, rfl⟩ := Int.eq_ofNat_of_zero_le hk.1
  obtain ⟨x, rfl, xf, xl⟩ := open_a6 h2
  obtain ⟨y, rfl, yf, yl⟩ := open_a4 h3
  obtain ⟨k4, rfl, _, _, wk4⟩ := open_int Tryd.underlying32 o4 h4
  have hk4 := bounds_u16 wk4
  obtain ⟨p, rfl⟩ := Int.eq_ofNat_of_zero_le hk4.1
  exact mappingBack_walk r hr n (by omega) x xf xl y yf yl p (by omega) W tb

end Go.Proofs.YtloadmpappjceaaDoor
