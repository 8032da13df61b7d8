/-
  The statement MappingAll for every argument.
-/
import Derived.Test.YtloadmpappjceaaDoorMi3
namespace Go.Proofs.YtloadmpappjceaaDoor
open Go Go.RowKit Go.ChangeShapes Go.WideShapes Go.ChangeAt
set_option linter.unusedVariables false
set_option linter.unusedSimpArgs false

set_option maxHeartbeats 2000000 in
set_option maxRecDepth 100000 in
theorem nobody_calls (r : Ru) (hr : r.In) (hok : r.Ok) (n : Nat) (hn : n < 65536) (hq : 0 < qB r) (hi : ¬ isOnes r.off.toNat n) (w : World) :
    Calls Tryd.prog 32 #[RV r, .int .u16 n] w fun e w' => e = .returned (.bool true) ∧ Below w.heap.size w w' := by
  have hB0 := bA w (RO r)
  have hb := blk_new w (RO r)
  have hm := hok.mid
  obtain ⟨a, b, d, h, q, o, hnn⟩ := hok.nums
  have HSH : Hid (∀ W, Calls Tryd.prog 35 #[RV r] W fun e w' => e = .returned (.tuple #[.int .i64 (q : Nat), .bool true]) ∧ Below W.heap.size W w') := fun W => by
    have := Shared_any r hr hm W
    rw [decide_eq_true hq, hnn.eq] at this
    exact this
  have HPO : Hid (∀ W, Calls Tryd.prog 51 #[.int .i64 o, .int .i64 q, .int .u16 n] W fun e w' => e = .returned (OfE 0 false 0) ∧ Below W.heap.size W w') := fun W => by
    have := ROf_yes o q n W hnn.off hnn.psid hn
    rw [hnn.eo, Int.toNat_natCast] at hi
    rw [show ofE o q n = OfE 0 false 0 from if_neg hi] at this
    exact this
  have HOFF : Hid (r.off = o) := hnn.eo
  have HLR : Hid _ := (RuAt.of hr hb).ldR
  generalize hW : w.alloc (RO r) = W at *
  clear hnn hok hm hq hi
  go_enter Tryd.func32, Tryd.ntmps32
  go_wp2_with first
    | ((with_reducible show wpList _ _ _ _ _ _); refine armL (.tmp 2) 31 rfl rfl rfl HLR.out ?_)
  refine (HSH.out _).mono ?_
  rintro e w2 ⟨rfl, hB2⟩
  have c23 := (RuAt.of hr (blk_on hb hB2)).c23
  rw [HOFF.out] at c23
  go_wp2_with fail
  refine (HPO.out _).mono ?_
  rintro e w3 ⟨rfl, hB3⟩
  go_wp2
  go_ret
  exact ⟨rfl, (hB0.trans (hB2.mono hB0.size)).trans (hB3.mono (Nat.le_trans hB0.size hB2.size))⟩
theorem of_bad {r : Ru} (hr : r.In) {y : List Int} {n : Nat} (h : (ofV r y n).2 ≠ 0) : (ofV r y n).1 = 0 ∧ ((ofV r y n).2 = 91 → r.Ok ∧ 0 < qB r ∧ ¬ isOnes r.off.toNat n) := by
  unfold ofV at h ⊢
  by_cases c : ckE r = 0
  · rw [if_pos c] at h ⊢
    by_cases c1 : hasL r.l4 r.n4 y = true
    · rw [if_pos c1] at h ⊢
      by_cases c2 : 0 < qB r
      · rw [if_pos c2] at h ⊢
        by_cases c3 : isOnes r.off.toNat n
        · rw [if_pos c3] at h; exact absurd rfl h
        · rw [if_neg c3]; exact ⟨rfl, fun _ => ⟨Ru.ok_of hr c, c2, c3⟩⟩
      · rw [if_neg c2] at h; exact absurd rfl h
    · rw [if_neg c1]; exact ⟨rfl, fun k => by simp at k⟩
  · rw [if_neg c]
    refine ⟨rfl, fun k => ?_⟩
    unfold ckE at k
    split at k
    · split at k <;> simp at k
    · simp at k

set_option maxHeartbeats 8000000 in
set_option maxRecDepth 100000 in
theorem mappingAll_walk (r : Ru) (hr : r.In) (y : List Int) (yf : FitB y) (yl : y.length = 4) (n : Nat) (hn : n < 65536) (w : World) (ht : Tz w) :
    Calls Tryd.prog 9 #[RV r, A4L y, .int .u16 n] w fun e w' => e = .returned (.bool true) ∧ Below w.heap.size w w' := by
  obtain ⟨hb, hby, hBw⟩ := two_box' w (RO r) (YO y)
  have HTZ : Hid (Tz ((w.alloc (RO r)).alloc (YO y))) := ht.on hBw
  have HOF : Hid _ := fun W => Of_r r hr y yf yl n hn W
  generalize hW : (w.alloc (RO r)).alloc (YO y) = W at *
  by_cases h0 : (ofV r y n).2 = 0
  · obtain ⟨hok, hck, hlt⟩ := of_ok hr h0
    have h64 : (ofV r y n).1 < 18446744073709551616 := by
      have h1 : 2 ^ r.ea.toNat ≤ 2 ^ 48 := Nat.pow_le_pow_right (by decide) (by have := hok.ea; omega)
      omega
    have hi := edg_in hok (ofV r y n).1
    have HE : Hid (∀ W, Calls Tryd.prog 17 #[RV r, .int .u64 (ofV r y n).1] W fun e' w' => e' = .returned (.tuple #[.agg (edC (edg r (ofV r y n).1)).toArray, .int .i64 0]) ∧ Below W.heap.size W w') := fun W => by
      have := Edge_any r hr (ofV r y n).1 h64 W
      have e : edgE r (ofV r y n).1 = .tuple #[EV (edg r (ofV r y n).1), .int .i64 0] := by unfold edgE; rw [if_pos hck, if_pos hlt]
      rw [e] at this
      exact this
    have HOW : Hid (∀ W, Calls Tryd.prog 25 #[.agg (edC (edg r (ofV r y n).1)).toArray, A4L y, .int .u16 n] W fun e' w' => e' = .returned (.tuple #[.bool true, .int .i64 0]) ∧ Below W.heap.size W w') := fun W => by
      have := Owns_any (edg r (ofV r y n).1) hi y yf yl n hn W
      rw [owns_ok hok, (of_owns hok hck hlt yf yl n).2 ⟨h0, rfl⟩] at this
      exact this
    have HMP : Hid (∀ W, Calls Tryd.prog 23 #[RV r, A4L y, .int .u16 n] W fun e' w' => e' = .returned (.tuple #[.agg (b8 (edg r (ofV r y n).1).ow).toArray, .int .i64 0]) ∧ Below W.heap.size W w') := fun W => by
      have := Map_any r hr y yf yl n hn W
      have e : mapE r y n = .tuple #[.agg (b8 (edg r (ofV r y n).1).ow).toArray, .int .i64 0] := by unfold mapE; rw [if_pos h0, edg_ow]; rfl
      rw [e] at this
      exact this
    have HCM : Hid (∀ W, Calls Tryd.prog 27 #[RV r, .agg (b8 (edg r (ofV r y n).1).ow).toArray, A4L y, .int .u16 n] W fun e' w' => e' = .returned (.tuple #[.bool true, .int .i64 0]) ∧ Below W.heap.size W w') := fun W => by
      have := Comes_any r hr (edg r (ofV r y n).1).ow hi.fw hi.kw y yf yl n hn W
      have e : comesE r (edg r (ofV r y n).1).ow y n = .tuple #[.bool true, .int .i64 0] := by
        unfold comesE
        rw [h0, edg_ow]
        simp
      rw [e] at this
      exact this
    have HEQ : Hid (∀ W, (binOp .eql 23 (.agg (b8 (edg r (ofV r y n).1).ow).toArray) (A6 (edg r (ofV r y n).1).ow)).run Tryd.prog W = .ok (.bool true) W) := fun W => by
      have := eqlA6 (edg r (ofV r y n).1).ow (edg r (ofV r y n).1).ow hi.fw hi.fw hi.kw hi.kw W
      rw [decide_eq_true rfl] at this
      exact this
    have HAT : Hid (∀ W b, W.heap[b]? = some (EO (edg r (ofV r y n).1)) → EdAt W b (edg r (ofV r y n).1)) := fun W b hh => EdAt.of hi.k4 hi.k6 hi.kw hh
    have hln := edC_length hi.k4 hi.k6 hi.kw
    have hon := edC_one (edg r (ofV r y n).1)
    have hkw := hi.kw
    rw [h0] at HOF
    clear h0 hok hck hlt h64 hi
    generalize (ofV r y n).1 = v at *
    generalize edg r v = E at *
    go_enter Tryd.func9, Tryd.ntmps9
    go_wp2_with fail
    refine (awake_calls _ HTZ.out).mono ?_
    rintro e' wA ⟨rfl, hBA⟩
    have HLR : Hid _ := (RuAt.of hr (blk_on hb hBA)).ldR
    have HYA : Hid _ := load_y yl (blk_on hby hBA)
    go_wp2_with first
      | ((with_reducible show wpList _ _ _ _ _ _); refine armL (.tmp 3) 31 rfl rfl rfl HLR.out ?_)
      | ((with_reducible show wpList _ _ _ _ _ _); refine armL (.tmp 4) 27 rfl rfl rfl HYA.out ?_)
    refine (HOF.out _).mono ?_
    rintro e' w1 ⟨rfl, hB1⟩
    have hA1 := hBA.trans (hB1.mono hBA.size)
    have HL1 : Hid _ := (RuAt.of hr (blk_on hb hA1)).ldR
    go_wp2_with first
      | ((with_reducible show wpList _ _ _ _ _ _); refine armL (.tmp 3) 31 rfl rfl rfl HL1.out ?_)
    refine (HE.out _).mono ?_
    rintro e' w2 ⟨rfl, hB2⟩
    obtain ⟨w3, hst3, b3, hB3⟩ := box_new Tryd.sizeOf45 w2 zeroEL rfl (edC E) hln hon
    have HS3 : Hid _ := hst3
    have hA3 := (hA1.trans (hB2.mono hA1.size)).trans (hB3.mono (Nat.le_trans hA1.size hB2.size))
    have HX3 : Hid _ := (HAT.out w3 _ b3).ldE
    have HY3 : Hid _ := load_y yl (blk_on hby hA3)
    clear hst3
    go_wp2_with first
      | ((with_reducible show wpList _ _ _ _ _ _); refine armL (.tmp 9) 45 rfl rfl rfl HX3.out ?_)
      | ((with_reducible show wpList _ _ _ _ _ _); refine armL (.tmp 4) 27 rfl rfl rfl HY3.out ?_)
      | ((with_reducible show wpList _ _ _ _ _ _); refine armS (.tmp 9) (.tmp 43) 45 rfl rfl rfl rfl HS3.out ?_)
    refine (HOW.out _).mono ?_
    rintro e' w4 ⟨rfl, hB4⟩
    have hA4 := hA3.trans (hB4.mono hA3.size)
    have HL4 : Hid _ := (RuAt.of hr (blk_on hb hA4)).ldR
    have HY4 : Hid _ := load_y yl (blk_on hby hA4)
    go_wp2_with first
      | ((with_reducible show wpList _ _ _ _ _ _); refine armL (.tmp 3) 31 rfl rfl rfl HL4.out ?_)
      | ((with_reducible show wpList _ _ _ _ _ _); refine armL (.tmp 4) 27 rfl rfl rfl HY4.out ?_)
    refine (HMP.out _).mono ?_
    rintro e' w5 ⟨rfl, hB5⟩
    obtain ⟨w6, hst6, b6, hB6⟩ := box_new Tryd.sizeOf23 w5 zero16V rfl (b8 E.ow) (by rw [b8_length, hkw]) (b8_one _)
    have HS6 : Hid _ := hst6
    have h46 := hB5.trans (hB6.mono hB5.size)
    have h36 := hB4.trans (h46.mono hB4.size)
    have hA6 := hA4.trans (h46.mono hA4.size)
    have HL6 : Hid _ := (RuAt.of hr (blk_on hb hA6)).ldR
    have HY6 : Hid _ := load_y yl (blk_on hby hA6)
    have HO6 : Hid _ := load_x hkw b6
    clear hst6
    go_wp2_with first
      | ((with_reducible show wpList _ _ _ _ _ _); refine armL (.tmp 3) 31 rfl rfl rfl HL6.out ?_)
      | ((with_reducible show wpList _ _ _ _ _ _); refine armL (.tmp 4) 27 rfl rfl rfl HY6.out ?_)
      | ((with_reducible show wpList _ _ _ _ _ _); refine armL (.tmp 13) 23 rfl rfl rfl HO6.out ?_)
      | ((with_reducible show wpList _ _ _ _ _ _); refine armS (.tmp 13) (.tmp 57) 23 rfl rfl rfl rfl HS6.out ?_)
    refine (HCM.out _).mono ?_
    rintro e' w7 ⟨rfl, hB7⟩
    have h37 := h36.trans (hB7.mono h36.size)
    have hA7 := hA6.trans (hB7.mono hA6.size)
    have HO7 : Hid _ := load_x hkw (blk_on b6 hB7)
    have HW7 : Hid _ := (HAT.out w7 _ (blk_on b3 h37)).ldw
    have HEQ7 : Hid _ := HEQ.out w7
    clear b3 b6
    go_wp2_with first
      | ((with_reducible show wpList _ _ _ _ _ _); refine armLg (.tmp 13) 23 rfl rfl rfl HO7.out ?_)
      | ((with_reducible show wpList _ _ _ _ _ _); refine armLg (.tmp 89) 23 rfl rfl rfl HW7.out ?_)
      | ((with_reducible show wpList _ _ _ _ _ _); refine armB .eql 23 23 (.tmp 88) (.tmp 90) rfl rfl rfl rfl (gdA6 _ _ _ _ _ _) HEQ7.out ?_)
    go_ret
    exact ⟨rfl, hBw.trans (hA7.mono hBw.size)⟩
  · obtain ⟨hz, h91⟩ := of_bad hr h0
    have q0 : ((ofV r y n).2 != 0) = true := by simpa using h0
    rw [hz] at HOF
    by_cases c : (ofV r y n).2 = 91
    · obtain ⟨hok, hq, hi⟩ := h91 c
      have HNB : Hid _ := fun W => nobody_calls r hr hok n hn hq hi W
      rw [c] at HOF
      clear h0 hz h91 q0 c hok hq hi
      go_enter Tryd.func9, Tryd.ntmps9
      go_wp2_with fail
      refine (awake_calls _ HTZ.out).mono ?_
      rintro e' wA ⟨rfl, hBA⟩
      have HLR : Hid _ := (RuAt.of hr (blk_on hb hBA)).ldR
      have HYA : Hid _ := load_y yl (blk_on hby hBA)
      go_wp2_with first
        | ((with_reducible show wpList _ _ _ _ _ _); refine armL (.tmp 3) 31 rfl rfl rfl HLR.out ?_)
        | ((with_reducible show wpList _ _ _ _ _ _); refine armL (.tmp 4) 27 rfl rfl rfl HYA.out ?_)
      refine (HOF.out _).mono ?_
      rintro e' w1 ⟨rfl, hB1⟩
      have hA1 := hBA.trans (hB1.mono hBA.size)
      have HL1 : Hid _ := (RuAt.of hr (blk_on hb hA1)).ldR
      go_wp2_with first
        | ((with_reducible show wpList _ _ _ _ _ _); refine armLg (.tmp 3) 31 rfl rfl rfl HL1.out ?_)
      refine (HNB.out _).mono ?_
      rintro e' w2 ⟨rfl, hB2⟩
      have hA2 := hA1.trans (hB2.mono hA1.size)
      go_wp2
      go_ret
      exact ⟨rfl, hBw.trans (hA2.mono hBw.size)⟩
    · have q1 : ((ofV r y n).2 != 91) = true := by simpa using c
      clear h0 hz h91 c
      generalize (ofV r y n).2 = ce at *
      go_enter Tryd.func9, Tryd.ntmps9
      go_wp2_with fail
      refine (awake_calls _ HTZ.out).mono ?_
      rintro e' wA ⟨rfl, hBA⟩
      have HLR : Hid _ := (RuAt.of hr (blk_on hb hBA)).ldR
      have HYA : Hid _ := load_y yl (blk_on hby hBA)
      go_wp2_with first
        | ((with_reducible show wpList _ _ _ _ _ _); refine armL (.tmp 3) 31 rfl rfl rfl HLR.out ?_)
        | ((with_reducible show wpList _ _ _ _ _ _); refine armL (.tmp 4) 27 rfl rfl rfl HYA.out ?_)
      refine (HOF.out _).mono ?_
      rintro e' w1 ⟨rfl, hB1⟩
      have hA1 := hBA.trans (hB1.mono hBA.size)
      go_wp2
      go_ret
      exact ⟨rfl, hBw.trans (hA1.mono hBw.size)⟩

set_option maxRecDepth 100000 in
theorem mappingAll_open {H : Type} {enc : TypeId × Value → H} {W : World} {base : Nat} (tb : Tz W) (v0 v1 v2 : Value) {d0 d1 d2 : DataW H} {p0 p1 p2 : List MemPlace}
    (o0 : Value.okWide Tryd.prog W .any base 31 v0) (h0 : DataW.Trod enc Tryd.prog W 0 (fun _ => true) true 31 v0 d0 p0)
    (o1 : Value.okWide Tryd.prog W .any base 27 v1) (h1 : DataW.Trod enc Tryd.prog W 0 (fun _ => true) true 27 v1 d1 p1)
    (o2 : Value.okWide Tryd.prog W .any base 32 v2) (h2 : DataW.Trod enc Tryd.prog W 0 (fun _ => true) true 32 v2 d2 p2) :
    Calls Tryd.prog 9 #[v0, v1, v2] W fun e w' => e = .returned (.bool true) ∧ Below W.heap.size W w' := by
  obtain ⟨r, rfl, hr⟩ := open_rule h0
  obtain ⟨y, rfl, yf, yl⟩ := open_a4 h1
  obtain ⟨k4, rfl, _, _, wk4⟩ := open_int Tryd.underlying32 o2 h2
  have hk4 := bounds_u16 wk4
  obtain ⟨p, rfl⟩ := Int.eq_ofNat_of_zero_le hk4.1
  exact mappingAll_walk r hr y yf yl p (by omega) W tb

end Go.Proofs.YtloadmpappjceaaDoor
