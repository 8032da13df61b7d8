/-
  Bits and Of of the program.
-/
import Derived.Test.YtloadmpappjceaaDoorMg2
namespace Go.Proofs.YtloadmpappjceaaDoor
open Go Go.RowKit Go.ChangeShapes Go.WideShapes Go.ChangeAt
set_option linter.unusedVariables false
set_option linter.unusedSimpArgs false

abbrev UE (n : Int) (e : Int) : Value := .tuple #[.int .u64 n, .int .i64 e]
def bitsE (r : Ru) (x : List Int) : Value := if ckE r = 0 then (if has6 r.l6 r.n6 x = true then UE (accN x r.n6.toNat r.ea.toNat : Nat) 0 else UE 0 82) else UE 0 (ckE r)
/-- The EA bits of an address and port, and the error. -/
def ofV (r : Ru) (y : List Int) (n : Nat) : Nat × Int :=
  if ckE r = 0 then (if hasL r.l4 r.n4 y = true then (if 0 < qB r then (if isOnes r.off.toNat n then (accN y r.n4.toNat (hB r).toNat * 2 ^ (qB r).toNat + pidN r.off.toNat (qB r).toNat n, 0) else (0, 91)) else (accN y r.n4.toNat (hB r).toNat, 0)) else (0, 82)) else (0, ckE r)
theorem get_at (v : Value) (zs : List Int) (p n : Nat) (w : World) (h : Fld.BytesAt w.heap.size w v zs) (h64 : n ≤ 64) (hn : p + n ≤ 8 * zs.length) (hz : zs.length ≤ 100) :
    Calls Tryd.prog 45 #[v, .int .i64 p, .int .i64 n] w fun e w' => e = .returned (UE (accN zs p n : Nat) 0) ∧ Below w.heap.size w w' := by
  have hok : Fld.okG zs.length p n = true := by
    unfold Fld.okG Fld.thereB
    simp
    omega
  have hg := Fld.get_calls v zs p n w h (by omega) (by omega)
  have e1 : Fld.getV zs p n = (accN zs p n : Nat) := by unfold Fld.getV; rw [if_pos hok]; rfl
  have e2 : Fld.getE zs p n = 0 := by unfold Fld.getE; rw [if_pos hok]
  rw [e1, e2] at hg
  exact hg.mono fun e w' hh => ⟨hh.1, by rw [hh.2]; exact Below.refl _ _⟩
theorem Has6_ok {r : Ru} (hok : r.Ok) (x : List Int) (xf : FitB x) (xl : x.length = 16) (W : World) :
    Calls Tryd.prog 44 #[P6 r.l6 r.n6, .agg (b8 x).toArray] W fun e w' => e = .returned (.tuple #[.bool (has6 r.l6 r.n6 x), .int .i64 0]) ∧ Below W.heap.size W w' := by
  have := Has6_calls r.l6 r.n6 x W hok.inn.f6 hok.inn.k6 xf xl hok.inn.b6
  rw [hok.p6, Bool.true_and] at this
  exact this
theorem load_x {W : World} {b : Nat} {x : List Int} (hl : x.length = 16) (h : W.heap[b]? = some (XO x)) : (Instr.loadAt 23 (.pointer (some ⟨b, 0, none⟩))).run Tryd.prog W = .ok (.agg (b8 x).toArray) W := load6 hl (CellsAt.of_blk h)

set_option maxHeartbeats 2000000 in
set_option maxRecDepth 100000 in
theorem Bits_any (r : Ru) (hr : r.In) (x : List Int) (xf : FitB x) (xl : x.length = 16) (w : World) :
    Calls Tryd.prog 19 #[RV r, .agg (b8 x).toArray] w fun e w' => e = .returned (bitsE r x) ∧ Below w.heap.size w w' := by
  obtain ⟨hb, hb2, hBw⟩ := two_box' w (RO r) (XO x)
  have HC : Hid _ := fun W => Check_any' r hr W
  have HLR : Hid _ := (RuAt.of hr hb).ldR
  generalize hW : (w.alloc (RO r)).alloc (XO x) = W at *
  by_cases h0 : ckE r = 0
  · have hok := Ru.ok_of hr h0
    obtain ⟨a, b, d, h, q, o, hn⟩ := hok.nums
    have hlen := hn.len
    rw [h0] at HC
    have HH6 : Hid _ := fun W => Has6_ok hok x xf xl W
    cases c6 : has6 r.l6 r.n6 x
    · have hE : bitsE r x = UE 0 82 := by unfold bitsE; rw [if_pos h0, c6]; rfl
      rw [hE]
      rw [c6] at HH6
      clear hE h0 c6 hn hok
      go_enter Tryd.func19, Tryd.ntmps19
      go_wp2_with first
        | ((with_reducible show wpList _ _ _ _ _ _); refine armL (.tmp 2) 31 rfl rfl rfl HLR.out ?_)
      refine (HC.out _).mono ?_
      rintro e w2 ⟨rfl, hB2⟩
      have HL6 : Hid _ := (RuAt.of hr (blk_on hb hB2)).ld6
      have HLX : Hid _ := load_x xl (blk_on hb2 hB2)
      go_wp2_with first
        | ((with_reducible show wpList _ _ _ _ _ _); refine armL (.tmp 15) 25 rfl rfl rfl HL6.out ?_)
        | ((with_reducible show wpList _ _ _ _ _ _); refine armL (.tmp 3) 23 rfl rfl rfl HLX.out ?_)
      refine (HH6.out _).mono ?_
      rintro e w3 ⟨rfl, hB3⟩
      have hB23 := hB2.trans (hB3.mono hB2.size)
      go_wp2
      go_returns
      exact ⟨rfl, hBw.trans (hB23.mono hBw.size)⟩
    · have hE : bitsE r x = UE (accN x a b : Nat) 0 := by unfold bitsE; rw [if_pos h0, c6, hn.e6, hn.eb, Int.toNat_natCast, Int.toNat_natCast]; rfl
      rw [hE]
      rw [c6] at HH6
      have HN6 : Hid (r.n6 = a ∧ r.ea = b) := ⟨hn.e6, hn.eb⟩
      clear hE h0 c6 hn hok
      go_enter Tryd.func19, Tryd.ntmps19
      go_wp2_with first
        | ((with_reducible show wpList _ _ _ _ _ _); refine armL (.tmp 2) 31 rfl rfl rfl HLR.out ?_)
      refine (HC.out _).mono ?_
      rintro e w2 ⟨rfl, hB2⟩
      have HL6 : Hid _ := (RuAt.of hr (blk_on hb hB2)).ld6
      have HLX : Hid _ := load_x xl (blk_on hb2 hB2)
      go_wp2_with first
        | ((with_reducible show wpList _ _ _ _ _ _); refine armL (.tmp 15) 25 rfl rfl rfl HL6.out ?_)
        | ((with_reducible show wpList _ _ _ _ _ _); refine armL (.tmp 3) 23 rfl rfl rfl HLX.out ?_)
      refine (HH6.out _).mono ?_
      rintro e w3 ⟨rfl, hB3⟩
      have hB23 := hB2.trans (hB3.mono hB2.size)
      obtain ⟨_, _, _, d16, _, d22, _⟩ := RuHi.of hr (blk_on hb hB23)
      rw [HN6.out.1] at d16
      rw [HN6.out.2] at d22
      have HG : Hid (∀ z : Hi w3, Calls Tryd.prog 45 #[.slice (some ⟨w.heap.size + 1, 0, none⟩) 16 16, .int .i64 a, .int .i64 b] z.W fun e w' => e = .returned (UE (accN x a b : Nat) 0) ∧ Below z.W.heap.size z.W w') := fun z => by
        have hS := Hi.blk (blk_on hb2 hB23) z
        have hby := bytes_of (cap := 16) (CellsAt.of_blk hS) xf (Array.getElem?_eq_some_iff.1 hS).1 (by omega)
        rw [xl] at hby
        exact get_at _ x a b z.W hby (by omega) (by omega) (by omega)
      generalize hacc : accN x a b = z at *
      have HZ : Hid _ := hacc
      clear hacc hb hb2 hB2 hB3 HN6 hr HC HH6 HL6 HLX HLR
      go_wp2_with fail
      refine wp_region_hi (by kernel_rfl) (by kernel_rfl) ?_
      repeat (first | go_big_quiet_skip | (go_big_quiet_want; go_big_quiet_op; first | go_big_quiet_on | go_big_quiet_call (first | (go_at_call 45; with_reducible exact Hi.calls (HG.out _)))))
      refine wpQuiet_nil ?_
      intro _ hw
      obtain ⟨y, rfl⟩ := hw
      go_wp2
      go_returns
      exact ⟨by rw [HZ.out]; rfl, hBw.trans ((hB23.trans (y.below.mono hB23.size)).mono hBw.size)⟩
  · have hE : bitsE r x = UE 0 (ckE r) := by unfold bitsE; rw [if_neg h0]
    rw [hE]
    have q0 : (ckE r != 0) = true := by simpa using h0
    clear hE h0
    generalize ckE r = ce at *
    go_enter Tryd.func19, Tryd.ntmps19
    go_wp2_with first
      | ((with_reducible show wpList _ _ _ _ _ _); refine armL (.tmp 2) 31 rfl rfl rfl HLR.out ?_)
    refine (HC.out _).mono ?_
    rintro e w2 ⟨rfl, hB2⟩
    go_wp2
    go_returns
    exact ⟨rfl, hBw.trans (hB2.mono hBw.size)⟩


set_option maxHeartbeats 4000000 in
set_option maxRecDepth 100000 in
theorem Of_r (r : Ru) (hr : r.In) (y : List Int) (yf : FitB y) (yl : y.length = 4) (n : Nat) (hnp : n < 65536) (w : World) :
    Calls Tryd.prog 21 #[RV r, A4L y, .int .u16 n] w fun e w' => e = .returned (UE ((ofV r y n).1 : Nat) (ofV r y n).2) ∧ Below w.heap.size w w' := by
  obtain ⟨hb, hb2, hBw⟩ := two_box' w (RO r) (YO y)
  have HC : Hid _ := fun W => Check_any' r hr W
  have HLR : Hid _ := (RuAt.of hr hb).ldR
  generalize hW : (w.alloc (RO r)).alloc (YO y) = W at *
  by_cases h0 : ckE r = 0
  · have hok := Ru.ok_of hr h0
    have hm := hok.mid
    obtain ⟨a, b, d, h, q, o, hn⟩ := hok.nums
    have hroom := hn.room
    have hlen := hn.len
    have hpsid := hn.psid
    have hoff := hn.off
    rw [h0] at HC
    have HH4 : Hid (∀ W, Calls Tryd.prog 46 #[P4L r.l4 r.n4, A4L y] W fun e w' => e = .returned (.tuple #[.bool (hasL r.l4 r.n4 y), .int .i64 0]) ∧ Below W.heap.size W w') := fun W => by
      have := Has4_L r.l4 r.n4 y W hr.f4 hr.k4 hr.b4 yf yl
      rw [hok.p4, Bool.true_and] at this
      exact this
    cases c4 : hasL r.l4 r.n4 y
    · have hE : ofV r y n = (0, 82) := by unfold ofV; rw [if_pos h0, c4]; rfl
      rw [hE]
      rw [c4] at HH4
      clear hE h0 c4 hn hok hm
      go_enter Tryd.func21, Tryd.ntmps21
      go_wp2_with first
        | ((with_reducible show wpList _ _ _ _ _ _); refine armL (.tmp 3) 31 rfl rfl rfl HLR.out ?_)
      refine (HC.out _).mono ?_
      rintro e w2 ⟨rfl, hB2⟩
      have HL4 : Hid _ := (RuAt.of hr (blk_on hb hB2)).ld4
      have HLY : Hid _ := load_y yl (blk_on hb2 hB2)
      go_wp2_with first
        | ((with_reducible show wpList _ _ _ _ _ _); refine armL (.tmp 22) 29 rfl rfl rfl HL4.out ?_)
        | ((with_reducible show wpList _ _ _ _ _ _); refine armL (.tmp 4) 27 rfl rfl rfl HLY.out ?_)
      refine (HH4.out _).mono ?_
      rintro e w3 ⟨rfl, hB3⟩
      have hB23 := hB2.trans (hB3.mono hB2.size)
      go_wp2
      go_returns
      exact ⟨rfl, hBw.trans (hB23.mono hBw.size)⟩
    · rw [c4] at HH4
      have HNN : Hid (r.n4 = d ∧ r.off = o) := ⟨hn.e4, hn.eo⟩
      have HHB : Hid (∀ W, Calls Tryd.prog 47 #[RV r] W fun e w' => e = .returned (.int .i64 (h : Nat)) ∧ Below W.heap.size W w') := fun W => by have := hostBits_any r hr hm W; rw [hn.eh] at this; exact this
      have HPS : Hid (∀ W, Calls Tryd.prog 49 #[RV r] W fun e w' => e = .returned (.int .i64 (q : Nat)) ∧ Below W.heap.size W w') := fun W => by have := psidBits_any r hr hm W; rw [hn.eq] at this; exact this
      have HSH : Hid (∀ W, Calls Tryd.prog 33 #[RV r] W fun e w' => e = .returned (.bool (decide (0 < q))) ∧ Below W.heap.size W w') := fun W => by
        have := shared_any r hr hm W
        rw [hn.eq] at this
        have e : decide ((0 : Int) < (q : Int)) = decide (0 < q) := by rw [decide_eq_decide]; omega
        rw [e] at this
        exact this
      have HPO : Hid _ := fun W => Of_yes o q n W hoff hpsid hnp
      have hE : ofV r y n = if 0 < q then (if isOnes o n then (accN y d h * 2 ^ q + pidN o q n, 0) else (0, 91)) else (accN y d h, 0) := by
        unfold ofV
        rw [if_pos h0, c4, if_pos rfl, hn.eq, hn.e4, hn.eh, hn.eo, Int.toNat_natCast, Int.toNat_natCast, Int.toNat_natCast, Int.toNat_natCast]
        by_cases c : 0 < q
        · rw [if_pos c, if_pos (by omega)]
        · rw [if_neg c, if_neg (by omega)]
      rw [hE]
      have hhl := accN_lt y d h
      have hsum := hn.sum
      have HHS : Hid (accN y d h = accN y d h) := rfl
      by_cases hq : 0 < q
      · have hq1 : decide (0 < q) = true := decide_eq_true hq
        rw [if_pos hq]
        rw [hq1] at HSH
        have hpl := pid_lt o q n
        have hmul : (accN y d h : Int) * 2 ^ q = ((accN y d h * 2 ^ q : Nat) : Int) := by rw [Int.natCast_mul, Int.natCast_pow]; rfl
        have hb48 : accN y d h * 2 ^ q < 2 ^ 48 := by
          have h1 : accN y d h * 2 ^ q < 2 ^ h * 2 ^ q := Nat.mul_lt_mul_of_pos_right hhl (Nat.two_pow_pos q)
          rw [← Nat.pow_add, ← hsum] at h1
          have h2 : 2 ^ b ≤ 2 ^ 48 := Nat.pow_le_pow_right (by decide) (by have := hok.ea; have := hn.eb; omega)
          omega
        have hor : bits .or .u64 ((accN y d h * 2 ^ q : Nat) : Int) ((pidN o q n : Nat) : Int) = ((accN y d h * 2 ^ q + pidN o q n : Nat) : Int) := by
          have h16 := pow16 (l := q) (by omega)
          have hx := u64_or_nat (accN y d h * 2 ^ q) (pidN o q n) (by omega) (by omega)
          have e : (accN y d h * 2 ^ q ||| pidN o q n) = accN y d h * 2 ^ q + pidN o q n := by
            have := Nat.two_pow_add_eq_or_of_lt (i := q) (b := pidN o q n) hpl (accN y d h)
            rw [Nat.mul_comm]
            exact this.symm
          rw [hx, e]
        have hpl16 : pidN o q n < 65536 := Nat.lt_of_lt_of_le hpl (pow16 (by omega))
        by_cases hi : isOnes o n
        · rw [if_pos hi]
          have hO : ofE o q n = OfE (pidN o q n) true 0 := if_pos hi
          rw [hO] at HPO
          clear hE h0 c4 hn hok hm hO hi hq1 hpl hhl hsum
          generalize hres : accN y d h * 2 ^ q + pidN o q n = res at *
          generalize hml : accN y d h * 2 ^ q = ml at *
          generalize pidN o q n = pp at *
          have HRES : Hid _ := hres
          have HMUL : Hid _ := hmul
          have HOR : Hid _ := hor
          clear hres hml hmul hor
          go_enter Tryd.func21, Tryd.ntmps21
          go_wp2_with first
            | ((with_reducible show wpList _ _ _ _ _ _); refine armL (.tmp 3) 31 rfl rfl rfl HLR.out ?_)
          refine (HC.out _).mono ?_
          rintro e w2 ⟨rfl, hB2⟩
          have HL4 : Hid _ := (RuAt.of hr (blk_on hb hB2)).ld4
          have HLY : Hid _ := load_y yl (blk_on hb2 hB2)
          go_wp2_with first
            | ((with_reducible show wpList _ _ _ _ _ _); refine armL (.tmp 22) 29 rfl rfl rfl HL4.out ?_)
            | ((with_reducible show wpList _ _ _ _ _ _); refine armL (.tmp 4) 27 rfl rfl rfl HLY.out ?_)
          refine (HH4.out _).mono ?_
          rintro e w3 ⟨rfl, hB3⟩
          have hB23 := hB2.trans (hB3.mono hB2.size)
          obtain ⟨ldR, _, _, _, d21, _, d23⟩ := RuHi.of hr (blk_on hb hB23)
          rw [HNN.out.1] at d21
          have HLD : Hid _ := ldR
          have HG : Hid (∀ z : Hi w3, Calls Tryd.prog 45 #[.slice (some ⟨w.heap.size + 1, 0, none⟩) 4 4, .int .i64 d, .int .i64 h] z.W fun e w' => e = .returned (UE (accN y d h : Nat) 0) ∧ Below z.W.heap.size z.W w') := fun z => by
            have hS := Hi.blk (blk_on hb2 hB23) z
            have hby := bytes_of (cap := 4) (CellsAt.of_blk hS) yf (Array.getElem?_eq_some_iff.1 hS).1 (by omega)
            rw [yl] at hby
            exact get_at _ y d h z.W hby (by omega) (by omega) (by omega)
          clear ldR
          generalize accN y d h = hst at HG HHS HMUL
          go_wp2_with fail
          refine wp_region_hi (by kernel_rfl) (by kernel_rfl) ?_
          repeat (first | go_big_quiet_skip | (go_big_quiet_want; refine hi_load (.tmp 3) 31 rfl rfl HLD.out ?_; simp only [Act.put, List.setIfInBounds_toArray, List.set_cons_zero, List.set_cons_succ]; go_big_quiet_on) | (go_big_quiet_want; go_big_quiet_op; first | go_big_quiet_on | go_big_quiet_call (first | (go_at_call 47; with_reducible exact Hi.calls (HHB.out _)) | (go_at_call 45; with_reducible exact Hi.calls (HG.out _)))))
          refine wpQuiet_nil ?_
          intro _ hw
          obtain ⟨y4, rfl⟩ := hw
          have hB24 := hB23.trans (y4.below.mono hB23.size)
          have HL4b : Hid _ := (RuAt.of hr (blk_on hb hB24)).ldR
          go_wp2_with first
            | ((with_reducible show wpList _ _ _ _ _ _); refine armL (.tmp 3) 31 rfl rfl rfl HL4b.out ?_)
          refine (HSH.out _).mono ?_
          rintro e w5 ⟨rfl, hB5⟩
          have hB25 := hB24.trans (hB5.mono hB24.size)
          obtain ⟨ldR5, _, _, _, _, _, e23⟩ := RuHi.of hr (blk_on hb hB25)
          rw [HNN.out.2] at e23
          have HLD5 : Hid _ := ldR5
          clear ldR5
          go_wp2_with fail
          refine wp_region_hi (by kernel_rfl) (by kernel_rfl) ?_
          repeat (first | go_big_quiet_skip | (go_big_quiet_want; refine hi_load (.tmp 3) 31 rfl rfl HLD5.out ?_; simp only [Act.put, List.setIfInBounds_toArray, List.set_cons_zero, List.set_cons_succ]; go_big_quiet_on) | (go_big_quiet_want; go_big_quiet_op; first | go_big_quiet_on | go_big_quiet_call (first | (go_at_call 49; with_reducible exact Hi.calls (HPS.out _)) | (go_at_call 48; with_reducible exact Hi.calls (HPO.out _)))))
          refine wpQuiet_nil ?_
          intro _ hw
          obtain ⟨y6, rfl⟩ := hw
          have hB26 := hB25.trans (y6.below.mono hB25.size)
          have HL6b : Hid _ := (RuAt.of hr (blk_on hb hB26)).ldR
          have hmul := HMUL.out
          have hor := HOR.out
          have k1 := pow_le16 (l := q) (by omega)
          have k2 := pow_ge1 q
          go_wp2_with first
            | ((with_reducible show wpList _ _ _ _ _ _); refine armL (.tmp 3) 31 rfl rfl rfl HL6b.out ?_)
          refine (HPS.out _).mono ?_
          rintro e w7 ⟨rfl, hB7⟩
          have hB27 := hB26.trans (hB7.mono hB26.size)
          go_wp2
          go_returns
          exact ⟨rfl, hBw.trans (hB27.mono hBw.size)⟩
        · rw [if_neg hi]
          have hO : ofE o q n = OfE 0 false 0 := if_neg hi
          rw [hO] at HPO
          clear hE h0 c4 hn hok hm hO hi hq1 hpl hhl hsum hmul hb48 hor hpl16
          go_enter Tryd.func21, Tryd.ntmps21
          go_wp2_with first
            | ((with_reducible show wpList _ _ _ _ _ _); refine armL (.tmp 3) 31 rfl rfl rfl HLR.out ?_)
          refine (HC.out _).mono ?_
          rintro e w2 ⟨rfl, hB2⟩
          have HL4 : Hid _ := (RuAt.of hr (blk_on hb hB2)).ld4
          have HLY : Hid _ := load_y yl (blk_on hb2 hB2)
          go_wp2_with first
            | ((with_reducible show wpList _ _ _ _ _ _); refine armL (.tmp 22) 29 rfl rfl rfl HL4.out ?_)
            | ((with_reducible show wpList _ _ _ _ _ _); refine armL (.tmp 4) 27 rfl rfl rfl HLY.out ?_)
          refine (HH4.out _).mono ?_
          rintro e w3 ⟨rfl, hB3⟩
          have hB23 := hB2.trans (hB3.mono hB2.size)
          obtain ⟨ldR, _, _, _, d21, _, d23⟩ := RuHi.of hr (blk_on hb hB23)
          rw [HNN.out.1] at d21
          have HLD : Hid _ := ldR
          have HG : Hid (∀ z : Hi w3, Calls Tryd.prog 45 #[.slice (some ⟨w.heap.size + 1, 0, none⟩) 4 4, .int .i64 d, .int .i64 h] z.W fun e w' => e = .returned (UE (accN y d h : Nat) 0) ∧ Below z.W.heap.size z.W w') := fun z => by
            have hS := Hi.blk (blk_on hb2 hB23) z
            have hby := bytes_of (cap := 4) (CellsAt.of_blk hS) yf (Array.getElem?_eq_some_iff.1 hS).1 (by omega)
            rw [yl] at hby
            exact get_at _ y d h z.W hby (by omega) (by omega) (by omega)
          clear ldR
          generalize accN y d h = hst at HG HHS
          go_wp2_with fail
          refine wp_region_hi (by kernel_rfl) (by kernel_rfl) ?_
          repeat (first | go_big_quiet_skip | (go_big_quiet_want; refine hi_load (.tmp 3) 31 rfl rfl HLD.out ?_; simp only [Act.put, List.setIfInBounds_toArray, List.set_cons_zero, List.set_cons_succ]; go_big_quiet_on) | (go_big_quiet_want; go_big_quiet_op; first | go_big_quiet_on | go_big_quiet_call (first | (go_at_call 47; with_reducible exact Hi.calls (HHB.out _)) | (go_at_call 45; with_reducible exact Hi.calls (HG.out _)))))
          refine wpQuiet_nil ?_
          intro _ hw
          obtain ⟨y4, rfl⟩ := hw
          have hB24 := hB23.trans (y4.below.mono hB23.size)
          have HL4b : Hid _ := (RuAt.of hr (blk_on hb hB24)).ldR
          go_wp2_with first
            | ((with_reducible show wpList _ _ _ _ _ _); refine armL (.tmp 3) 31 rfl rfl rfl HL4b.out ?_)
          refine (HSH.out _).mono ?_
          rintro e w5 ⟨rfl, hB5⟩
          have hB25 := hB24.trans (hB5.mono hB24.size)
          obtain ⟨ldR5, _, _, _, _, _, e23⟩ := RuHi.of hr (blk_on hb hB25)
          rw [HNN.out.2] at e23
          have HLD5 : Hid _ := ldR5
          clear ldR5
          go_wp2_with fail
          refine wp_region_hi (by kernel_rfl) (by kernel_rfl) ?_
          repeat (first | go_big_quiet_skip | (go_big_quiet_want; refine hi_load (.tmp 3) 31 rfl rfl HLD5.out ?_; simp only [Act.put, List.setIfInBounds_toArray, List.set_cons_zero, List.set_cons_succ]; go_big_quiet_on) | (go_big_quiet_want; go_big_quiet_op; first | go_big_quiet_on | go_big_quiet_call (first | (go_at_call 49; with_reducible exact Hi.calls (HPS.out _)) | (go_at_call 48; with_reducible exact Hi.calls (HPO.out _)))))
          refine wpQuiet_nil ?_
          intro _ hw
          obtain ⟨y6, rfl⟩ := hw
          have hB26 := hB25.trans (y6.below.mono hB25.size)
          go_wp2
          go_returns
          exact ⟨rfl, hBw.trans (hB26.mono hBw.size)⟩
      · have hq1 : decide (0 < q) = false := decide_eq_false hq
        rw [if_neg hq]
        rw [hq1] at HSH
        have HRS : Hid _ := hE
        clear hE h0 c4 hn hok hm hq1 hsum hhl
        obtain ⟨res, hres⟩ : ∃ res, accN y d h = res := ⟨_, rfl⟩
        rw [hres]
        have HRES : Hid (accN y d h = res) := hres
        clear hres HRS
        go_enter Tryd.func21, Tryd.ntmps21
        go_wp2_with first
          | ((with_reducible show wpList _ _ _ _ _ _); refine armL (.tmp 3) 31 rfl rfl rfl HLR.out ?_)
        refine (HC.out _).mono ?_
        rintro e w2 ⟨rfl, hB2⟩
        have HL4 : Hid _ := (RuAt.of hr (blk_on hb hB2)).ld4
        have HLY : Hid _ := load_y yl (blk_on hb2 hB2)
        go_wp2_with first
          | ((with_reducible show wpList _ _ _ _ _ _); refine armL (.tmp 22) 29 rfl rfl rfl HL4.out ?_)
          | ((with_reducible show wpList _ _ _ _ _ _); refine armL (.tmp 4) 27 rfl rfl rfl HLY.out ?_)
        refine (HH4.out _).mono ?_
        rintro e w3 ⟨rfl, hB3⟩
        have hB23 := hB2.trans (hB3.mono hB2.size)
        obtain ⟨ldR, _, _, _, d21, _, d23⟩ := RuHi.of hr (blk_on hb hB23)
        rw [HNN.out.1] at d21
        have HLD : Hid _ := ldR
        have HG : Hid (∀ z : Hi w3, Calls Tryd.prog 45 #[.slice (some ⟨w.heap.size + 1, 0, none⟩) 4 4, .int .i64 d, .int .i64 h] z.W fun e w' => e = .returned (UE (accN y d h : Nat) 0) ∧ Below z.W.heap.size z.W w') := fun z => by
          have hS := Hi.blk (blk_on hb2 hB23) z
          have hby := bytes_of (cap := 4) (CellsAt.of_blk hS) yf (Array.getElem?_eq_some_iff.1 hS).1 (by omega)
          rw [yl] at hby
          exact get_at _ y d h z.W hby (by omega) (by omega) (by omega)
        clear ldR
        rw [HRES.out] at HG
        go_wp2_with fail
        refine wp_region_hi (by kernel_rfl) (by kernel_rfl) ?_
        repeat (first | go_big_quiet_skip | (go_big_quiet_want; refine hi_load (.tmp 3) 31 rfl rfl HLD.out ?_; simp only [Act.put, List.setIfInBounds_toArray, List.set_cons_zero, List.set_cons_succ]; go_big_quiet_on) | (go_big_quiet_want; go_big_quiet_op; first | go_big_quiet_on | go_big_quiet_call (first | (go_at_call 47; with_reducible exact Hi.calls (HHB.out _)) | (go_at_call 45; with_reducible exact Hi.calls (HG.out _)))))
        refine wpQuiet_nil ?_
        intro _ hw
        obtain ⟨y4, rfl⟩ := hw
        have hB24 := hB23.trans (y4.below.mono hB23.size)
        have HL4b : Hid _ := (RuAt.of hr (blk_on hb hB24)).ldR
        go_wp2_with first
          | ((with_reducible show wpList _ _ _ _ _ _); refine armL (.tmp 3) 31 rfl rfl rfl HL4b.out ?_)
        refine (HSH.out _).mono ?_
        rintro e w5 ⟨rfl, hB5⟩
        have hB25 := hB24.trans (hB5.mono hB24.size)
        go_wp2
        go_returns
        exact ⟨rfl, hBw.trans (hB25.mono hBw.size)⟩
  · have hE : ofV r y n = (0, ckE r) := by unfold ofV; rw [if_neg h0]
    rw [hE]
    have q0 : (ckE r != 0) = true := by simpa using h0
    clear hE h0
    generalize ckE r = ce at *
    go_enter Tryd.func21, Tryd.ntmps21
    go_wp2_with first
      | ((with_reducible show wpList _ _ _ _ _ _); refine armL (.tmp 3) 31 rfl rfl rfl HLR.out ?_)
    refine (HC.out _).mono ?_
    rintro e w2 ⟨rfl, hB2⟩
    go_wp2
    go_returns
    exact ⟨rfl, hBw.trans (hB2.mono hBw.size)⟩

end Go.Proofs.YtloadmpappjceaaDoor
