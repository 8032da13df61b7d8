/-
  Of of the document.
-/
import Derived.Test.YtloadmpappjceaaDoorMj0
namespace Go.Proofs.YtloadmpappjceaaDoor
open Go Go.RowKit Go.ChangeShapes Go.WideShapes Go.ChangeAt
set_option linter.unusedVariables false
set_option linter.unusedSimpArgs false


set_option maxHeartbeats 8000000 in
set_option maxRecDepth 100000 in
theorem ROf_r (r : Ru) (hr : r.In) (y : List Int) (yf : FitB y) (yl : y.length = 4) (n : Nat) (hnp : n < 65536) (w : World) :
    Calls Tryd.prog 22 #[RV r, A4L y, .int .u16 n] w fun e w' => e = .returned (UE ((ofV r y n).1 : Nat) (ofV r y n).2) ∧ Below w.heap.size w w' := by
  obtain ⟨hb, hb2, hBw⟩ := two_box' w (RO r) (YO y)
  have HC : Hid _ := fun W => RCheck_r r hr W
  have HLR : Hid _ := (RuAt.of hr hb).ldR
  generalize hW : (w.alloc (RO r)).alloc (YO y) = W at *
  by_cases h0 : ckE r = 0
  · have hok := Ru.ok_of hr h0
    have hm := hok.mid
    obtain ⟨a, b, d, h, q, o, hn⟩ := hok.nums
    have hroom := hn.room
    have hlen := hn.len
    have hpsid := hn.psid
    have hoff := hn.off
    rw [h0] at HC
    have HH4 : Hid (∀ W, Calls Tryd.prog 50 #[P4L r.l4 r.n4, A4L y] W fun e w' => e = .returned (.tuple #[.bool (hasL r.l4 r.n4 y), .int .i64 0]) ∧ Below W.heap.size W w') := fun W => by
      have := RHas4_L r.l4 r.n4 y W hr.f4 hr.k4 hr.b4 yf yl
      rw [hok.p4, Bool.true_and] at this
      exact this
    rw [of_nums hn h0]
    cases c4 : hasL r.l4 r.n4 y
    · rw [if_neg (by decide)]
      rw [c4] at HH4
      clear h0 c4 hn hok hm
      go_enter Tryd.func22, Tryd.ntmps22
      go_wp2_with first
        | ((with_reducible show wpList _ _ _ _ _ _); refine armL (.tmp 3) 31 rfl rfl rfl HLR.out ?_)
      refine (HC.out _).mono ?_
      rintro e w2 ⟨rfl, hB2⟩
      have HL4 : Hid _ := (RuAt.of hr (blk_on hb hB2)).ld4
      have HLY : Hid _ := load_y yl (blk_on hb2 hB2)
      go_wp2_with first
        | ((with_reducible show wpList _ _ _ _ _ _); refine armL (.tmp 25) 29 rfl rfl rfl HL4.out ?_)
        | ((with_reducible show wpList _ _ _ _ _ _); refine armL (.tmp 4) 27 rfl rfl rfl HLY.out ?_)
      refine (HH4.out _).mono ?_
      rintro e w3 ⟨rfl, hB3⟩
      have hB23 := hB2.trans (hB3.mono hB2.size)
      go_wp2
      go_returns
      exact ⟨rfl, hBw.trans (hB23.mono hBw.size)⟩
    · rw [if_pos rfl]
      rw [c4] at HH4
      have HNN : Hid (r.n4 = d ∧ r.off = o ∧ r.ea = b) := ⟨hn.e4, hn.eo, hn.eb⟩
      have HSF : Hid (∀ W, Calls Tryd.prog 39 #[RV r] W fun e w' => e = .returned (.int .i64 (32 - (d : Int))) ∧ Below W.heap.size W w') := fun W => by have := suffix_any r hr hm.n4 W; rw [hn.e4] at this; exact this
      have HMIN : Hid ((h : Int) = min (b : Int) (32 - (d : Int))) := by
        have e : hB r = min r.ea (32 - r.n4) := rfl
        rw [hn.eh, hn.eb, hn.e4] at e
        exact e
      have HSH : Hid (∀ W, Calls Tryd.prog 35 #[RV r] W fun e w' => e = .returned (.tuple #[.int .i64 (q : Nat), .bool (decide (0 < q))]) ∧ Below W.heap.size W w') := fun W => by
        have := Shared_any r hr hm W
        rw [hn.eq] at this
        have e : decide ((0 : Int) < (q : Int)) = decide (0 < q) := by rw [decide_eq_decide]; omega
        rw [e] at this
        exact this
      have HPO : Hid _ := fun W => ROf_yes o q n W hoff hpsid hnp
      have hb48 : b ≤ 48 := by have := hok.ea; have := hn.eb; omega
      have HSUM : Hid _ := hn.sum
      by_cases hq : 0 < q
      · have hq1 : decide (0 < q) = true := decide_eq_true hq
        rw [if_pos hq]
        rw [hq1] at HSH
        have hpl := pid_lt o q n
        have hpl16 : pidN o q n < 65536 := Nat.lt_of_lt_of_le hpl (pow16 (by omega))
        have HML : Hid ((accN y d h : Int) * 2 ^ q = ((accN y d h * 2 ^ q : Nat) : Int)) := by show (accN y d h : Int) * 2 ^ q = _; rw [Int.natCast_mul, Int.natCast_pow]; rfl
        have HB48 : Hid (accN y d h * 2 ^ q < 2 ^ 48) := by
          have h1 : accN y d h * 2 ^ q < 2 ^ h * 2 ^ q := Nat.mul_lt_mul_of_pos_right (accN_lt y d h) (Nat.two_pow_pos q)
          rw [← Nat.pow_add, ← HSUM.out] at h1
          have h2 : 2 ^ b ≤ 2 ^ 48 := Nat.pow_le_pow_right (by decide) hb48
          exact Nat.lt_of_lt_of_le h1 h2
        have HOR : Hid (bits .or .u64 ((accN y d h * 2 ^ q : Nat) : Int) ((pidN o q n : Nat) : Int) = ((accN y d h * 2 ^ q + pidN o q n : Nat) : Int)) := by
          have h16 := pow16 (l := q) (by omega)
          have hb4 := HB48.out
          have hx := u64_or_nat (accN y d h * 2 ^ q) (pidN o q n) (by omega) (by omega)
          have e : (accN y d h * 2 ^ q ||| pidN o q n) = accN y d h * 2 ^ q + pidN o q n := by
            have := Nat.two_pow_add_eq_or_of_lt (i := q) (b := pidN o q n) hpl (accN y d h)
            rw [Nat.mul_comm]
            exact this.symm
          show bits .or .u64 _ _ = _
          rw [hx, e]
        have k1 := pow_le16 (l := q) (by omega)
        have k2 := pow_ge1 q
        by_cases hi : isOnes o n
        · rw [if_pos hi]
          have hO : ofE o q n = OfE (pidN o q n) true 0 := if_pos hi
          rw [hO] at HPO
          clear h0 c4 hn hok hm hO hi hq1 hpl HSUM hq
          go_enter Tryd.func22, Tryd.ntmps22
          go_wp2_with first
            | ((with_reducible show wpList _ _ _ _ _ _); refine armL (.tmp 3) 31 rfl rfl rfl HLR.out ?_)
          refine (HC.out _).mono ?_
          rintro e w2 ⟨rfl, hB2⟩
          have HL4 : Hid _ := (RuAt.of hr (blk_on hb hB2)).ld4
          have HLY : Hid _ := load_y yl (blk_on hb2 hB2)
          go_wp2_with first
            | ((with_reducible show wpList _ _ _ _ _ _); refine armL (.tmp 25) 29 rfl rfl rfl HL4.out ?_)
            | ((with_reducible show wpList _ _ _ _ _ _); refine armL (.tmp 4) 27 rfl rfl rfl HLY.out ?_)
          refine (HH4.out _).mono ?_
          rintro e w3 ⟨rfl, hB3⟩
          have hB23 := hB2.trans (hB3.mono hB2.size)
          have HL3 : Hid _ := (RuAt.of hr (blk_on hb hB23)).ldR
          go_wp2_with first
            | ((with_reducible show wpList _ _ _ _ _ _); refine armL (.tmp 3) 31 rfl rfl rfl HL3.out ?_)
          refine (HSH.out _).mono ?_
          rintro e w4 ⟨rfl, hB4⟩
          have hB24 := hB23.trans (hB4.mono hB23.size)
          have hS4 : w4.drew.heap[w.heap.size]? = some (RO r) := blk_drew (blk_on hb hB24)
          have hd4 : Below W.heap.size W w4.drew := hB24.drew
          go_wp2_with fail
          refine wp_region_held (S := fun W => W.heap[w.heap.size]? = some (RO r)) (by kernel_rfl) ?_
          show wpAnyH _ _ _ _ _ 6 (Array.replicate 6 false) _ w4.drew
          refine take_one (i := 0) (d := some 38) (v := .pointer (some ⟨w.heap.size, 22, none⟩)) rfl rfl rfl (by kernel_rfl) (by kernel_rfl) (by kernel_rfl) (fun _ _ d _ _ h => by cases d <;> exact h) (fun W hS => by kernel_rfl) hS4 ?_
          simp only [Act.put, List.setIfInBounds_toArray, List.set_cons_zero, List.set_cons_succ]
          refine take_one (i := 1) (d := some 39) (v := .int .i64 (b : Nat)) rfl rfl rfl (by kernel_rfl) (by kernel_rfl) (by kernel_rfl) (fun _ _ d _ _ h => by cases d <;> exact h) (fun W hS => ex_loadC 38 rfl rfl (by rw [← HNN.out.2.2]; exact (RuAt.of hr hS).c22)) hS4 ?_
          simp only [Act.put, List.setIfInBounds_toArray, List.set_cons_zero, List.set_cons_succ]
          refine take_one (i := 2) (d := some 40) (v := RV r) rfl rfl rfl (by kernel_rfl) (by kernel_rfl) (by kernel_rfl) (fun _ _ d _ _ h => by cases d <;> exact h) (fun W hS => ex_loadA (.tmp 3) 31 rfl rfl (RuAt.of hr hS).ldR) hS4 ?_
          simp only [Act.put, List.setIfInBounds_toArray, List.set_cons_zero, List.set_cons_succ]
          refine all_one (i := 3) (by kernel_rfl) rfl rfl ?_
          refine wp_call (d := some 41) 39 _ rfl (by kernel_rfl) (callR (HSF.out _)) ?_
          rintro _ w5 ⟨rfl, hB5⟩
          have hB25 := hd4.trans (hB5.mono hd4.size)
          have hS5 := blk_on hb hB25
          refine ⟨hS5, ?_⟩
          simp only [Act.put, List.setIfInBounds_toArray, List.set_cons_zero, List.set_cons_succ]
          refine all_one (i := 4) (by kernel_rfl) rfl rfl ?_
          refine wp_effX (d := some 42) (v := .int .i64 (h : Nat)) rfl (ex_minI 39 41 rfl rfl rfl HMIN.out) ⟨hS5, ?_⟩
          simp only [Act.put, List.setIfInBounds_toArray, List.set_cons_zero, List.set_cons_succ]
          refine all_one (i := 5) (by kernel_rfl) rfl rfl ?_
          refine wp_effX (d := some 13) (v := .int .i64 (h : Nat)) rfl (by kernel_rfl) ⟨hS5, ?_⟩
          simp only [Act.put, List.setIfInBounds_toArray, List.set_cons_zero, List.set_cons_succ]
          refine wpAnyH_done (by kernel_rfl) ?_ _
          have c21 := (RuAt.of hr hS5).c21
          rw [HNN.out.1] at c21
          have c23 := (RuAt.of hr hS5).c23
          rw [HNN.out.2.1] at c23
          have HCZ : Hid (∀ j, j < 4 → w5.cell? ⟨w.heap.size + 1, j, none⟩ = some (.int .u8 (y[j]?.getD 0))) := fun j hj => blk_b8 (blk_on hb2 hB25) (by omega)
          have HBB : Hid _ := hBw.trans (hB25.mono hBw.size)
          clear hb hb2 hB2 hB3 hB23 hB4 hB24 hd4 hB5 hB25 hS4 hS5 hBw HNN hr HC HH4 HL4 HLY HLR HL3 HSH HSF HMIN
          go_wp2
          go_loopw [14, 15] (fun xx i wr => ∃ k : Nat, k ≤ h ∧ i = .int .i64 ((d + k : Nat) : Int) ∧ xx = .int .u64 (accN y d k) ∧ wr = w5) (fun _ i _ => (d + h) - (intOf i).toNat)
          case atStart => exact ⟨0, by omega, by simp, rfl, rfl⟩
          case round =>
            obtain ⟨k, hk, rfl, rfl, hwr⟩ := hrel
            subst hwr
            by_cases hlt : k < h
            · obtain ⟨p, hp⟩ : ∃ p : Nat, p = d + k := ⟨_, rfl⟩
              have hor := bit_or y d k (by omega)
              have hbb := bit_b yf p
              rw [← hp] at hor
              have hal := accN_lt y d k
              have hal2 : accN y d k < 2 ^ 62 := Nat.lt_of_lt_of_le hal (Nat.pow_le_pow_right (by decide) (by omega))
              have hbl := bitN_lt y p
              have hz := fit_at yf (p / 8)
              have hcc := HCZ.out (p / 8) (by omega)
              have h8 := tdiv8 p
              have h9 := tmod8 p
              have h10 : (7 : Int) - ((p % 8 : Nat) : Int) = ((7 - p % 8 : Nat) : Int) := by omega
              have hp8 : p / 8 < 4 := by omega
              have h7 : 7 - p % 8 ≤ 7 := by omega
              generalize hy : accN y d (k + 1) = yy at *
              generalize accN y d k = xx at *
              generalize bitN y p = bb at *
              generalize y[p / 8]?.getD 0 = z at *
              generalize 7 - p % 8 = sh at *
              generalize p / 8 = c at *
              generalize p % 8 = c2 at *
              have HY : Hid _ := hy
              have HP : Hid _ := hp
              have hlt2 : (p : Int) < (d : Int) + (h : Int) := by omega
              rw [← hp]
              clear hy hp hal
              go_wp2
              refine ⟨⟨k + 1, by omega, by have := HP.out; simp; omega, by rw [HY.out], trivial⟩, by have := HP.out; simp [intOf]; omega⟩
            · obtain rfl : k = h := by omega
              have hmul := HML.out
              have hb4 := HB48.out
              have hor := HOR.out
              obtain ⟨res, hres⟩ : ∃ res, accN y d k * 2 ^ q + pidN o q n = res := ⟨_, rfl⟩
              rw [hres] at hor
              have HRES : Hid (accN y d k * 2 ^ q + pidN o q n = res) := hres
              clear hres HML HB48 HOR
              generalize accN y d k * 2 ^ q = ml at hmul hb4 hor
              generalize accN y d k = ac at hmul ⊢
              generalize pidN o q n = pp at hor HPO hpl16
              go_wp2_with fail
              refine (HPO.out _).mono ?_
              rintro e w6 ⟨rfl, hB6⟩
              go_wp2
              go_returns
              exact ⟨by rw [HRES.out]; rfl, HBB.out.trans (hB6.mono HBB.out.size)⟩
        · rw [if_neg hi]
          have hO : ofE o q n = OfE 0 false 0 := if_neg hi
          rw [hO] at HPO
          clear h0 c4 hn hok hm hO hi hq1 hpl HSUM hq HML HB48 HOR hpl16
          go_enter Tryd.func22, Tryd.ntmps22
          go_wp2_with first
            | ((with_reducible show wpList _ _ _ _ _ _); refine armL (.tmp 3) 31 rfl rfl rfl HLR.out ?_)
          refine (HC.out _).mono ?_
          rintro e w2 ⟨rfl, hB2⟩
          have HL4 : Hid _ := (RuAt.of hr (blk_on hb hB2)).ld4
          have HLY : Hid _ := load_y yl (blk_on hb2 hB2)
          go_wp2_with first
            | ((with_reducible show wpList _ _ _ _ _ _); refine armL (.tmp 25) 29 rfl rfl rfl HL4.out ?_)
            | ((with_reducible show wpList _ _ _ _ _ _); refine armL (.tmp 4) 27 rfl rfl rfl HLY.out ?_)
          refine (HH4.out _).mono ?_
          rintro e w3 ⟨rfl, hB3⟩
          have hB23 := hB2.trans (hB3.mono hB2.size)
          have HL3 : Hid _ := (RuAt.of hr (blk_on hb hB23)).ldR
          go_wp2_with first
            | ((with_reducible show wpList _ _ _ _ _ _); refine armL (.tmp 3) 31 rfl rfl rfl HL3.out ?_)
          refine (HSH.out _).mono ?_
          rintro e w4 ⟨rfl, hB4⟩
          have hB24 := hB23.trans (hB4.mono hB23.size)
          have hS4 : w4.drew.heap[w.heap.size]? = some (RO r) := blk_drew (blk_on hb hB24)
          have hd4 : Below W.heap.size W w4.drew := hB24.drew
          go_wp2_with fail
          refine wp_region_held (S := fun W => W.heap[w.heap.size]? = some (RO r)) (by kernel_rfl) ?_
          show wpAnyH _ _ _ _ _ 6 (Array.replicate 6 false) _ w4.drew
          refine take_one (i := 0) (d := some 38) (v := .pointer (some ⟨w.heap.size, 22, none⟩)) rfl rfl rfl (by kernel_rfl) (by kernel_rfl) (by kernel_rfl) (fun _ _ d _ _ h => by cases d <;> exact h) (fun W hS => by kernel_rfl) hS4 ?_
          simp only [Act.put, List.setIfInBounds_toArray, List.set_cons_zero, List.set_cons_succ]
          refine take_one (i := 1) (d := some 39) (v := .int .i64 (b : Nat)) rfl rfl rfl (by kernel_rfl) (by kernel_rfl) (by kernel_rfl) (fun _ _ d _ _ h => by cases d <;> exact h) (fun W hS => ex_loadC 38 rfl rfl (by rw [← HNN.out.2.2]; exact (RuAt.of hr hS).c22)) hS4 ?_
          simp only [Act.put, List.setIfInBounds_toArray, List.set_cons_zero, List.set_cons_succ]
          refine take_one (i := 2) (d := some 40) (v := RV r) rfl rfl rfl (by kernel_rfl) (by kernel_rfl) (by kernel_rfl) (fun _ _ d _ _ h => by cases d <;> exact h) (fun W hS => ex_loadA (.tmp 3) 31 rfl rfl (RuAt.of hr hS).ldR) hS4 ?_
          simp only [Act.put, List.setIfInBounds_toArray, List.set_cons_zero, List.set_cons_succ]
          refine all_one (i := 3) (by kernel_rfl) rfl rfl ?_
          refine wp_call (d := some 41) 39 _ rfl (by kernel_rfl) (callR (HSF.out _)) ?_
          rintro _ w5 ⟨rfl, hB5⟩
          have hB25 := hd4.trans (hB5.mono hd4.size)
          have hS5 := blk_on hb hB25
          refine ⟨hS5, ?_⟩
          simp only [Act.put, List.setIfInBounds_toArray, List.set_cons_zero, List.set_cons_succ]
          refine all_one (i := 4) (by kernel_rfl) rfl rfl ?_
          refine wp_effX (d := some 42) (v := .int .i64 (h : Nat)) rfl (ex_minI 39 41 rfl rfl rfl HMIN.out) ⟨hS5, ?_⟩
          simp only [Act.put, List.setIfInBounds_toArray, List.set_cons_zero, List.set_cons_succ]
          refine all_one (i := 5) (by kernel_rfl) rfl rfl ?_
          refine wp_effX (d := some 13) (v := .int .i64 (h : Nat)) rfl (by kernel_rfl) ⟨hS5, ?_⟩
          simp only [Act.put, List.setIfInBounds_toArray, List.set_cons_zero, List.set_cons_succ]
          refine wpAnyH_done (by kernel_rfl) ?_ _
          have c21 := (RuAt.of hr hS5).c21
          rw [HNN.out.1] at c21
          have c23 := (RuAt.of hr hS5).c23
          rw [HNN.out.2.1] at c23
          have HCZ : Hid (∀ j, j < 4 → w5.cell? ⟨w.heap.size + 1, j, none⟩ = some (.int .u8 (y[j]?.getD 0))) := fun j hj => blk_b8 (blk_on hb2 hB25) (by omega)
          have HBB : Hid _ := hBw.trans (hB25.mono hBw.size)
          clear hb hb2 hB2 hB3 hB23 hB4 hB24 hd4 hB5 hB25 hS4 hS5 hBw HNN hr HC HH4 HL4 HLY HLR HL3 HSH HSF HMIN
          go_wp2
          go_loopw [14, 15] (fun xx i wr => ∃ k : Nat, k ≤ h ∧ i = .int .i64 ((d + k : Nat) : Int) ∧ xx = .int .u64 (accN y d k) ∧ wr = w5) (fun _ i _ => (d + h) - (intOf i).toNat)
          case atStart => exact ⟨0, by omega, by simp, rfl, rfl⟩
          case round =>
            obtain ⟨k, hk, rfl, rfl, hwr⟩ := hrel
            subst hwr
            by_cases hlt : k < h
            · obtain ⟨p, hp⟩ : ∃ p : Nat, p = d + k := ⟨_, rfl⟩
              have hor := bit_or y d k (by omega)
              have hbb := bit_b yf p
              rw [← hp] at hor
              have hal := accN_lt y d k
              have hal2 : accN y d k < 2 ^ 62 := Nat.lt_of_lt_of_le hal (Nat.pow_le_pow_right (by decide) (by omega))
              have hbl := bitN_lt y p
              have hz := fit_at yf (p / 8)
              have hcc := HCZ.out (p / 8) (by omega)
              have h8 := tdiv8 p
              have h9 := tmod8 p
              have h10 : (7 : Int) - ((p % 8 : Nat) : Int) = ((7 - p % 8 : Nat) : Int) := by omega
              have hp8 : p / 8 < 4 := by omega
              have h7 : 7 - p % 8 ≤ 7 := by omega
              generalize hy : accN y d (k + 1) = yy at *
              generalize accN y d k = xx at *
              generalize bitN y p = bb at *
              generalize y[p / 8]?.getD 0 = z at *
              generalize 7 - p % 8 = sh at *
              generalize p / 8 = c at *
              generalize p % 8 = c2 at *
              have HY : Hid _ := hy
              have HP : Hid _ := hp
              have hlt2 : (p : Int) < (d : Int) + (h : Int) := by omega
              rw [← hp]
              clear hy hp hal
              go_wp2
              refine ⟨⟨k + 1, by omega, by have := HP.out; simp; omega, by rw [HY.out], trivial⟩, by have := HP.out; simp [intOf]; omega⟩
            · obtain rfl : k = h := by omega
              generalize accN y d k = ac at *
              go_wp2_with fail
              refine (HPO.out _).mono ?_
              rintro e w6 ⟨rfl, hB6⟩
              go_wp2
              go_returns
              exact ⟨rfl, HBB.out.trans (hB6.mono HBB.out.size)⟩
      · have hq1 : decide (0 < q) = false := decide_eq_false hq
        rw [if_neg hq]
        rw [hq1] at HSH
        clear h0 c4 hn hok hm hq1 HSUM hq HPO
        go_enter Tryd.func22, Tryd.ntmps22
        go_wp2_with first
          | ((with_reducible show wpList _ _ _ _ _ _); refine armL (.tmp 3) 31 rfl rfl rfl HLR.out ?_)
        refine (HC.out _).mono ?_
        rintro e w2 ⟨rfl, hB2⟩
        have HL4 : Hid _ := (RuAt.of hr (blk_on hb hB2)).ld4
        have HLY : Hid _ := load_y yl (blk_on hb2 hB2)
        go_wp2_with first
          | ((with_reducible show wpList _ _ _ _ _ _); refine armL (.tmp 25) 29 rfl rfl rfl HL4.out ?_)
          | ((with_reducible show wpList _ _ _ _ _ _); refine armL (.tmp 4) 27 rfl rfl rfl HLY.out ?_)
        refine (HH4.out _).mono ?_
        rintro e w3 ⟨rfl, hB3⟩
        have hB23 := hB2.trans (hB3.mono hB2.size)
        have HL3 : Hid _ := (RuAt.of hr (blk_on hb hB23)).ldR
        go_wp2_with first
          | ((with_reducible show wpList _ _ _ _ _ _); refine armL (.tmp 3) 31 rfl rfl rfl HL3.out ?_)
        refine (HSH.out _).mono ?_
        rintro e w4 ⟨rfl, hB4⟩
        have hB24 := hB23.trans (hB4.mono hB23.size)
        have hS4 : w4.drew.heap[w.heap.size]? = some (RO r) := blk_drew (blk_on hb hB24)
        have hd4 : Below W.heap.size W w4.drew := hB24.drew
        go_wp2_with fail
        refine wp_region_held (S := fun W => W.heap[w.heap.size]? = some (RO r)) (by kernel_rfl) ?_
        show wpAnyH _ _ _ _ _ 6 (Array.replicate 6 false) _ w4.drew
        refine take_one (i := 0) (d := some 38) (v := .pointer (some ⟨w.heap.size, 22, none⟩)) rfl rfl rfl (by kernel_rfl) (by kernel_rfl) (by kernel_rfl) (fun _ _ d _ _ h => by cases d <;> exact h) (fun W hS => by kernel_rfl) hS4 ?_
        simp only [Act.put, List.setIfInBounds_toArray, List.set_cons_zero, List.set_cons_succ]
        refine take_one (i := 1) (d := some 39) (v := .int .i64 (b : Nat)) rfl rfl rfl (by kernel_rfl) (by kernel_rfl) (by kernel_rfl) (fun _ _ d _ _ h => by cases d <;> exact h) (fun W hS => ex_loadC 38 rfl rfl (by rw [← HNN.out.2.2]; exact (RuAt.of hr hS).c22)) hS4 ?_
        simp only [Act.put, List.setIfInBounds_toArray, List.set_cons_zero, List.set_cons_succ]
        refine take_one (i := 2) (d := some 40) (v := RV r) rfl rfl rfl (by kernel_rfl) (by kernel_rfl) (by kernel_rfl) (fun _ _ d _ _ h => by cases d <;> exact h) (fun W hS => ex_loadA (.tmp 3) 31 rfl rfl (RuAt.of hr hS).ldR) hS4 ?_
        simp only [Act.put, List.setIfInBounds_toArray, List.set_cons_zero, List.set_cons_succ]
        refine all_one (i := 3) (by kernel_rfl) rfl rfl ?_
        refine wp_call (d := some 41) 39 _ rfl (by kernel_rfl) (callR (HSF.out _)) ?_
        rintro _ w5 ⟨rfl, hB5⟩
        have hB25 := hd4.trans (hB5.mono hd4.size)
        have hS5 := blk_on hb hB25
        refine ⟨hS5, ?_⟩
        simp only [Act.put, List.setIfInBounds_toArray, List.set_cons_zero, List.set_cons_succ]
        refine all_one (i := 4) (by kernel_rfl) rfl rfl ?_
        refine wp_effX (d := some 42) (v := .int .i64 (h : Nat)) rfl (ex_minI 39 41 rfl rfl rfl HMIN.out) ⟨hS5, ?_⟩
        simp only [Act.put, List.setIfInBounds_toArray, List.set_cons_zero, List.set_cons_succ]
        refine all_one (i := 5) (by kernel_rfl) rfl rfl ?_
        refine wp_effX (d := some 13) (v := .int .i64 (h : Nat)) rfl (by kernel_rfl) ⟨hS5, ?_⟩
        simp only [Act.put, List.setIfInBounds_toArray, List.set_cons_zero, List.set_cons_succ]
        refine wpAnyH_done (by kernel_rfl) ?_ _
        have c21 := (RuAt.of hr hS5).c21
        rw [HNN.out.1] at c21
        have c23 := (RuAt.of hr hS5).c23
        rw [HNN.out.2.1] at c23
        have HCZ : Hid (∀ j, j < 4 → w5.cell? ⟨w.heap.size + 1, j, none⟩ = some (.int .u8 (y[j]?.getD 0))) := fun j hj => blk_b8 (blk_on hb2 hB25) (by omega)
        have HBB : Hid _ := hBw.trans (hB25.mono hBw.size)
        clear hb hb2 hB2 hB3 hB23 hB4 hB24 hd4 hB5 hB25 hS4 hS5 hBw HNN hr HC HH4 HL4 HLY HLR HL3 HSH HSF HMIN
        go_wp2
        go_loopw [14, 15] (fun xx i wr => ∃ k : Nat, k ≤ h ∧ i = .int .i64 ((d + k : Nat) : Int) ∧ xx = .int .u64 (accN y d k) ∧ wr = w5) (fun _ i _ => (d + h) - (intOf i).toNat)
        case atStart => exact ⟨0, by omega, by simp, rfl, rfl⟩
        case round =>
          obtain ⟨k, hk, rfl, rfl, hwr⟩ := hrel
          subst hwr
          by_cases hlt : k < h
          · obtain ⟨p, hp⟩ : ∃ p : Nat, p = d + k := ⟨_, rfl⟩
            have hor := bit_or y d k (by omega)
            have hbb := bit_b yf p
            rw [← hp] at hor
            have hal := accN_lt y d k
            have hal2 : accN y d k < 2 ^ 62 := Nat.lt_of_lt_of_le hal (Nat.pow_le_pow_right (by decide) (by omega))
            have hbl := bitN_lt y p
            have hz := fit_at yf (p / 8)
            have hcc := HCZ.out (p / 8) (by omega)
            have h8 := tdiv8 p
            have h9 := tmod8 p
            have h10 : (7 : Int) - ((p % 8 : Nat) : Int) = ((7 - p % 8 : Nat) : Int) := by omega
            have hp8 : p / 8 < 4 := by omega
            have h7 : 7 - p % 8 ≤ 7 := by omega
            generalize hy : accN y d (k + 1) = yy at *
            generalize accN y d k = xx at *
            generalize bitN y p = bb at *
            generalize y[p / 8]?.getD 0 = z at *
            generalize 7 - p % 8 = sh at *
            generalize p / 8 = c at *
            generalize p % 8 = c2 at *
            have HY : Hid _ := hy
            have HP : Hid _ := hp
            have hlt2 : (p : Int) < (d : Int) + (h : Int) := by omega
            rw [← hp]
            clear hy hp hal
            go_wp2
            refine ⟨⟨k + 1, by omega, by have := HP.out; simp; omega, by rw [HY.out], trivial⟩, by have := HP.out; simp [intOf]; omega⟩
          · obtain rfl : k = h := by omega
            generalize hacc : accN y d k = ac at *
            have HACC : Hid _ := hacc
            clear hacc
            go_wp2
            go_returns
            exact ⟨by rw [HACC.out]; rfl, HBB.out⟩
  · have hE : ofV r y n = (0, ckE r) := by unfold ofV; rw [if_neg h0]
    rw [hE]
    have q0 : (ckE r != 0) = true := by simpa using h0
    clear hE h0
    generalize ckE r = ce at *
    go_enter Tryd.func22, Tryd.ntmps22
    go_wp2_with first
      | ((with_reducible show wpList _ _ _ _ _ _); refine armL (.tmp 3) 31 rfl rfl rfl HLR.out ?_)
    refine (HC.out _).mono ?_
    rintro e w2 ⟨rfl, hB2⟩
    go_wp2
    go_returns
    exact ⟨rfl, hBw.trans (hB2.mono hBw.size)⟩

end Go.Proofs.YtloadmpappjceaaDoor
