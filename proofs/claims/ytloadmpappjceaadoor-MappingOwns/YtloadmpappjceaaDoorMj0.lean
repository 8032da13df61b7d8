/-
  Bits and Of of the document.
-/
import Derived.Test.YtloadmpappjceaaDoorMi3
namespace Go.Proofs.YtloadmpappjceaaDoor
open Go Go.RowKit Go.ChangeShapes Go.WideShapes Go.ChangeAt
set_option linter.unusedVariables false
set_option linter.unusedSimpArgs false

theorem ex_minI {o : Oper} {a : Act} {W : World} (i j : Nat) {x y m : Int} (hop : o.op = Op.call { callee := Callee.builtin Builtin.min, args := #[.tmp i, .tmp j], argTypes := #[3, 3] }) (hi : a.eval (.tmp i) = .int .i64 x) (hj : a.eval (.tmp j) = .int .i64 y) (hm : m = min x y) :
    (execOp a.eval o).run Tryd.prog W = .ok (.value (.int .i64 m)) W := by
  subst hm
  generalize a.eval = ev at *
  by_cases h : x ≤ y
  · rw [Int.min_eq_left h]
    simp [execOp, hop, resolve, invoke, builtin, hi, hj, Builtin.min_, Builtin.min2, go_sem, Result.andThen]
    try omega
  · rw [Int.min_eq_right (by omega)]
    simp [execOp, hop, resolve, invoke, builtin, hi, hj, Builtin.min_, Builtin.min2, go_sem, Result.andThen]
    try omega
/-- One bit more, as the document takes it. -/
structure Step (zs : List Int) (p k : Nat) where
  ok : True
theorem bit_or (zs : List Int) (s k : Nat) (hk : k < 64) : bits .or .u64 ((accN zs s k : Nat) * 2 : Int) ((bitN zs (s + k) : Nat) : Int) = ((accN zs s (k + 1) : Nat) : Int) := by
  have h := Fld.shl_or (accN zs s k) k (bitN zs (s + k)) (accN_lt zs s k) hk (bitN_lt zs _)
  rw [h]
  rfl
theorem bit_b {zs : List Int} (hf : FitB zs) (p : Nat) : bits .and .u8 ((zs[p / 8]?.getD 0) / 2 ^ (7 - p % 8)) 1 = ((bitN zs p : Nat) : Int) := by
  have hz := fit_at hf (p / 8)
  exact Fld.bit_u8 _ _ hz.1 hz.2


set_option maxHeartbeats 4000000 in
set_option maxRecDepth 100000 in
theorem RBits_any (r : Ru) (hr : r.In) (x : List Int) (xf : FitB x) (xl : x.length = 16) (w : World) :
    Calls Tryd.prog 20 #[RV r, .agg (b8 x).toArray] w fun e w' => e = .returned (bitsE r x) ∧ Below w.heap.size w w' := by
  obtain ⟨hb, hb2, hBw⟩ := two_box' w (RO r) (XO x)
  have HC : Hid _ := fun W => RCheck_r r hr W
  have HLR : Hid _ := (RuAt.of hr hb).ldR
  generalize hW : (w.alloc (RO r)).alloc (XO x) = W at *
  by_cases h0 : ckE r = 0
  · have hok := Ru.ok_of hr h0
    obtain ⟨a, b, d, h, q, o, hn⟩ := hok.nums
    have hlen := hn.len
    rw [h0] at HC
    have HH6 : Hid (∀ W, Calls Tryd.prog 31 #[P6 r.l6 r.n6, .agg (b8 x).toArray] W fun e w' => e = .returned (.tuple #[.bool (has6 r.l6 r.n6 x), .int .i64 0]) ∧ Below W.heap.size W w') := fun W => by
      have := RHas6_calls r.l6 r.n6 x W hr.f6 hr.k6 xf xl hr.b6
      rw [hok.p6, Bool.true_and] at this
      exact this
    cases c6 : has6 r.l6 r.n6 x
    · have hE : bitsE r x = UE 0 82 := by unfold bitsE; rw [if_pos h0, c6]; rfl
      rw [hE]
      rw [c6] at HH6
      clear hE h0 c6 hn hok
      go_enter Tryd.func20, Tryd.ntmps20
      go_wp2_with first
        | ((with_reducible show wpList _ _ _ _ _ _); refine armL (.tmp 2) 31 rfl rfl rfl HLR.out ?_)
      refine (HC.out _).mono ?_
      rintro e w2 ⟨rfl, hB2⟩
      have HL6 : Hid _ := (RuAt.of hr (blk_on hb hB2)).ld6
      have HLX : Hid _ := load_x xl (blk_on hb2 hB2)
      go_wp2_with first
        | ((with_reducible show wpList _ _ _ _ _ _); refine armL (.tmp 17) 25 rfl rfl rfl HL6.out ?_)
        | ((with_reducible show wpList _ _ _ _ _ _); refine armL (.tmp 3) 23 rfl rfl rfl HLX.out ?_)
      refine (HH6.out _).mono ?_
      rintro e w3 ⟨rfl, hB3⟩
      have hB23 := hB2.trans (hB3.mono hB2.size)
      go_wp2
      go_returns
      exact ⟨rfl, hBw.trans (hB23.mono hBw.size)⟩
    · have hE : bitsE r x = UE (accN x a b : Nat) 0 := by unfold bitsE; rw [if_pos h0, c6, hn.e6, hn.eb, Int.toNat_natCast, Int.toNat_natCast]; rfl
      rw [hE]
      rw [c6] at HH6
      have HN6 : Hid (r.n6 = a ∧ r.ea = b) := ⟨hn.e6, hn.eb⟩
      have hb48 : b ≤ 48 := by have := hok.ea; have := hn.eb; omega
      clear hE h0 c6 hn hok
      go_enter Tryd.func20, Tryd.ntmps20
      go_wp2_with first
        | ((with_reducible show wpList _ _ _ _ _ _); refine armL (.tmp 2) 31 rfl rfl rfl HLR.out ?_)
      refine (HC.out _).mono ?_
      rintro e w2 ⟨rfl, hB2⟩
      have HL6 : Hid _ := (RuAt.of hr (blk_on hb hB2)).ld6
      have HLX : Hid _ := load_x xl (blk_on hb2 hB2)
      go_wp2_with first
        | ((with_reducible show wpList _ _ _ _ _ _); refine armL (.tmp 17) 25 rfl rfl rfl HL6.out ?_)
        | ((with_reducible show wpList _ _ _ _ _ _); refine armL (.tmp 3) 23 rfl rfl rfl HLX.out ?_)
      refine (HH6.out _).mono ?_
      rintro e w3 ⟨rfl, hB3⟩
      have hB23 := hB2.trans (hB3.mono hB2.size)
      have c16 := (RuAt.of hr (blk_on hb hB23)).c16
      have c22 := (RuAt.of hr (blk_on hb hB23)).c22
      rw [HN6.out.1] at c16
      rw [HN6.out.2] at c22
      have HCZ : Hid (∀ j, j < 16 → w3.cell? ⟨w.heap.size + 1, j, none⟩ = some (.int .u8 (x[j]?.getD 0))) := fun j hj => blk_b8 (blk_on hb2 hB23) (by omega)
      have HBB : Hid _ := hBw.trans (hB23.mono hBw.size)
      clear hb hb2 hB2 hB3 hB23 hBw HN6 hr HC HH6 HL6 HLX HLR
      go_wp2
      go_loopw [9, 10] (fun xx i wr => ∃ k : Nat, k ≤ b ∧ i = .int .i64 ((a + k : Nat) : Int) ∧ xx = .int .u64 (accN x a k) ∧ wr = w3) (fun _ i _ => (a + b) - (intOf i).toNat)
      case atStart => exact ⟨0, by omega, by simp, rfl, rfl⟩
      case round =>
        obtain ⟨k, hk, rfl, rfl, hwr⟩ := hrel
        subst hwr
        by_cases hlt : k < b
        · obtain ⟨p, hp⟩ : ∃ p : Nat, p = a + k := ⟨_, rfl⟩
          have hor := bit_or x a k (by omega)
          have hbb := bit_b xf p
          rw [← hp] at hor
          have hal := accN_lt x a k
          have hal2 : accN x a k < 2 ^ 62 := Nat.lt_of_lt_of_le hal (Nat.pow_le_pow_right (by decide) (by omega))
          have hbl := bitN_lt x p
          have hz := fit_at xf (p / 8)
          have hcc := HCZ.out (p / 8) (by omega)
          have h8 := tdiv8 p
          have h9 := tmod8 p
          have h10 : (7 : Int) - ((p % 8 : Nat) : Int) = ((7 - p % 8 : Nat) : Int) := by omega
          have hp8 : p / 8 < 16 := by omega
          have h7 : 7 - p % 8 ≤ 7 := by omega
          generalize hy : accN x a (k + 1) = yy at *
          generalize accN x a k = xx at *
          generalize bitN x p = bb at *
          generalize x[p / 8]?.getD 0 = z at *
          generalize 7 - p % 8 = sh at *
          generalize p / 8 = c at *
          generalize p % 8 = c2 at *
          have HY : Hid _ := hy
          have HP : Hid _ := hp
          have hlt2 : (p : Int) < (a : Int) + (b : Int) := by omega
          rw [← hp]
          clear hy hp hal
          go_wp2
          refine ⟨⟨k + 1, by omega, by have := HP.out; simp; omega, by rw [HY.out], trivial⟩, by have := HP.out; simp [intOf]; omega⟩
        · obtain rfl : k = b := by omega
          generalize hacc : accN x a k = z at *
          have HZ : Hid _ := hacc
          clear hacc
          go_wp2
          go_returns
          exact ⟨by rw [HZ.out]; rfl, HBB.out⟩
  · have hE : bitsE r x = UE 0 (ckE r) := by unfold bitsE; rw [if_neg h0]
    rw [hE]
    have q0 : (ckE r != 0) = true := by simpa using h0
    clear hE h0
    generalize ckE r = ce at *
    go_enter Tryd.func20, Tryd.ntmps20
    go_wp2_with first
      | ((with_reducible show wpList _ _ _ _ _ _); refine armL (.tmp 2) 31 rfl rfl rfl HLR.out ?_)
    refine (HC.out _).mono ?_
    rintro e w2 ⟨rfl, hB2⟩
    go_wp2
    go_returns
    exact ⟨rfl, hBw.trans (hB2.mono hBw.size)⟩

end Go.Proofs.YtloadmpappjceaaDoor
