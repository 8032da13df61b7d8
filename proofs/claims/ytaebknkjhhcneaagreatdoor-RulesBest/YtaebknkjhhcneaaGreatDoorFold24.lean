/-
  The statement MappingBack for every argument.
  Map and Comes of the program.
  Bits and Of of the document.
  Of of the document.
-/
import Derived.Test.YtaebknkjhhcneaaGreatDoorFold23
namespace Go.Proofs.YtaebknkjhhcneaaGreatDoor
open Go Go.RowKit Go.ChangeShapes Go.WideShapes Go.ChangeAt
set_option linter.unusedVariables false
set_option linter.unusedSimpArgs false

theorem edge_two (r : Ru) (hr : r.In) (v : Nat) : (r.Ok ∧ ckE r = 0 ∧ v < 2 ^ r.ea.toNat ∧ edgE r v = .tuple #[EV (edg r v), .int .i64 0]) ∨ ∃ g : Int, g ≠ 0 ∧ edgE r v = .tuple #[EV zeroEd, .int .i64 g] := by
  unfold edgE
  by_cases c : ckE r = 0
  · rw [if_pos c]
    by_cases c2 : v < 2 ^ r.ea.toNat
    · rw [if_pos c2]; exact .inl ⟨Ru.ok_of hr c, c, c2, rfl⟩
    · rw [if_neg c2]; exact .inr ⟨101, by decide, rfl⟩
  · rw [if_neg c]; exact .inr ⟨_, c, rfl⟩
theorem bits_own {r : Ru} (hr : r.In) (hok : r.Ok) (h0 : ckE r = 0) {v : Nat} (hv : v < 2 ^ r.ea.toNat) : bitsE r (edg r v).ow = UE v 0 := by
  obtain ⟨a, b, d, h, q, o, hn⟩ := hok.nums
  rw [hn.eb, Int.toNat_natCast] at hv
  have hh := own_has hok hn hv
  unfold bitsE
  rw [if_pos h0, edg_ow, has6, decide_eq_true hh.1, if_pos rfl, hn.e6, hn.eb, Int.toNat_natCast, Int.toNat_natCast, hh.2]
theorem bits_in {r : Ru} (hok : r.Ok) (h0 : ckE r = 0) {v : Nat} (hv : v < 2 ^ r.ea.toNat) {x : List Int} (xf : FitB x) (xl : x.length = 16) (hx : has6 (edg r v).l6 (edg r v).n6 x = true) : bitsE r x = UE v 0 := by
  obtain ⟨a, b, d, h, q, o, hn⟩ := hok.nums
  rw [hn.eb, Int.toNat_natCast] at hv
  have e1 : has6 (edg r v).l6 (edg r v).n6 x = decide (blR (r.n6 + r.ea) x = endL r v) := rfl
  rw [e1, decide_eq_true_eq, end_has hok hn hv xf xl] at hx
  unfold bitsE
  rw [if_pos h0, has6, decide_eq_true hx.1, if_pos rfl, hn.e6, hn.eb, Int.toNat_natCast, Int.toNat_natCast, hx.2]
theorem bits_form (r : Ru) (x : List Int) : ∃ n e : Int, bitsE r x = UE n e := by
  unfold bitsE
  split
  · split
    · exact ⟨_, _, rfl⟩
    · exact ⟨_, _, rfl⟩
  · exact ⟨_, _, rfl⟩
theorem of_nums {r : Ru} {a b d h q o : Nat} (hn : Nums r a b d h q o) (h0 : ckE r = 0) (y : List Int) (n : Nat) : ofV r y n = if hasL r.l4 r.n4 y = true then (if 0 < q then (if isOnes o n then (accN y d h * 2 ^ q + pidN o q n, 0) else (0, 91)) else (accN y d h, 0)) else (0, 82) := by
  unfold ofV
  rw [if_pos h0, hn.eq, hn.e4, hn.eh, hn.eo, Int.toNat_natCast, Int.toNat_natCast, Int.toNat_natCast, Int.toNat_natCast]
  by_cases c : 0 < q
  · rw [if_pos c, if_pos (show (0 : Int) < (q : Int) by omega)]
  · rw [if_neg c, if_neg (show ¬ (0 : Int) < (q : Int) by omega)]
theorem of_owns {r : Ru} (hok : r.Ok) (h0 : ckE r = 0) {v : Nat} (hv : v < 2 ^ r.ea.toNat) {y : List Int} (yf : FitB y) (yl : y.length = 4) (n : Nat) : ownsB (edg r v) y n = true ↔ ((ofV r y n).2 = 0 ∧ (ofV r y n).1 = v) := by
  obtain ⟨a, b, d, h, q, o, hn⟩ := hok.nums
  rw [hn.eb, Int.toNat_natCast] at hv
  rw [owns_iff hok hn hv yf yl n, of_nums hn h0]
  have ehas : hasL r.l4 r.n4 y = true ↔ blR r.n4 y = r.l4 := by unfold hasL; rw [decide_eq_true_eq]
  have hq2 := Nat.two_pow_pos q
  have hdm := Nat.div_add_mod v (2 ^ q)
  by_cases c1 : hasL r.l4 r.n4 y = true
  · rw [if_pos c1, ← ehas]
    by_cases c2 : 0 < q
    · rw [if_pos c2]
      by_cases c3 : isOnes o n
      · rw [if_pos c3]
        have hp := pid_lt o q n
        constructor
        · rintro ⟨_, e1, e2⟩
          refine ⟨rfl, ?_⟩
          rw [e1, (e2 c2).2, Nat.mul_comm]
          exact hdm
        · rintro ⟨_, e⟩
          refine ⟨c1, ?_, fun _ => ⟨c3, ?_⟩⟩
          · rw [← e, Nat.mul_comm, Nat.mul_add_div hq2, Nat.div_eq_of_lt hp, Nat.add_zero]
          · rw [← e, Nat.mul_comm, Nat.mul_add_mod, Nat.mod_eq_of_lt hp]
      · rw [if_neg c3]
        exact ⟨fun k => absurd (k.2.2 c2).1 c3, fun k => by have := k.1; simp at this⟩
    · rw [if_neg c2]
      obtain rfl : q = 0 := by omega
      simp only [Nat.pow_zero, Nat.div_one]
      exact ⟨fun k => ⟨trivial, k.2.1⟩, fun k => ⟨c1, k.2, fun z => by omega⟩⟩
  · rw [if_neg c1]
    exact ⟨fun k => absurd (ehas.2 k.1) c1, fun k => by have := k.1; simp at this⟩

end Go.Proofs.YtaebknkjhhcneaaGreatDoor

namespace Go.Proofs.YtaebknkjhhcneaaGreatDoor
open Go Go.RowKit Go.ChangeShapes Go.WideShapes Go.ChangeAt
set_option linter.unusedVariables false
set_option linter.unusedSimpArgs false


def mapE (r : Ru) (y : List Int) (n : Nat) : Value := if (ofV r y n).2 = 0 then .tuple #[A6 (ownL r (ofV r y n).1), .int .i64 0] else .tuple #[.agg zero16V.toArray, .int .i64 (ofV r y n).2]
def comesE (r : Ru) (x y : List Int) (n : Nat) : Value := if (ofV r y n).2 = 82 ∨ (ofV r y n).2 = 91 then .tuple #[.bool false, .int .i64 0] else if (ofV r y n).2 = 0 then .tuple #[.bool (decide (ownL r (ofV r y n).1 = x)), .int .i64 0] else .tuple #[.bool false, .int .i64 (ofV r y n).2]
theorem of_ok {r : Ru} (hr : r.In) {y : List Int} {n : Nat} (h : (ofV r y n).2 = 0) : r.Ok ∧ ckE r = 0 ∧ (ofV r y n).1 < 2 ^ r.ea.toNat := by
  by_cases c : ckE r = 0
  · have hok := Ru.ok_of hr c
    refine ⟨hok, c, ?_⟩
    obtain ⟨a, b, d, g, q, o, hn⟩ := hok.nums
    have hl := accN_lt y d g
    rw [of_nums hn c] at h ⊢
    rw [hn.eb, Int.toNat_natCast]
    have hsum := hn.sum
    by_cases c1 : hasL r.l4 r.n4 y = true
    · rw [if_pos c1] at h ⊢
      by_cases c2 : 0 < q
      · rw [if_pos c2] at h ⊢
        by_cases c3 : isOnes o n
        · rw [if_pos c3]
          have hp := pid_lt o q n
          have h1 : (accN y d g + 1) * 2 ^ q ≤ 2 ^ g * 2 ^ q := Nat.mul_le_mul_right _ hl
          rw [← Nat.pow_add, ← hsum, Nat.add_mul, Nat.one_mul] at h1
          show accN y d g * 2 ^ q + pidN o q n < 2 ^ b
          omega
        · rw [if_neg c3] at h; simp at h
      · rw [if_neg c2]
        obtain rfl : b = g := by omega
        exact hl
    · rw [if_neg c1] at h; simp at h
  · unfold ofV at h
    rw [if_neg c] at h
    exact absurd h c


set_option maxHeartbeats 2000000 in
set_option maxRecDepth 100000 in
theorem Map_any (r : Ru) (hr : r.In) (y : List Int) (yf : FitB y) (yl : y.length = 4) (n : Nat) (hn : n < 65536) (w : World) :
    Calls Tryz.prog 54 #[RV r, A4L y, .int .u16 n] w fun e w' => e = .returned (mapE r y n) ∧ Below w.heap.size w w' := by
  generalize hQ : (fun (e : Ending) (w' : World) => e = .returned (mapE r y n) ∧ Below w.heap.size w w') = Q
  have HQ : Hid _ := hQ
  clear hQ
  obtain ⟨hb, hby, hbz, hBw⟩ := three_box w (RO r) (YO y) (.cells zero16V.toArray 24)
  have HOF : Hid _ := fun W => Of_r r hr y yf yl n hn W
  have HLR : Hid _ := (RuAt.of hr hb).ldR
  have HLY : Hid _ := load_y yl hby
  generalize hW : ((w.alloc (RO r)).alloc (YO y)).alloc (.cells zero16V.toArray 24) = W at *
  by_cases h0 : (ofV r y n).2 = 0
  · obtain ⟨hok, hck, hlt⟩ := of_ok hr h0
    have hE : mapE r y n = .tuple #[A6 (ownL r (ofV r y n).1), .int .i64 0] := by unfold mapE; rw [if_pos h0]
    rw [hE] at HQ
    rw [h0] at HOF
    have HED : Hid _ := fun W => edgeOf_any r hok (ofV r y n).1 hlt W
    have hkw := ownL_length (v := (ofV r y n).1) hok
    have hk4 : (edg r (ofV r y n).1).l4.length = 4 := by rw [edg_l4]; exact v4L_length hok
    have hk6 : (edg r (ofV r y n).1).l6.length = 16 := by rw [edg_l6]; exact endL_length hok
    have p4 : (edC (edg r (ofV r y n).1)).toArray.extract 25 41 = (u8s (ownL r (ofV r y n).1)).toArray := by
      have l4 := cp4_length _ (edg r (ofV r y n).1).n4 hk4
      have l6 := cp6_length _ (edg r (ofV r y n).1).n6 hk6
      have := arr_cut (cp4 (edg r (ofV r y n).1).l4 (edg r (ofV r y n).1).n4 ++ PSL (edg r (ofV r y n).1).o (edg r (ofV r y n).1).l (edg r (ofV r y n).1).p ++ cp6 (edg r (ofV r y n).1).l6 (edg r (ofV r y n).1).n6) (b8 (ownL r (ofV r y n).1)) [] (n := 25) (m := 41) (by simp [l4, l6]) (by rw [b8_length, hkw])
      have e2 : edC (edg r (ofV r y n).1) = cp4 (edg r (ofV r y n).1).l4 (edg r (ofV r y n).1).n4 ++ PSL (edg r (ofV r y n).1).o (edg r (ofV r y n).1).l (edg r (ofV r y n).1).p ++ cp6 (edg r (ofV r y n).1).l6 (edg r (ofV r y n).1).n6 ++ (b8 (ownL r (ofV r y n).1) ++ []) := by
        rw [edC, edg_ow]; simp
      rw [e2]
      exact this
    unfold EV at HED
    generalize (ofV r y n).1 = v at *
    generalize (edC (edg r v)).toArray = z at *
    generalize ownL r v = ow at *
    clear hE h0 hok hck hlt hk4 hk6
    go_enter Tryz.func54, Tryz.ntmps54
    go_wp2_with first
      | ((with_reducible show wpList _ _ _ _ _ _); refine armL (.tmp 3) 65 rfl rfl rfl HLR.out ?_)
      | ((with_reducible show wpList _ _ _ _ _ _); refine armL (.tmp 4) 61 rfl rfl rfl HLY.out ?_)
    refine (HOF.out _).mono ?_
    rintro e w2 ⟨rfl, hB2⟩
    have HL2 : Hid _ := (RuAt.of hr (blk_on hb hB2)).ldR
    go_wp2_with first
      | ((with_reducible show wpList _ _ _ _ _ _); refine armL (.tmp 3) 65 rfl rfl rfl HL2.out ?_)
    refine (HED.out _).mono ?_
    rintro e w3 ⟨rfl, hB3⟩
    have hB23 := hB2.trans (hB3.mono hB2.size)
    obtain ⟨wE, hst, bE, hon⟩ := box_store Tryz.sizeOf24 (blk_on hbz hB23) rfl (u8s ow) (by rw [u8s_length, hkw]) (u8s_one _)
    have HLV : Hid _ := agg_loadVar (t := 24) Tryz.isAgg24 Tryz.sizeOf24 (by rw [u8s_length, hkw]) (CellsAt.of_blk bE)
    have HST : Hid _ := hst
    have HBE : Hid (Below w.heap.size w wE) := (hBw.trans (hB23.mono hBw.size)).trans (hon.below (by omega))
    have hfld : ∀ W, (Instr.field 69 (.agg z) 3).run Tryz.prog W = .ok (.agg (u8s ow).toArray) W := by
      intro W
      simp [Instr.field, go_sem, asAgg, p4, Result.andThen]
    clear hst bE hon
    go_wp2_with first
      | ((with_reducible show wpList _ _ _ _ _ _); refine armS (.tmp 6) (.tmp 24) 24 rfl rfl rfl rfl HST.out ?_)
    refine bodyPost_ret (res2c Tryz.results54 rfl HLV.out) rfl ?_
    rw [← HQ.out]
    exact ⟨rfl, HBE.out⟩
  · have hE : mapE r y n = .tuple #[.agg zero16V.toArray, .int .i64 (ofV r y n).2] := by unfold mapE; rw [if_neg h0]
    rw [hE] at HQ
    have q0 : ((ofV r y n).2 != 0) = true := by simpa using h0
    clear hE h0
    generalize (ofV r y n).2 = ce at *
    generalize (ofV r y n).1 = v at *
    go_enter Tryz.func54, Tryz.ntmps54
    go_wp2_with first
      | ((with_reducible show wpList _ _ _ _ _ _); refine armL (.tmp 3) 65 rfl rfl rfl HLR.out ?_)
      | ((with_reducible show wpList _ _ _ _ _ _); refine armL (.tmp 4) 61 rfl rfl rfl HLY.out ?_)
    refine (HOF.out _).mono ?_
    rintro e w2 ⟨rfl, hB2⟩
    obtain ⟨wE, hst, bE, hon⟩ := box_store Tryz.sizeOf24 (blk_on hbz hB2) rfl zero16V rfl (by decide)
    have HLV : Hid _ := agg_loadVar (t := 24) Tryz.isAgg24 Tryz.sizeOf24 rfl (CellsAt.of_blk bE)
    have HST : Hid _ := hst
    have HBE : Hid (Below w.heap.size w wE) := (hBw.trans (hB2.mono hBw.size)).trans (hon.below (by omega))
    clear hst bE hon
    go_wp2_with first
      | ((with_reducible show wpList _ _ _ _ _ _); refine armS (.tmp 6) (.tmp 19) 24 rfl rfl rfl rfl HST.out ?_)
      | ((with_reducible show wpList _ _ _ _ _ _); refine armV (Op.build 24 #[]) rfl rfl (v := .agg zero16V.toArray) (by kernel_rfl) ?_)
    refine bodyPost_ret (res2c Tryz.results54 rfl HLV.out) rfl ?_
    rw [← HQ.out]
    exact ⟨rfl, HBE.out⟩


end Go.Proofs.YtaebknkjhhcneaaGreatDoor

namespace Go.Proofs.YtaebknkjhhcneaaGreatDoor
open Go Go.RowKit Go.ChangeShapes Go.WideShapes Go.ChangeAt
set_option linter.unusedVariables false
set_option linter.unusedSimpArgs false

theorem ex_minI {o : Oper} {a : Act} {W : World} (i j : Nat) {x y m : Int} (hop : o.op = Op.call { callee := Callee.builtin Builtin.min, args := #[.tmp i, .tmp j], argTypes := #[3, 3] }) (hi : a.eval (.tmp i) = .int .i64 x) (hj : a.eval (.tmp j) = .int .i64 y) (hm : m = min x y) :
    (execOp a.eval o).run Tryz.prog W = .ok (.value (.int .i64 m)) W := by
  subst hm
  generalize a.eval = ev at *
  by_cases h : x ≤ y
  · rw [Int.min_eq_left h]
    simp [execOp, hop, resolve, invoke, builtin, hi, hj, Builtin.min_, Builtin.min2, go_sem, Result.andThen]
    try omega
  · rw [Int.min_eq_right (by omega)]
    simp [execOp, hop, resolve, invoke, builtin, hi, hj, Builtin.min_, Builtin.min2, go_sem, Result.andThen]
    try omega
/-- One bit more, as the document takes it. -/
structure Step (zs : List Int) (p k : Nat) where
  ok : True
theorem bit_or (zs : List Int) (s k : Nat) (hk : k < 64) : bits .or .u64 ((accN zs s k : Nat) * 2 : Int) ((bitN zs (s + k) : Nat) : Int) = ((accN zs s (k + 1) : Nat) : Int) := by
  have h := Fld.shl_or (accN zs s k) k (bitN zs (s + k)) (accN_lt zs s k) hk (bitN_lt zs _)
  rw [h]
  rfl
theorem bit_b {zs : List Int} (hf : FitB zs) (p : Nat) : bits .and .u8 ((zs[p / 8]?.getD 0) / 2 ^ (7 - p % 8)) 1 = ((bitN zs p : Nat) : Int) := by
  have hz := fit_at hf (p / 8)
  exact Fld.bit_u8 _ _ hz.1 hz.2


end Go.Proofs.YtaebknkjhhcneaaGreatDoor

namespace Go.Proofs.YtaebknkjhhcneaaGreatDoor
open Go Go.RowKit Go.ChangeShapes Go.WideShapes Go.ChangeAt
set_option linter.unusedVariables false
set_option linter.unusedSimpArgs false


set_option maxHeartbeats 8000000 in
set_option maxRecDepth 100000 in
theorem ROf_r (r : Ru) (hr : r.In) (y : List Int) (yf : FitB y) (yl : y.length = 4) (n : Nat) (hnp : n < 65536) (w : World) :
    Calls Tryz.prog 24 #[RV r, A4L y, .int .u16 n] w fun e w' => e = .returned (UE ((ofV r y n).1 : Nat) (ofV r y n).2) ∧ Below w.heap.size w w' := by
  obtain ⟨hb, hb2, hBw⟩ := two_box' w (RO r) (YO y)
  have HC : Hid _ := fun W => RCheck_r r hr W
  have HLR : Hid _ := (RuAt.of hr hb).ldR
  generalize hW : (w.alloc (RO r)).alloc (YO y) = W at *
  by_cases h0 : ckE r = 0
  · have hok := Ru.ok_of hr h0
    have hm := hok.mid
    obtain ⟨a, b, d, h, q, o, hn⟩ := hok.nums
    have hroom := hn.room
    have hlen := hn.len
    have hpsid := hn.psid
    have hoff := hn.off
    rw [h0] at HC
    have HH4 : Hid (∀ W, Calls Tryz.prog 51 #[P4L r.l4 r.n4, A4L y] W fun e w' => e = .returned (.tuple #[.bool (hasL r.l4 r.n4 y), .int .i64 0]) ∧ Below W.heap.size W w') := fun W => by
      have := RHas4_L r.l4 r.n4 y W hr.f4 hr.k4 hr.b4 yf yl
      rw [hok.p4, Bool.true_and] at this
      exact this
    rw [of_nums hn h0]
    cases c4 : hasL r.l4 r.n4 y
    · rw [if_neg (by decide)]
      rw [c4] at HH4
      clear h0 c4 hn hok hm
      go_enter Tryz.func24, Tryz.ntmps24
      go_wp2_with first
        | ((with_reducible show wpList _ _ _ _ _ _); refine armL (.tmp 3) 65 rfl rfl rfl HLR.out ?_)
      refine (HC.out _).mono ?_
      rintro e w2 ⟨rfl, hB2⟩
      have HL4 : Hid _ := (RuAt.of hr (blk_on hb hB2)).ld4
      have HLY : Hid _ := load_y yl (blk_on hb2 hB2)
      go_wp2_with first
        | ((with_reducible show wpList _ _ _ _ _ _); refine armL (.tmp 25) 63 rfl rfl rfl HL4.out ?_)
        | ((with_reducible show wpList _ _ _ _ _ _); refine armL (.tmp 4) 61 rfl rfl rfl HLY.out ?_)
      refine (HH4.out _).mono ?_
      rintro e w3 ⟨rfl, hB3⟩
      have hB23 := hB2.trans (hB3.mono hB2.size)
      go_wp2
      go_returns
      exact ⟨rfl, hBw.trans (hB23.mono hBw.size)⟩
    · rw [if_pos rfl]
      rw [c4] at HH4
      have HNN : Hid (r.n4 = d ∧ r.off = o ∧ r.ea = b) := ⟨hn.e4, hn.eo, hn.eb⟩
      have HSF : Hid (∀ W, Calls Tryz.prog 57 #[RV r] W fun e w' => e = .returned (.int .i64 (32 - (d : Int))) ∧ Below W.heap.size W w') := fun W => by have := suffix_any r hr hm.n4 W; rw [hn.e4] at this; exact this
      have HMIN : Hid ((h : Int) = min (b : Int) (32 - (d : Int))) := by
        have e : hB r = min r.ea (32 - r.n4) := rfl
        rw [hn.eh, hn.eb, hn.e4] at e
        exact e
      have HSH : Hid (∀ W, Calls Tryz.prog 56 #[RV r] W fun e w' => e = .returned (.tuple #[.int .i64 (q : Nat), .bool (decide (0 < q))]) ∧ Below W.heap.size W w') := fun W => by
        have := Shared_any r hr hm W
        rw [hn.eq] at this
        have e : decide ((0 : Int) < (q : Int)) = decide (0 < q) := by rw [decide_eq_decide]; omega
        rw [e] at this
        exact this
      have HPO : Hid _ := fun W => ROf_yes o q n W hoff hpsid hnp
      have hb48 : b ≤ 48 := by have := hok.ea; have := hn.eb; omega
      have HSUM : Hid _ := hn.sum
      by_cases hq : 0 < q
      · have hq1 : decide (0 < q) = true := decide_eq_true hq
        rw [if_pos hq]
        rw [hq1] at HSH
        have hpl := pid_lt o q n
        have hpl16 : pidN o q n < 65536 := Nat.lt_of_lt_of_le hpl (pow16 (by omega))
        have HML : Hid ((accN y d h : Int) * 2 ^ q = ((accN y d h * 2 ^ q : Nat) : Int)) := by show (accN y d h : Int) * 2 ^ q = _; rw [Int.natCast_mul, Int.natCast_pow]; rfl
        have HB48 : Hid (accN y d h * 2 ^ q < 2 ^ 48) := by
          have h1 : accN y d h * 2 ^ q < 2 ^ h * 2 ^ q := Nat.mul_lt_mul_of_pos_right (accN_lt y d h) (Nat.two_pow_pos q)
          rw [← Nat.pow_add, ← HSUM.out] at h1
          have h2 : 2 ^ b ≤ 2 ^ 48 := Nat.pow_le_pow_right (by decide) hb48
          exact Nat.lt_of_lt_of_le h1 h2
        have HOR : Hid (bits .or .u64 ((accN y d h * 2 ^ q : Nat) : Int) ((pidN o q n : Nat) : Int) = ((accN y d h * 2 ^ q + pidN o q n : Nat) : Int)) := by
          have h16 := pow16 (l := q) (by omega)
          have hb4 := HB48.out
          have hx := u64_or_nat (accN y d h * 2 ^ q) (pidN o q n) (by omega) (by omega)
          have e : (accN y d h * 2 ^ q ||| pidN o q n) = accN y d h * 2 ^ q + pidN o q n := by
            have := Nat.two_pow_add_eq_or_of_lt (i := q) (b := pidN o q n) hpl (accN y d h)
            rw [Nat.mul_comm]
            exact this.symm
          show bits .or .u64 _ _ = _
          rw [hx, e]
        have k1 := pow_le16 (l := q) (by omega)
        have k2 := pow_ge1 q
        by_cases hi : isOnes o n
        · rw [if_pos hi]
          have hO : ofE o q n = OfE (pidN o q n) true 0 := if_pos hi
          rw [hO] at HPO
          clear h0 c4 hn hok hm hO hi hq1 hpl HSUM hq
          go_enter Tryz.func24, Tryz.ntmps24
          go_wp2_with first
            | ((with_reducible show wpList _ _ _ _ _ _); refine armL (.tmp 3) 65 rfl rfl rfl HLR.out ?_)
          refine (HC.out _).mono ?_
          rintro e w2 ⟨rfl, hB2⟩
          have HL4 : Hid _ := (RuAt.of hr (blk_on hb hB2)).ld4
          have HLY : Hid _ := load_y yl (blk_on hb2 hB2)
          go_wp2_with first
            | ((with_reducible show wpList _ _ _ _ _ _); refine armL (.tmp 25) 63 rfl rfl rfl HL4.out ?_)
            | ((with_reducible show wpList _ _ _ _ _ _); refine armL (.tmp 4) 61 rfl rfl rfl HLY.out ?_)
          refine (HH4.out _).mono ?_
          rintro e w3 ⟨rfl, hB3⟩
          have hB23 := hB2.trans (hB3.mono hB2.size)
          have HL3 : Hid _ := (RuAt.of hr (blk_on hb hB23)).ldR
          go_wp2_with first
            | ((with_reducible show wpList _ _ _ _ _ _); refine armL (.tmp 3) 65 rfl rfl rfl HL3.out ?_)
          refine (HSH.out _).mono ?_
          rintro e w4 ⟨rfl, hB4⟩
          have hB24 := hB23.trans (hB4.mono hB23.size)
          have hS4 : w4.drew.heap[w.heap.size]? = some (RO r) := blk_drew (blk_on hb hB24)
          have hd4 : Below W.heap.size W w4.drew := hB24.drew
          go_wp2_with fail
          refine wp_region_held (S := fun W => W.heap[w.heap.size]? = some (RO r)) (by kernel_rfl) ?_
          show wpAnyH _ _ _ _ _ 6 (Array.replicate 6 false) _ w4.drew
          refine take_one (i := 0) (d := some 38) (v := .pointer (some ⟨w.heap.size, 22, none⟩)) rfl rfl rfl (by kernel_rfl) (by kernel_rfl) (by kernel_rfl) (fun _ _ d _ _ h => by cases d <;> exact h) (fun W hS => by kernel_rfl) hS4 ?_
          simp only [Act.put, List.setIfInBounds_toArray, List.set_cons_zero, List.set_cons_succ]
          refine take_one (i := 1) (d := some 39) (v := .int .i64 (b : Nat)) rfl rfl rfl (by kernel_rfl) (by kernel_rfl) (by kernel_rfl) (fun _ _ d _ _ h => by cases d <;> exact h) (fun W hS => ex_loadC 38 rfl rfl (by rw [← HNN.out.2.2]; exact (RuAt.of hr hS).c22)) hS4 ?_
          simp only [Act.put, List.setIfInBounds_toArray, List.set_cons_zero, List.set_cons_succ]
          refine take_one (i := 2) (d := some 40) (v := RV r) rfl rfl rfl (by kernel_rfl) (by kernel_rfl) (by kernel_rfl) (fun _ _ d _ _ h => by cases d <;> exact h) (fun W hS => ex_loadA (.tmp 3) 65 rfl rfl (RuAt.of hr hS).ldR) hS4 ?_
          simp only [Act.put, List.setIfInBounds_toArray, List.set_cons_zero, List.set_cons_succ]
          refine all_one (i := 3) (by kernel_rfl) rfl rfl ?_
          refine wp_call (d := some 41) 57 _ rfl (by kernel_rfl) (callR (HSF.out _)) ?_
          rintro _ w5 ⟨rfl, hB5⟩
          have hB25 := hd4.trans (hB5.mono hd4.size)
          have hS5 := blk_on hb hB25
          refine ⟨hS5, ?_⟩
          simp only [Act.put, List.setIfInBounds_toArray, List.set_cons_zero, List.set_cons_succ]
          refine all_one (i := 4) (by kernel_rfl) rfl rfl ?_
          refine wp_effX (d := some 42) (v := .int .i64 (h : Nat)) rfl (ex_minI 39 41 rfl rfl rfl HMIN.out) ⟨hS5, ?_⟩
          simp only [Act.put, List.setIfInBounds_toArray, List.set_cons_zero, List.set_cons_succ]
          refine all_one (i := 5) (by kernel_rfl) rfl rfl ?_
          refine wp_effX (d := some 13) (v := .int .i64 (h : Nat)) rfl (by kernel_rfl) ⟨hS5, ?_⟩
          simp only [Act.put, List.setIfInBounds_toArray, List.set_cons_zero, List.set_cons_succ]
          refine wpAnyH_done (by kernel_rfl) ?_ _
          have c21 := (RuAt.of hr hS5).c21
          rw [HNN.out.1] at c21
          have c23 := (RuAt.of hr hS5).c23
          rw [HNN.out.2.1] at c23
          have HCZ : Hid (∀ j, j < 4 → w5.cell? ⟨w.heap.size + 1, j, none⟩ = some (.int .u8 (y[j]?.getD 0))) := fun j hj => blk_b8 (blk_on hb2 hB25) (by omega)
          have HBB : Hid _ := hBw.trans (hB25.mono hBw.size)
          clear hb hb2 hB2 hB3 hB23 hB4 hB24 hd4 hB5 hB25 hS4 hS5 hBw HNN hr HC HH4 HL4 HLY HLR HL3 HSH HSF HMIN
          go_wp2
          go_loopw [14, 15] (fun xx i wr => ∃ k : Nat, k ≤ h ∧ i = .int .i64 ((d + k : Nat) : Int) ∧ xx = .int .u64 (accN y d k) ∧ wr = w5) (fun _ i _ => (d + h) - (intOf i).toNat)
          case atStart => exact ⟨0, by omega, by simp, rfl, rfl⟩
          case round =>
            obtain ⟨k, hk, rfl, rfl, hwr⟩ := hrel
            subst hwr
            by_cases hlt : k < h
            · obtain ⟨p, hp⟩ : ∃ p : Nat, p = d + k := ⟨_, rfl⟩
              have hor := bit_or y d k (by omega)
              have hbb := bit_b yf p
              rw [← hp] at hor
              have hal := accN_lt y d k
              have hal2 : accN y d k < 2 ^ 62 := Nat.lt_of_lt_of_le hal (Nat.pow_le_pow_right (by decide) (by omega))
              have hbl := bitN_lt y p
              have hz := fit_at yf (p / 8)
              have hcc := HCZ.out (p / 8) (by omega)
              have h8 := tdiv8 p
              have h9 := tmod8 p
              have h10 : (7 : Int) - ((p % 8 : Nat) : Int) = ((7 - p % 8 : Nat) : Int) := by omega
              have hp8 : p / 8 < 4 := by omega
              have h7 : 7 - p % 8 ≤ 7 := by omega
              generalize hy : accN y d (k + 1) = yy at *
              generalize accN y d k = xx at *
              generalize bitN y p = bb at *
              generalize y[p / 8]?.getD 0 = z at *
              generalize 7 - p % 8 = sh at *
              generalize p / 8 = c at *
              generalize p % 8 = c2 at *
              have HY : Hid _ := hy
              have HP : Hid _ := hp
              have hlt2 : (p : Int) < (d : Int) + (h : Int) := by omega
              rw [← hp]
              clear hy hp hal
              go_wp2
              refine ⟨⟨k + 1, by omega, by have := HP.out; simp; omega, by rw [HY.out], trivial⟩, by have := HP.out; simp [intOf]; omega⟩
            · obtain rfl : k = h := by omega
              have hmul := HML.out
              have hb4 := HB48.out
              have hor := HOR.out
              obtain ⟨res, hres⟩ : ∃ res, accN y d k * 2 ^ q + pidN o q n = res := ⟨_, rfl⟩
              rw [hres] at hor
              have HRES : Hid (accN y d k * 2 ^ q + pidN o q n = res) := hres
              clear hres HML HB48 HOR
              generalize accN y d k * 2 ^ q = ml at hmul hb4 hor
              generalize accN y d k = ac at hmul ⊢
              generalize pidN o q n = pp at hor HPO hpl16
              go_wp2_with fail
              refine (HPO.out _).mono ?_
              rintro e w6 ⟨rfl, hB6⟩
              go_wp2
              go_returns
              exact ⟨by rw [HRES.out]; rfl, HBB.out.trans (hB6.mono HBB.out.size)⟩
        · rw [if_neg hi]
          have hO : ofE o q n = OfE 0 false 0 := if_neg hi
          rw [hO] at HPO
          clear h0 c4 hn hok hm hO hi hq1 hpl HSUM hq HML HB48 HOR hpl16
          go_enter Tryz.func24, Tryz.ntmps24
          go_wp2_with first
            | ((with_reducible show wpList _ _ _ _ _ _); refine armL (.tmp 3) 65 rfl rfl rfl HLR.out ?_)
          refine (HC.out _).mono ?_
          rintro e w2 ⟨rfl, hB2⟩
          have HL4 : Hid _ := (RuAt.of hr (blk_on hb hB2)).ld4
          have HLY : Hid _ := load_y yl (blk_on hb2 hB2)
          go_wp2_with first
            | ((with_reducible show wpList _ _ _ _ _ _); refine armL (.tmp 25) 63 rfl rfl rfl HL4.out ?_)
            | ((with_reducible show wpList _ _ _ _ _ _); refine armL (.tmp 4) 61 rfl rfl rfl HLY.out ?_)
          refine (HH4.out _).mono ?_
          rintro e w3 ⟨rfl, hB3⟩
          have hB23 := hB2.trans (hB3.mono hB2.size)
          have HL3 : Hid _ := (RuAt.of hr (blk_on hb hB23)).ldR
          go_wp2_with first
            | ((with_reducible show wpList _ _ _ _ _ _); refine armL (.tmp 3) 65 rfl rfl rfl HL3.out ?_)
          refine (HSH.out _).mono ?_
          rintro e w4 ⟨rfl, hB4⟩
          have hB24 := hB23.trans (hB4.mono hB23.size)
          have hS4 : w4.drew.heap[w.heap.size]? = some (RO r) := blk_drew (blk_on hb hB24)
          have hd4 : Below W.heap.size W w4.drew := hB24.drew
          go_wp2_with fail
          refine wp_region_held (S := fun W => W.heap[w.heap.size]? = some (RO r)) (by kernel_rfl) ?_
          show wpAnyH _ _ _ _ _ 6 (Array.replicate 6 false) _ w4.drew
          refine take_one (i := 0) (d := some 38) (v := .pointer (some ⟨w.heap.size, 22, none⟩)) rfl rfl rfl (by kernel_rfl) (by kernel_rfl) (by kernel_rfl) (fun _ _ d _ _ h => by cases d <;> exact h) (fun W hS => by kernel_rfl) hS4 ?_
          simp only [Act.put, List.setIfInBounds_toArray, List.set_cons_zero, List.set_cons_succ]
          refine take_one (i := 1) (d := some 39) (v := .int .i64 (b : Nat)) rfl rfl rfl (by kernel_rfl) (by kernel_rfl) (by kernel_rfl) (fun _ _ d _ _ h => by cases d <;> exact h) (fun W hS => ex_loadC 38 rfl rfl (by rw [← HNN.out.2.2]; exact (RuAt.of hr hS).c22)) hS4 ?_
          simp only [Act.put, List.setIfInBounds_toArray, List.set_cons_zero, List.set_cons_succ]
          refine take_one (i := 2) (d := some 40) (v := RV r) rfl rfl rfl (by kernel_rfl) (by kernel_rfl) (by kernel_rfl) (fun _ _ d _ _ h => by cases d <;> exact h) (fun W hS => ex_loadA (.tmp 3) 65 rfl rfl (RuAt.of hr hS).ldR) hS4 ?_
          simp only [Act.put, List.setIfInBounds_toArray, List.set_cons_zero, List.set_cons_succ]
          refine all_one (i := 3) (by kernel_rfl) rfl rfl ?_
          refine wp_call (d := some 41) 57 _ rfl (by kernel_rfl) (callR (HSF.out _)) ?_
          rintro _ w5 ⟨rfl, hB5⟩
          have hB25 := hd4.trans (hB5.mono hd4.size)
          have hS5 := blk_on hb hB25
          refine ⟨hS5, ?_⟩
          simp only [Act.put, List.setIfInBounds_toArray, List.set_cons_zero, List.set_cons_succ]
          refine all_one (i := 4) (by kernel_rfl) rfl rfl ?_
          refine wp_effX (d := some 42) (v := .int .i64 (h : Nat)) rfl (ex_minI 39 41 rfl rfl rfl HMIN.out) ⟨hS5, ?_⟩
          simp only [Act.put, List.setIfInBounds_toArray, List.set_cons_zero, List.set_cons_succ]
          refine all_one (i := 5) (by kernel_rfl) rfl rfl ?_
          refine wp_effX (d := some 13) (v := .int .i64 (h : Nat)) rfl (by kernel_rfl) ⟨hS5, ?_⟩
          simp only [Act.put, List.setIfInBounds_toArray, List.set_cons_zero, List.set_cons_succ]
          refine wpAnyH_done (by kernel_rfl) ?_ _
          have c21 := (RuAt.of hr hS5).c21
          rw [HNN.out.1] at c21
          have c23 := (RuAt.of hr hS5).c23
          rw [HNN.out.2.1] at c23
          have HCZ : Hid (∀ j, j < 4 → w5.cell? ⟨w.heap.size + 1, j, none⟩ = some (.int .u8 (y[j]?.getD 0))) := fun j hj => blk_b8 (blk_on hb2 hB25) (by omega)
          have HBB : Hid _ := hBw.trans (hB25.mono hBw.size)
          clear hb hb2 hB2 hB3 hB23 hB4 hB24 hd4 hB5 hB25 hS4 hS5 hBw HNN hr HC HH4 HL4 HLY HLR HL3 HSH HSF HMIN
          go_wp2
          go_loopw [14, 15] (fun xx i wr => ∃ k : Nat, k ≤ h ∧ i = .int .i64 ((d + k : Nat) : Int) ∧ xx = .int .u64 (accN y d k) ∧ wr = w5) (fun _ i _ => (d + h) - (intOf i).toNat)
          case atStart => exact ⟨0, by omega, by simp, rfl, rfl⟩
          case round =>
            obtain ⟨k, hk, rfl, rfl, hwr⟩ := hrel
            subst hwr
            by_cases hlt : k < h
            · obtain ⟨p, hp⟩ : ∃ p : Nat, p = d + k := ⟨_, rfl⟩
              have hor := bit_or y d k (by omega)
              have hbb := bit_b yf p
              rw [← hp] at hor
              have hal := accN_lt y d k
              have hal2 : accN y d k < 2 ^ 62 := Nat.lt_of_lt_of_le hal (Nat.pow_le_pow_right (by decide) (by omega))
              have hbl := bitN_lt y p
              have hz := fit_at yf (p / 8)
              have hcc := HCZ.out (p / 8) (by omega)
              have h8 := tdiv8 p
              have h9 := tmod8 p
              have h10 : (7 : Int) - ((p % 8 : Nat) : Int) = ((7 - p % 8 : Nat) : Int) := by omega
              have hp8 : p / 8 < 4 := by omega
              have h7 : 7 - p % 8 ≤ 7 := by omega
              generalize hy : accN y d (k + 1) = yy at *
              generalize accN y d k = xx at *
              generalize bitN y p = bb at *
              generalize y[p / 8]?.getD 0 = z at *
              generalize 7 - p % 8 = sh at *
              generalize p / 8 = c at *
              generalize p % 8 = c2 at *
              have HY : Hid _ := hy
              have HP : Hid _ := hp
              have hlt2 : (p : Int) < (d : Int) + (h : Int) := by omega
              rw [← hp]
              clear hy hp hal
              go_wp2
              refine ⟨⟨k + 1, by omega, by have := HP.out; simp; omega, by rw [HY.out], trivial⟩, by have := HP.out; simp [intOf]; omega⟩
            · obtain rfl : k = h := by omega
              generalize accN y d k = ac at *
              go_wp2_with fail
              refine (HPO.out _).mono ?_
              rintro e w6 ⟨rfl, hB6⟩
              go_wp2
              go_returns
              exact ⟨rfl, HBB.out.trans (hB6.mono HBB.out.size)⟩
      · have hq1 : decide (0 < q) = false := decide_eq_false hq
        rw [if_neg hq]
        rw [hq1] at HSH
        clear h0 c4 hn hok hm hq1 HSUM hq HPO
        go_enter Tryz.func24, Tryz.ntmps24
        go_wp2_with first
          | ((with_reducible show wpList _ _ _ _ _ _); refine armL (.tmp 3) 65 rfl rfl rfl HLR.out ?_)
        refine (HC.out _).mono ?_
        rintro e w2 ⟨rfl, hB2⟩
        have HL4 : Hid _ := (RuAt.of hr (blk_on hb hB2)).ld4
        have HLY : Hid _ := load_y yl (blk_on hb2 hB2)
        go_wp2_with first
          | ((with_reducible show wpList _ _ _ _ _ _); refine armL (.tmp 25) 63 rfl rfl rfl HL4.out ?_)
          | ((with_reducible show wpList _ _ _ _ _ _); refine armL (.tmp 4) 61 rfl rfl rfl HLY.out ?_)
        refine (HH4.out _).mono ?_
        rintro e w3 ⟨rfl, hB3⟩
        have hB23 := hB2.trans (hB3.mono hB2.size)
        have HL3 : Hid _ := (RuAt.of hr (blk_on hb hB23)).ldR
        go_wp2_with first
          | ((with_reducible show wpList _ _ _ _ _ _); refine armL (.tmp 3) 65 rfl rfl rfl HL3.out ?_)
        refine (HSH.out _).mono ?_
        rintro e w4 ⟨rfl, hB4⟩
        have hB24 := hB23.trans (hB4.mono hB23.size)
        have hS4 : w4.drew.heap[w.heap.size]? = some (RO r) := blk_drew (blk_on hb hB24)
        have hd4 : Below W.heap.size W w4.drew := hB24.drew
        go_wp2_with fail
        refine wp_region_held (S := fun W => W.heap[w.heap.size]? = some (RO r)) (by kernel_rfl) ?_
        show wpAnyH _ _ _ _ _ 6 (Array.replicate 6 false) _ w4.drew
        refine take_one (i := 0) (d := some 38) (v := .pointer (some ⟨w.heap.size, 22, none⟩)) rfl rfl rfl (by kernel_rfl) (by kernel_rfl) (by kernel_rfl) (fun _ _ d _ _ h => by cases d <;> exact h) (fun W hS => by kernel_rfl) hS4 ?_
        simp only [Act.put, List.setIfInBounds_toArray, List.set_cons_zero, List.set_cons_succ]
        refine take_one (i := 1) (d := some 39) (v := .int .i64 (b : Nat)) rfl rfl rfl (by kernel_rfl) (by kernel_rfl) (by kernel_rfl) (fun _ _ d _ _ h => by cases d <;> exact h) (fun W hS => ex_loadC 38 rfl rfl (by rw [← HNN.out.2.2]; exact (RuAt.of hr hS).c22)) hS4 ?_
        simp only [Act.put, List.setIfInBounds_toArray, List.set_cons_zero, List.set_cons_succ]
        refine take_one (i := 2) (d := some 40) (v := RV r) rfl rfl rfl (by kernel_rfl) (by kernel_rfl) (by kernel_rfl) (fun _ _ d _ _ h => by cases d <;> exact h) (fun W hS => ex_loadA (.tmp 3) 65 rfl rfl (RuAt.of hr hS).ldR) hS4 ?_
        simp only [Act.put, List.setIfInBounds_toArray, List.set_cons_zero, List.set_cons_succ]
        refine all_one (i := 3) (by kernel_rfl) rfl rfl ?_
        refine wp_call (d := some 41) 57 _ rfl (by kernel_rfl) (callR (HSF.out _)) ?_
        rintro _ w5 ⟨rfl, hB5⟩
        have hB25 := hd4.trans (hB5.mono hd4.size)
        have hS5 := blk_on hb hB25
        refine ⟨hS5, ?_⟩
        simp only [Act.put, List.setIfInBounds_toArray, List.set_cons_zero, List.set_cons_succ]
        refine all_one (i := 4) (by kernel_rfl) rfl rfl ?_
        refine wp_effX (d := some 42) (v := .int .i64 (h : Nat)) rfl (ex_minI 39 41 rfl rfl rfl HMIN.out) ⟨hS5, ?_⟩
        simp only [Act.put, List.setIfInBounds_toArray, List.set_cons_zero, List.set_cons_succ]
        refine all_one (i := 5) (by kernel_rfl) rfl rfl ?_
        refine wp_effX (d := some 13) (v := .int .i64 (h : Nat)) rfl (by kernel_rfl) ⟨hS5, ?_⟩
        simp only [Act.put, List.setIfInBounds_toArray, List.set_cons_zero, List.set_cons_succ]
        refine wpAnyH_done (by kernel_rfl) ?_ _
        have c21 := (RuAt.of hr hS5).c21
        rw [HNN.out.1] at c21
        have c23 := (RuAt.of hr hS5).c23
        rw [HNN.out.2.1] at c23
        have HCZ : Hid (∀ j, j < 4 → w5.cell? ⟨w.heap.size + 1, j, none⟩ = some (.int .u8 (y[j]?.getD 0))) := fun j hj => blk_b8 (blk_on hb2 hB25) (by omega)
        have HBB : Hid _ := hBw.trans (hB25.mono hBw.size)
        clear hb hb2 hB2 hB3 hB23 hB4 hB24 hd4 hB5 hB25 hS4 hS5 hBw HNN hr HC HH4 HL4 HLY HLR HL3 HSH HSF HMIN
        go_wp2
        go_loopw [14, 15] (fun xx i wr => ∃ k : Nat, k ≤ h ∧ i = .int .i64 ((d + k : Nat) : Int) ∧ xx = .int .u64 (accN y d k) ∧ wr = w5) (fun _ i _ => (d + h) - (intOf i).toNat)
        case atStart => exact ⟨0, by omega, by simp, rfl, rfl⟩
        case round =>
          obtain ⟨k, hk, rfl, rfl, hwr⟩ := hrel
          subst hwr
          by_cases hlt : k < h
          · obtain ⟨p, hp⟩ : ∃ p : Nat, p = d + k := ⟨_, rfl⟩
            have hor := bit_or y d k (by omega)
            have hbb := bit_b yf p
            rw [← hp] at hor
            have hal := accN_lt y d k
            have hal2 : accN y d k < 2 ^ 62 := Nat.lt_of_lt_of_le hal (Nat.pow_le_pow_right (by decide) (by omega))
            have hbl := bitN_lt y p
            have hz := fit_at yf (p / 8)
            have hcc := HCZ.out (p / 8) (by omega)
            have h8 := tdiv8 p
            have h9 := tmod8 p
            have h10 : (7 : Int) - ((p % 8 : Nat) : Int) = ((7 - p % 8 : Nat) : Int) := by omega
            have hp8 : p / 8 < 4 := by omega
            have h7 : 7 - p % 8 ≤ 7 := by omega
            generalize hy : accN y d (k + 1) = yy at *
            generalize accN y d k = xx at *
            generalize bitN y p = bb at *
            generalize y[p / 8]?.getD 0 = z at *
            generalize 7 - p % 8 = sh at *
            generalize p / 8 = c at *
            generalize p % 8 = c2 at *
            have HY : Hid _ := hy
            have HP : Hid _ := hp
            have hlt2 : (p : Int) < (d : Int) + (h : Int) := by omega
            rw [← hp]
            clear hy hp hal
            go_wp2
            refine ⟨⟨k + 1, by omega, by have := HP.out; simp; omega, by rw [HY.out], trivial⟩, by have := HP.out; simp [intOf]; omega⟩
          · obtain rfl : k = h := by omega
            generalize hacc : accN y d k = ac at *
            have HACC : Hid _ := hacc
            clear hacc
            go_wp2
            go_returns
            exact ⟨by rw [HACC.out]; rfl, HBB.out⟩
  · have hE : ofV r y n = (0, ckE r) := by unfold ofV; rw [if_neg h0]
    rw [hE]
    have q0 : (ckE r != 0) = true := by simpa using h0
    clear hE h0
    generalize ckE r = ce at *
    go_enter Tryz.func24, Tryz.ntmps24
    go_wp2_with first
      | ((with_reducible show wpList _ _ _ _ _ _); refine armL (.tmp 3) 65 rfl rfl rfl HLR.out ?_)
    refine (HC.out _).mono ?_
    rintro e w2 ⟨rfl, hB2⟩
    go_wp2
    go_returns
    exact ⟨rfl, hBw.trans (hB2.mono hBw.size)⟩

end Go.Proofs.YtaebknkjhhcneaaGreatDoor
