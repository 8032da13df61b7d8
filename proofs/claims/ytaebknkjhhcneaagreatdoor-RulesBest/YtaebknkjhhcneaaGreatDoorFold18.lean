/-
  Operations of regions that draw, by hand.
  Edges of rules that may be, plainly: what each part is, bit by bit; what is found by it; what it owns.
-/
import Derived.Test.YtaebknkjhhcneaaGreatDoorMa1
namespace Go.Proofs.YtaebknkjhhcneaaGreatDoor
open Go Go.RowKit
set_option linter.unusedVariables false
set_option linter.unusedSimpArgs false

theorem ex_loadC {o : Oper} {a : Act} {W : World} (k : Nat) {p : Addr} {x : Int} (hop : o.op = Op.load 3 (.tmp k)) (hk : a.eval (.tmp k) = .pointer (some p)) (hc : W.cell? p = some (.int .i64 x)) :
    (execOp a.eval o).run Tryz.prog W = .ok (.value (.int .i64 x)) W := by
  generalize a.eval = ev at *
  simp [execOp, hop, hk, go_sem, hc]
theorem ex_load16C {o : Oper} {a : Act} {W : World} (k : Nat) {p : Addr} {x : Int} (hop : o.op = Op.load 49 (.tmp k)) (hk : a.eval (.tmp k) = .pointer (some p)) (hc : W.cell? p = some (.int .u16 x)) :
    (execOp a.eval o).run Tryz.prog W = .ok (.value (.int .u16 x)) W := by
  generalize a.eval = ev at *
  simp [execOp, hop, hk, go_sem, hc]
theorem ex_addC {o : Oper} {a : Act} {W : World} (p q : Operand) {t : TypeId} (hop : o.op = Op.binOp .add 3 p q t) {x y : Int} (hp : a.eval p = .int .i64 x) (hq : a.eval q = .int .i64 y) (hb : -9223372036854775808 ≤ x + y ∧ x + y ≤ 9223372036854775807) : (execOp a.eval o).run Tryz.prog W = .ok (.value (.int .i64 (x + y))) W := by
  have e := wrap_i64 (x + y) hb
  generalize a.eval = ev at *
  simp [execOp, hop, hp, hq, go_sem, e]
theorem ex_cvU {o : Oper} {a : Act} {W : World} (k : Nat) {x : Int} (hop : o.op = Op.convert 49 58 (.tmp k)) (hk : a.eval (.tmp k) = .int .u16 x) (hx : 0 ≤ x ∧ x < 65536) :
    (execOp a.eval o).run Tryz.prog W = .ok (.value (.int .u64 x)) W := by
  have e : IntKind.u64.wrap x = x := by unfold IntKind.wrap; simp [IntKind.signed, IntKind.bits]; omega
  generalize a.eval = ev at *
  simp [execOp, hop, hk, go_sem, e]
theorem region_mid {P : Program} {id : Nat} {ops : Array Oper} {Q : Exit → Act → World → Prop} {a : Act} {w : World} (M : Act → Act → World → Prop) (h : (Code.region id ops true).wp P (fun e a' w' => match e with | .normal => M a a' w' | _ => False) a w) (hM : ∀ a' w', M a a' w' → Q .normal a' w') : (Code.region id ops true).wp P Q a w :=
  wp_mono h (fun e a' w' hm => by cases e <;> first | exact hM a' w' hm | exact hm.elim)
theorem all_three {P : Program} {ops : Array Oper} {Q : Exit → Act → World → Prop} {md : Region.Mode} {S : World → Prop} {i1 i2 i3 : Nat} {o1 o2 o3 : Oper} {fuel : Nat} {listed : Array Bool} {a : Act} {w : World} (hr : Region.ready md ops listed = [i1, i2, i3]) (h1 : ops[i1]? = some o1) (g1 : o1.guard = none) (h2 : ops[i2]? = some o2) (g2 : o2.guard = none) (h3 : ops[i3]? = some o3) (g3 : o3.guard = none)
    (k1 : o1.wp P a w (fun a' w' => S w' ∧ wpAnyH P md ops Q S fuel (listed.setIfInBounds i1 true) a' w') Q) (k2 : o2.wp P a w (fun a' w' => S w' ∧ wpAnyH P md ops Q S fuel (listed.setIfInBounds i2 true) a' w') Q) (k3 : o3.wp P a w (fun a' w' => S w' ∧ wpAnyH P md ops Q S fuel (listed.setIfInBounds i3 true) a' w') Q) : wpAnyH P md ops Q S (fuel + 1) listed a w := by
  refine wpAnyH_all (rs := [i1, i2, i3]) hr (by simp) ?_
  intro j hj
  simp at hj
  rcases hj with rfl | rfl | rfl
  · exact wpOp_none h1 g1 k1
  · exact wpOp_none h2 g2 k2
  · exact wpOp_none h3 g3 k3
theorem callR {P : Program} {f : FuncId} {vs : Array Value} {w : World} {v : Value} {B : World → Prop} (h : Calls P f vs w fun e w' => e = .returned v ∧ B w') : Calls P f vs w fun e w' => ∃ v', e = .returned v' ∧ (v' = v ∧ B w') :=
  h.mono fun e w' k => ⟨v, k.1, rfl, k.2⟩
/-- A store into a part of a box. -/
theorem box_part {ty ty' : TypeId} {n : Nat} {w : World} {R o : Nat} {c : List Value} (hs : ∀ w, (Go.sizeOf ty).run Tryz.prog w = .ok n w) (h : w.heap[R]? = some (.cells c.toArray ty')) (V : List Value) (hV : V.length = n) (hl : o + n ≤ c.length) (h1 : ∀ v ∈ V, v.oneCell' = true) :
    ∃ w', (Instr.storeAt ty (.pointer (some ⟨R, o, none⟩)) (.agg V.toArray)).run Tryz.prog w = .ok () w' ∧ w'.heap[R]? = some (.cells (c.take o ++ (V ++ c.drop (o + n))).toArray ty') ∧ Only R w w' := by
  refine ⟨_, agg_store hs hV h1 (fun j hj => ?_) (fun j => blk_open h j), ?_, Only.sets _ _ _ (Only.refl _ _)⟩
  · rw [blk_cell h (j := o + j) (v := c[o + j]'(by omega)) (by simp)]
    rfl
  · rw [blk_sets V o c w h, setsL_eq _ _ _ (by omega), hV, List.append_assoc]

end Go.Proofs.YtaebknkjhhcneaaGreatDoor

namespace Go.Proofs.YtaebknkjhhcneaaGreatDoor
open Go Go.RowKit Fld
set_option linter.unusedVariables false
set_option linter.unusedSimpArgs false

/-- A rule that may be. -/
structure Ru.Ok (r : Ru) : Prop where
  inn : r.In
  p6 : okP6 r.l6 r.n6 = true
  p4 : okP4L r.l4 r.n4 = true
  ea : 0 ≤ r.ea ∧ r.ea ≤ 48
  len : r.n6 + r.ea ≤ 64
  off : 0 ≤ r.off ∧ r.off ≤ 15
  psid : qB r ≤ 16 - r.off
theorem Ru.Ok.mid {r : Ru} (h : r.Ok) : r.Mid := by
  have := h.p4
  unfold okP4L at this
  simp at this
  exact ⟨this.1, h.ea⟩
/-- The rule's numbers. -/
structure Nums (r : Ru) (a b d h q o : Nat) : Prop where
  e6 : r.n6 = a
  eb : r.ea = b
  e4 : r.n4 = d
  eh : hB r = h
  eq : qB r = q
  eo : r.off = o
  sum : b = h + q
  room : d + h ≤ 32
  full : 0 < q → d + h = 32
  len : a + b ≤ 64
  psid : q ≤ 16 - o
  off : o ≤ 15
theorem Ru.Ok.nums {r : Ru} (h : r.Ok) : ∃ a b d g q o : Nat, Nums r a b d g q o := by
  have h6 := h.p6
  unfold okP6 at h6
  simp at h6
  have hm := h.mid
  have h1 := hB_le hm
  have h2 := qB_le hm
  have h3 := hm.n4
  have h4 := h.ea
  have h5 := h.len
  have h7 := h.off
  have h8 := h.psid
  have e1 : qB r = r.ea - hB r := rfl
  have e2 : hB r = min r.ea (32 - r.n4) := rfl
  refine ⟨r.n6.toNat, r.ea.toNat, r.n4.toNat, (hB r).toNat, (qB r).toNat, r.off.toNat, ⟨by omega, by omega, by omega, by omega, by omega, by omega, by omega, by omega, fun _ => by omega, by omega, by omega, by omega⟩⟩
theorem Nums.low6 {r : Ru} {a b d h q o : Nat} (hr : r.Ok) (hn : Nums r a b d h q o) (i : Nat) (hi : i < 128) (ha : a ≤ i) : bitN r.l6 i = 0 := by
  have h6 := hr.p6
  unfold okP6 at h6
  simp at h6
  have e := h6.2
  rw [hn.e6] at e
  rw [e, bitN_blR hr.inn.f6 a i (by rw [hr.inn.k6]; omega), if_neg (by omega)]
theorem Nums.low4 {r : Ru} {a b d h q o : Nat} (hr : r.Ok) (hn : Nums r a b d h q o) (i : Nat) (hi : i < 32) (ha : d ≤ i) : bitN r.l4 i = 0 := by
  have h6 := hr.p4
  unfold okP4L at h6
  simp at h6
  have e := h6.2
  rw [hn.e4] at e
  rw [e, bitN_blR hr.inn.f4 d i (by rw [hr.inn.k4]; omega), if_neg (by omega)]

def endL (r : Ru) (v : Nat) : List Int := writeL r.l6 r.n6.toNat r.ea.toNat v r.ea.toNat
def v4L (r : Ru) (v : Nat) : List Int := writeL r.l4 r.n4.toNat (hB r).toNat (v / 2 ^ (qB r).toNat) (hB r).toNat
def pidV (r : Ru) (v : Nat) : Nat := v % 2 ^ (qB r).toNat
def ownL (r : Ru) (v : Nat) : List Int := writeL (writeL (endL r v) 80 32 (accN (v4L r v) 0 32) 32) 112 16 (pidV r v) 16

section
variable {r : Ru} {a b d h q o v : Nat}
theorem endL_length (hr : r.Ok) : (endL r v).length = 16 := by simp [endL, hr.inn.k6]
theorem endL_fit (hr : r.Ok) : FitB (endL r v) := writeL_fit hr.inn.f6 _ _ _ _
theorem v4L_length (hr : r.Ok) : (v4L r v).length = 4 := by simp [v4L, hr.inn.k4]
theorem v4L_fit (hr : r.Ok) : FitB (v4L r v) := writeL_fit hr.inn.f4 _ _ _ _
theorem ownL_length (hr : r.Ok) : (ownL r v).length = 16 := by simp [ownL, endL_length hr]
theorem ownL_fit (hr : r.Ok) : FitB (ownL r v) := writeL_fit (writeL_fit (endL_fit hr) _ _ _ _) _ _ _ _
theorem bit_end (hr : r.Ok) (hn : Nums r a b d h q o) (i : Nat) : bitN (endL r v) i = if a ≤ i ∧ i < a + b then bk v (b - 1 - (i - a)) else bitN r.l6 i := by
  have := hn.len
  unfold endL
  rw [hn.e6, hn.eb, Int.toNat_natCast, Int.toNat_natCast, bitN_writeL hr.inn.f6 _ _ _ _ _ (by rw [hr.inn.k6]; omega)]
theorem bit_v4 (hr : r.Ok) (hn : Nums r a b d h q o) (i : Nat) : bitN (v4L r v) i = if d ≤ i ∧ i < d + h then bk (v / 2 ^ q) (h - 1 - (i - d)) else bitN r.l4 i := by
  have := hn.room
  unfold v4L
  rw [hn.e4, hn.eh, hn.eq, Int.toNat_natCast, Int.toNat_natCast, Int.toNat_natCast, bitN_writeL hr.inn.f4 _ _ _ _ _ (by rw [hr.inn.k4]; omega)]
theorem bit_own (hr : r.Ok) (hn : Nums r a b d h q o) (i : Nat) (hi : i < 128) : bitN (ownL r v) i = if 112 ≤ i then bk (v % 2 ^ q) (15 - (i - 112)) else if 80 ≤ i then bitN (v4L r v) (i - 80) else bitN (endL r v) i := by
  have hl := endL_length (v := v) hr
  have hf := endL_fit (v := v) hr
  unfold ownL pidV
  rw [hn.eq, Int.toNat_natCast, bitN_writeL (writeL_fit hf _ _ _ _) _ _ _ _ _ (by simp [hl]), bitN_writeL hf _ _ _ _ _ (by omega)]
  by_cases c : 112 ≤ i
  · rw [if_pos (by omega), if_pos c]
  · rw [if_neg (by omega), if_neg c]
    by_cases e : 80 ≤ i
    · rw [if_pos (by omega), if_pos e, show 32 - 1 - (i - 80) = 32 - 1 - (i - 80) from rfl, bk_acc _ _ _ _ (by omega), Nat.zero_add]
    · rw [if_neg (by omega), if_neg e]

/-- What the program puts together is that. -/
theorem six_end (hr : r.Ok) (hn : Nums r a b d h q o) : padL (catRow [((a : Int), accN r.l6 0 a), ((b : Int), v)] (a + b) 2) 16 = endL r v := by
  have hlen := hn.len
  refine row_ext (by rw [padL_length _ _ (by simp; omega), endL_length hr]) (padL_fit (catRow_fit _ _ _) _) (endL_fit hr) fun i hi => ?_
  rw [padL_length _ _ (by simp; omega)] at hi
  rw [bitN_padL, cat2_bits, bit_end hr hn]
  by_cases c1 : i < a
  · rw [if_pos c1, if_neg (by omega), bk_acc _ _ _ _ c1, Nat.zero_add]
  · rw [if_neg c1]
    by_cases c2 : i - a < b
    · rw [if_pos c2, if_pos (by omega)]
    · rw [if_neg c2, if_neg (by omega), hn.low6 hr i (by omega) (by omega)]
theorem four_v4 (hr : r.Ok) (hn : Nums r a b d h q o) : padL (catRow [((d : Int), accN r.l4 0 d), ((h : Int), v / 2 ^ q)] (d + h) 2) 4 = v4L r v := by
  have hlen := hn.room
  refine row_ext (by rw [padL_length _ _ (by simp; omega), v4L_length hr]) (padL_fit (catRow_fit _ _ _) _) (v4L_fit hr) fun i hi => ?_
  rw [padL_length _ _ (by simp; omega)] at hi
  rw [bitN_padL, cat2_bits, bit_v4 hr hn]
  by_cases c1 : i < d
  · rw [if_pos c1, if_neg (by omega), bk_acc _ _ _ _ c1, Nat.zero_add]
  · rw [if_neg c1]
    by_cases c2 : i - d < h
    · rw [if_pos c2, if_pos (by omega)]
    · rw [if_neg c2, if_neg (by omega), hn.low4 hr i (by omega) (by omega)]
theorem six_own (hr : r.Ok) (hn : Nums r a b d h q o) : padL (catRow [((a : Int), accN r.l6 0 a), ((b : Int), v), (((64 - (a + b) : Nat) : Int), 0), (16, 0), (32, accN (v4L r v) 0 32), (16, v % 2 ^ q)] 128 6) 16 = ownL r v := by
  have hlen := hn.len
  refine row_ext (by rw [padL_length _ _ (by simp), ownL_length hr]) (padL_fit (catRow_fit _ _ _) _) (ownL_fit hr) fun i hi => ?_
  rw [padL_length _ _ (by simp)] at hi
  rw [bitN_padL, cat6_bits a b (64 - (a + b)) _ _ _ _ _ (by omega), bit_own hr hn i (by omega), bit_end hr hn]
  by_cases c1 : i < a
  · rw [if_pos c1, if_neg (by omega), if_neg (by omega), if_neg (by omega), bk_acc _ _ _ _ c1, Nat.zero_add]
  · rw [if_neg c1]
    by_cases c2 : i - a < b
    · rw [if_pos c2, if_neg (by omega), if_neg (by omega), if_pos (by omega)]
    · rw [if_neg c2]
      by_cases c3 : 80 ≤ i ∧ i < 112
      · rw [if_pos c3, if_neg (by omega), if_pos (by omega), show 31 - (i - 80) = 32 - 1 - (i - 80) by omega, bk_acc _ _ _ _ (by omega), Nat.zero_add]
      · rw [if_neg c3]
        by_cases c4 : 112 ≤ i
        · rw [if_pos (by omega), if_pos c4]
        · rw [if_neg (by omega), if_neg c4, if_neg (by omega), if_neg (by omega), hn.low6 hr i (by omega) (by omega)]

/-- A prefix has an address: its first bits are the same. -/
theorem has_bits {l k : List Int} {n : Nat} (hl : FitB l) (hk : FitB k) (he : k.length = l.length) (hn : n ≤ 8 * l.length) (ho : l = blR n l) : blR n k = l ↔ ∀ i, i < n → bitN k i = bitN l i := by
  constructor
  · intro e i hi
    rw [← e, bitN_blR hk n i (by omega), if_pos hi]
  · intro g
    refine row_ext (by rw [blR_length, he]) (blR_fit hk) hl fun i hi => ?_
    rw [blR_length] at hi
    rw [bitN_blR hk n i hi]
    by_cases c : i < n
    · rw [if_pos c, g i c]
    · rw [if_neg c]
      have : bitN l i = bitN (blR n l) i := congrArg (fun z => bitN z i) ho
      rw [this, bitN_blR hl n i (by omega), if_neg c]
theorem ok_bits {l : List Int} {n : Nat} (hl : FitB l) (h : ∀ i, i < 8 * l.length → n ≤ i → bitN l i = 0) : l = blR n l := by
  have e := low_blR hl n
  unfold lowB at e
  rw [decide_eq_true h] at e
  exact of_decide_eq_true e.symm

theorem end_ok (hr : r.Ok) (hn : Nums r a b d h q o) : okP6 (endL r v) (r.n6 + r.ea) = true := by
  have hlen := hn.len
  have e : r.n6 + r.ea = ((a + b : Nat) : Int) := by rw [hn.e6, hn.eb]; omega
  unfold okP6
  rw [e, decide_eq_true (show (0 : Int) ≤ ((a + b : Nat) : Int) ∧ ((a + b : Nat) : Int) ≤ 128 from ⟨by omega, by omega⟩), Bool.true_and]
  refine decide_eq_true (ok_bits (endL_fit hr) fun i hi hab => ?_)
  rw [endL_length hr] at hi
  rw [bit_end hr hn, if_neg (by omega), hn.low6 hr i (by omega) (by omega)]
theorem v4_ok (hr : r.Ok) (hn : Nums r a b d h q o) : okP4L (v4L r v) (r.n4 + hB r) = true := by
  have hlen := hn.room
  have e : r.n4 + hB r = ((d + h : Nat) : Int) := by rw [hn.e4, hn.eh]; omega
  unfold okP4L
  rw [e, decide_eq_true (show (0 : Int) ≤ ((d + h : Nat) : Int) ∧ ((d + h : Nat) : Int) ≤ 32 from ⟨by omega, by omega⟩), Bool.true_and]
  refine decide_eq_true (ok_bits (v4L_fit hr) fun i hi hab => ?_)
  rw [v4L_length hr] at hi
  rw [bit_v4 hr hn, if_neg (by omega), hn.low4 hr i (by omega) (by omega)]
theorem blR_of6 (hr : r.Ok) (hn : Nums r a b d h q o) : r.l6 = blR (a : Int) r.l6 := by
  have h6 := hr.p6
  unfold okP6 at h6
  simp at h6
  rw [← hn.e6]
  exact h6.2
theorem blR_of4 (hr : r.Ok) (hn : Nums r a b d h q o) : r.l4 = blR (d : Int) r.l4 := by
  have h6 := hr.p4
  unfold okP4L at h6
  simp at h6
  rw [← hn.e4]
  exact h6.2

theorem acc_iff {x : List Int} {p n v : Nat} (hv : v < 2 ^ n) : accN x p n = v ↔ ∀ j, j < n → bitN x (p + j) = bk v (n - 1 - j) :=
  ⟨fun e j hj => by rw [← e, bk_acc _ _ _ _ hj], fun g => accN_of g hv⟩

/-- Who has an address by its edge's prefix is found by it. -/
theorem end_has (hr : r.Ok) (hn : Nums r a b d h q o) (hv : v < 2 ^ b) {x : List Int} (hx : FitB x) (kx : x.length = 16) :
    blR (r.n6 + r.ea) x = endL r v ↔ (blR r.n6 x = r.l6 ∧ accN x a b = v) := by
  have hlen := hn.len
  have hok := end_ok (v := v) hr hn
  unfold okP6 at hok
  simp at hok
  have e : r.n6 + r.ea = ((a + b : Nat) : Int) := by rw [hn.e6, hn.eb]; omega
  have ho := hok.2
  rw [e] at ho ⊢
  rw [has_bits (endL_fit hr) hx (by rw [kx, endL_length hr]) (by rw [endL_length hr]; omega) ho, hn.e6, has_bits hr.inn.f6 hx (by rw [kx, hr.inn.k6]) (by rw [hr.inn.k6]; omega) (blR_of6 hr hn), acc_iff hv]
  constructor
  · intro g
    refine ⟨fun i hi => ?_, fun j hj => ?_⟩
    · rw [g i (by omega), bit_end hr hn, if_neg (by omega)]
    · rw [g (a + j) (by omega), bit_end hr hn, if_pos (by omega), show a + j - a = j by omega]
  · rintro ⟨g1, g2⟩ i hi
    rw [bit_end hr hn]
    by_cases c : i < a
    · rw [if_neg (by omega), g1 i c]
    · rw [if_pos (by omega)]
      have := g2 (i - a) (by omega)
      rwa [show a + (i - a) = i by omega] at this
theorem own_has (hr : r.Ok) (hn : Nums r a b d h q o) (hv : v < 2 ^ b) : blR r.n6 (ownL r v) = r.l6 ∧ accN (ownL r v) a b = v := by
  have hlen := hn.len
  rw [hn.e6, has_bits hr.inn.f6 (ownL_fit hr) (by rw [ownL_length hr, hr.inn.k6]) (by rw [hr.inn.k6]; omega) (blR_of6 hr hn), acc_iff hv]
  refine ⟨fun i hi => ?_, fun j hj => ?_⟩
  · rw [bit_own hr hn i (by omega), if_neg (by omega), if_neg (by omega), bit_end hr hn, if_neg (by omega)]
  · rw [bit_own hr hn _ (by omega), if_neg (by omega), if_neg (by omega), bit_end hr hn, if_pos (by omega), show a + j - a = j by omega]
theorem v4_has (hr : r.Ok) (hn : Nums r a b d h q o) (hv : v < 2 ^ b) {y : List Int} (hy : FitB y) (ky : y.length = 4) :
    blR (r.n4 + hB r) y = v4L r v ↔ (blR r.n4 y = r.l4 ∧ accN y d h = v / 2 ^ q) := by
  have hlen := hn.room
  have hok := v4_ok (v := v) hr hn
  unfold okP4L at hok
  simp at hok
  have e : r.n4 + hB r = ((d + h : Nat) : Int) := by rw [hn.e4, hn.eh]; omega
  have ho := hok.2
  have hv2 : v / 2 ^ q < 2 ^ h := by
    rw [Nat.div_lt_iff_lt_mul (Nat.two_pow_pos q), ← Nat.pow_add, ← hn.sum]
    exact hv
  rw [e] at ho ⊢
  rw [has_bits (v4L_fit hr) hy (by rw [ky, v4L_length hr]) (by rw [v4L_length hr]; omega) ho, hn.e4, has_bits hr.inn.f4 hy (by rw [ky, hr.inn.k4]) (by rw [hr.inn.k4]; omega) (blR_of4 hr hn), acc_iff hv2]
  constructor
  · intro g
    refine ⟨fun i hi => ?_, fun j hj => ?_⟩
    · rw [g i (by omega), bit_v4 hr hn, if_neg (by omega)]
    · rw [g (d + j) (by omega), bit_v4 hr hn, if_pos (by omega), show d + j - d = j by omega]
  · rintro ⟨g1, g2⟩ i hi
    rw [bit_v4 hr hn]
    by_cases c : i < d
    · rw [if_neg (by omega), g1 i c]
    · rw [if_pos (by omega)]
      have := g2 (i - d) (by omega)
      rwa [show d + (i - d) = i by omega] at this
end

end Go.Proofs.YtaebknkjhhcneaaGreatDoor
