/-
  The document's slash, length; its prefixes of good texts.
  Regions that draw, by hand.
  The document's Prefix4 of a good text.
  The document's Prefix6 of a good text.
-/
import Derived.Test.YtaebknkjhhcneaaGreatDoorFold16
import Derived.Test.YtaebknkjhhcneaaGreatDoorSixM
import Derived.Deep.RegionLaw
import Derived.Test.YtaebknkjhhcneaaGreatDoorFold08
import Derived.OrdersHeld
namespace Go.Proofs.YtaebknkjhhcneaaGreatDoor
set_option linter.unusedVariables false
set_option linter.unusedSimpArgs false
open Go Go.RowKit

theorem step_storeR {P : Program} {ops : Array Oper} {o : Oper} {a : Act} {w w2 : World} {K : Act → World → Prop} {Q : Exit → Act → World → Prop} {E : Prop} (hg : o.guard = none) (p x : Operand) (t : TypeId)
    (hop : o.op = Op.store t p x) {vp vx : Value} (hp : a.eval p = vp) (hx : a.eval x = vx) (hrun : (Instr.storeAt t vp vx).run P w = .ok () w2) (hK : K (a.put o.dst (.tuple #[])) w2) :
    if Region.wanted o (yielded ops a.tmps) = true then Oper.wp P o a w K Q else E := by
  have hw : Region.wanted o (yielded ops a.tmps) = true := by simp [Region.wanted, hg]
  rw [if_pos hw]
  unfold Oper.wp
  simp [execOp, hop, hp, hx, hrun, Result.andThen]
  exact hK

theorem step_loadR {P : Program} {ops : Array Oper} {o : Oper} {a : Act} {w : World} {K : Act → World → Prop} {Q : Exit → Act → World → Prop} {E : Prop} (hg : o.guard = none) (p : Operand) (t : TypeId)
    (hop : o.op = Op.load t p) {vp v : Value} (hp : a.eval p = vp) (hrun : (Instr.loadAt t vp).run P w = .ok v w) (hK : K (a.put o.dst v) w) :
    if Region.wanted o (yielded ops a.tmps) = true then Oper.wp P o a w K Q else E := by
  have hw : Region.wanted o (yielded ops a.tmps) = true := by simp [Region.wanted, hg]
  rw [if_pos hw]
  unfold Oper.wp
  simp [execOp, hop, hp, hrun, Result.andThen]
  exact hK
theorem step_buildR {P : Program} {ops : Array Oper} {o : Oper} {a : Act} {w : World} {K : Act → World → Prop} {Q : Exit → Act → World → Prop} {E : Prop} (hg : o.guard = none) (t : TypeId) (ps : List (Nat × Operand))
    (hop : o.op = Op.build t ps.toArray) {vs : List (Nat × Value)} (hv : ps.map (fun p => (p.1, a.eval p.2)) = vs) {v : Value} (hrun : (Instr.build t vs.toArray).run P w = .ok v w) (hK : K (a.put o.dst v) w) :
    if Region.wanted o (yielded ops a.tmps) = true then Oper.wp P o a w K Q else E := by
  have hw : Region.wanted o (yielded ops a.tmps) = true := by simp [Region.wanted, hg]
  rw [if_pos hw]
  unfold Oper.wp
  have e : (ps.toArray.map fun (i, x) => (i, a.eval x)) = vs.toArray := by
    rw [← hv]
    simp
  simp only [execOp, hop]
  rw [e]
  simp [hrun, Result.andThen]
  exact hK

set_option maxHeartbeats 1000000 in
theorem slash_ref (s : ByteArray) (w : World) (hs : s.size ≤ 1000000) : Calls Tryz.prog 160 #[.string s] w fun e w' => e = .returned (.int .i64 (slashN (txt s) s.size 0 : Nat)) ∧ w' = w := by
  have hl := txt_length s
  generalize hR : slashN (txt s) s.size 0 = R
  have HR : Hid _ := hR
  clear hR
  go_enter Tryz.func160, Tryz.ntmps160
  go_wp2
  go_loop [3] (fun i => ∃ k : Nat, k ≤ s.size ∧ i = .int .i64 k ∧ R = slashN (txt s) (s.size - k) k) (fun i => s.size - (intOf i).toNat)
  case atStart => exact ⟨0, Nat.zero_le _, rfl, HR.out.symm⟩
  case round =>
    obtain ⟨k, hk, rfl, hrk⟩ := hrel
    have HK : Hid _ := hrk
    clear hrk HR
    by_cases hlt : k < s.size
    · have hx := txt_at s k hlt
      have hb := byte_at s k hlt
      have hst : slashN (txt s) (s.size - k) k = if (((s[k]'hlt).toNat : Nat) : Int) = 47 then k else slashN (txt s) (s.size - (k + 1)) (k + 1) := by
        have e : s.size - k = (s.size - (k + 1)) + 1 := by omega
        rw [e, slashN, List.getD_eq_getElem?_getD, hx]
        rfl
      by_cases h47 : (((s[k]'hlt).toNat : Nat) : Int) = 47
      · rw [if_pos h47] at hst
        have q : ((((s[k]'hlt).toNat : Nat) : Int) != 47) = false := by simpa using h47
        have HE : Hid (R = k) := HK.out.trans hst
        clear hst hx h47
        go_wp2
        go_ret
        exact ⟨by rw [HE.out]; rfl, rfl⟩
      · rw [if_neg h47] at hst
        have q : ((((s[k]'hlt).toNat : Nat) : Int) != 47) = true := by simpa using h47
        have HE : Hid _ := HK.out.trans hst
        clear hst hx
        go_wp2
        exact ⟨⟨k + 1, by omega, by simp, HE.out⟩, by simp [intOf]; omega⟩
    · obtain rfl : k = s.size := by omega
      have HE : Hid (R = s.size) := HK.out.trans (by rw [Nat.sub_self]; rfl)
      clear HK
      go_wp2
      go_ret
      exact ⟨by rw [HE.out]; rfl, rfl⟩

set_option maxHeartbeats 1000000 in
theorem length_ref (s : ByteArray) (most : Int) (w : World) (hs : s.size ≤ 1000000) (hm : 0 ≤ most ∧ most ≤ 1000000) : Calls Tryz.prog 161 #[.string s, .int .i64 most] w fun e w' => e = .returned (.int .i64 (lenN (txt s) most s.size 0 : Nat)) ∧ w' = w := by
  have hl := txt_length s
  generalize hR : lenN (txt s) most s.size 0 = R
  have HR : Hid _ := hR
  clear hR
  go_enter Tryz.func161, Tryz.ntmps161
  go_wp2
  go_loop [5] (fun i => ∃ k : Nat, k ≤ s.size ∧ i = .int .i64 k ∧ R = lenN (txt s) most (s.size - k) k) (fun i => s.size - (intOf i).toNat)
  case atStart => exact ⟨0, Nat.zero_le _, rfl, HR.out.symm⟩
  case round =>
    obtain ⟨k, hk, rfl, hrk⟩ := hrel
    have HK : Hid _ := hrk
    clear hrk HR
    by_cases hlt : k < s.size
    · have hoc := octet_ref (s.extract 0 (k + 1)) most w hm
      rw [txt_extract, List.drop_zero, Nat.sub_zero] at hoc
      have hst : lenN (txt s) most (s.size - k) k = if octB ((txt s).take (k + 1)) most then lenN (txt s) most (s.size - (k + 1)) (k + 1) else k := by
        have e : s.size - k = (s.size - (k + 1)) + 1 := by omega
        rw [e, lenN]
      cases hob : octB ((txt s).take (k + 1)) most with
      | true =>
        rw [hob] at hoc
        rw [hob, if_pos rfl] at hst
        have HE : Hid _ := HK.out.trans hst
        have HO : Hid _ := hoc
        clear hst hob hoc
        go_wp2_with fail
        refine Calls.mono HO.out ?_
        rintro e w' ⟨rfl, rfl⟩
        go_wp2
        exact ⟨⟨k + 1, by omega, by simp, HE.out⟩, by simp [intOf]; omega⟩
      | false =>
        rw [hob] at hoc
        rw [hob] at hst
        have HE : Hid (R = k) := HK.out.trans hst
        have HO : Hid _ := hoc
        clear hst hob hoc
        go_wp2_with fail
        refine Calls.mono HO.out ?_
        rintro e w' ⟨rfl, rfl⟩
        go_wp2
        go_ret
        exact ⟨by rw [HE.out]; rfl, rfl⟩
    · obtain rfl : k = s.size := by omega
      have HE : Hid (R = s.size) := HK.out.trans (by rw [Nat.sub_self]; rfl)
      clear HK
      go_wp2
      go_ret
      exact ⟨by rw [HE.out]; rfl, rfl⟩

end Go.Proofs.YtaebknkjhhcneaaGreatDoor

namespace Go.Proofs.YtaebknkjhhcneaaGreatDoor
open Go Go.RowKit
set_option linter.unusedVariables false
set_option linter.unusedSimpArgs false

theorem wpOp_none {P : Program} {ops : Array Oper} {i : Nat} {o : Oper} {K : Act → World → Prop} {Q : Exit → Act → World → Prop} {a : Act} {w : World} (hi : ops[i]? = some o) (hg : o.guard = none) (h : o.wp P a w K Q) : wpOp P ops Q i K a w := by
  unfold wpOp
  rw [hi]
  simp only
  rw [if_pos (by simp [Region.wanted, hg])]
  exact .inl h

theorem all_one {P : Program} {ops : Array Oper} {Q : Exit → Act → World → Prop} {md : Region.Mode} {S : World → Prop} {i : Nat} {o : Oper} {fuel : Nat} {listed : Array Bool} {a : Act} {w : World} (hr : Region.ready md ops listed = [i]) (hi : ops[i]? = some o) (hg : o.guard = none)
    (h : o.wp P a w (fun a' w' => S w' ∧ wpAnyH P md ops Q S fuel (listed.setIfInBounds i true) a' w') Q) : wpAnyH P md ops Q S (fuel + 1) listed a w := by
  refine wpAnyH_all (rs := [i]) hr (by simp) ?_
  intro j hj
  obtain rfl : j = i := by simpa using hj
  exact wpOp_none hi hg h

theorem all_two {P : Program} {ops : Array Oper} {Q : Exit → Act → World → Prop} {md : Region.Mode} {S : World → Prop} {i1 i2 : Nat} {o1 o2 : Oper} {fuel : Nat} {listed : Array Bool} {a : Act} {w : World} (hr : Region.ready md ops listed = [i1, i2]) (h1 : ops[i1]? = some o1) (g1 : o1.guard = none) (h2 : ops[i2]? = some o2) (g2 : o2.guard = none)
    (k1 : o1.wp P a w (fun a' w' => S w' ∧ wpAnyH P md ops Q S fuel (listed.setIfInBounds i1 true) a' w') Q) (k2 : o2.wp P a w (fun a' w' => S w' ∧ wpAnyH P md ops Q S fuel (listed.setIfInBounds i2 true) a' w') Q) : wpAnyH P md ops Q S (fuel + 1) listed a w := by
  refine wpAnyH_all (rs := [i1, i2]) hr (by simp) ?_
  intro j hj
  simp at hj
  rcases hj with rfl | rfl
  · exact wpOp_none h1 g1 k1
  · exact wpOp_none h2 g2 k2

theorem take_one {d : Option Nat} {P : Program} {ops : Array Oper} {Q : Exit → Act → World → Prop} {md : Region.Mode} {S : World → Prop} {i : Nat} {o : Oper} {v : Value} {fuel : Nat} {listed : Array Bool} {a : Act} {w : World} (hi : ops[i]? = some o) (hg : o.guard = none) (hd : o.dst = d)
    (hs : Region.noSelect ops = true) (hf : Region.free md ops listed i = true) (hr : (Region.ready md ops listed).contains i = true) (hQ : ∀ c (a : Act) d v w, Q (.panic c) (a.put d v) w → Q (.panic c) a w)
    (hy : ∀ w, S w → (execOp a.eval o).run P w = .ok (.value v) w) (hS : S w) (h : wpAnyH P md ops Q S fuel (listed.setIfInBounds i true) (a.put d v) w) : wpAnyH P md ops Q S (fuel + 1) listed a w :=
  wpAnyH_take hi hs hf hr (fun c a w q => hQ c a _ _ w q) (.inl ⟨by simp [Region.wanted, hg], hy⟩) hS (hd ▸ h)

theorem wp_call {P : Program} {o : Oper} {a : Act} {d : Option Nat} {w : World} {K : Act → World → Prop} {Q : Exit → Act → World → Prop} {R : Value → World → Prop} (f : FuncId) (vs : Array Value) (hd : o.dst = d)
    (hrun : (execOp a.eval o).run P w = .ok (.enter f vs) w) (hc : Calls P f vs w fun e w' => ∃ v, e = .returned v ∧ R v w') (hK : ∀ v w2, R v w2 → K (a.put d v) w2) : o.wp P a w K Q := by
  subst hd
  unfold Oper.wp
  rw [hrun]
  refine hc.mono ?_
  rintro e w' ⟨v, rfl, hr⟩
  exact hK v w' hr

theorem ex_loadA {P : Program} {o : Oper} {a : Act} {W : World} (k : Operand) (t : TypeId) {vp v : Value} (hop : o.op = Op.load t k) (hk : a.eval k = vp) (h : (Instr.loadAt t vp).run P W = .ok v W) : (execOp a.eval o).run P W = .ok (.value v) W := by
  simp [execOp, hop, hk, h, Result.andThen]
theorem ex_moveA {P : Program} {o : Oper} {a : Act} {W : World} (p : Operand) (hop : o.op = Op.move p) {v : Value} (hp : a.eval p = v) : (execOp a.eval o).run P W = .ok (.value v) W := by
  generalize a.eval = ev at *
  simp [execOp, hop, hp, go_sem]
theorem ex_buildA {P : Program} {o : Oper} {a : Act} {W : World} (t : TypeId) (ps : List (Nat × Operand)) (hop : o.op = Op.build t ps.toArray) {vs : List (Nat × Value)} (hv : ps.map (fun p => (p.1, a.eval p.2)) = vs) {v : Value} (hrun : (Instr.build t vs.toArray).run P W = .ok v W) : (execOp a.eval o).run P W = .ok (.value v) W := by
  have e : (ps.toArray.map fun (i, x) => (i, a.eval x)) = vs.toArray := by
    rw [← hv]
    simp
  simp only [execOp, hop]
  rw [e]
  simp [hrun, Result.andThen]
theorem wp_storeA {P : Program} {o : Oper} {a : Act} {w w2 : World} {K : Act → World → Prop} {Q : Exit → Act → World → Prop} (p x : Operand) (t : TypeId) (hop : o.op = Op.store t p x) (hd : o.dst = none) {vp vx : Value} (hp : a.eval p = vp) (hx : a.eval x = vx) (hrun : (Instr.storeAt t vp vx).run P w = .ok () w2) (hK : K a w2) : o.wp P a w K Q := by
  have hK' : K (a.put o.dst (.tuple #[])) w2 := by rw [hd]; exact hK
  unfold Oper.wp
  simp [execOp, hop, hp, hx, hrun, Result.andThen]
  exact hK'
theorem wp_allocA {P : Program} {o : Oper} {a : Act} {d : Option Nat} {w : World} {K : Act → World → Prop} {Q : Exit → Act → World → Prop} (t : TypeId) (hop : o.op = Op.alloc t) (hd : o.dst = d) {v : Value} {w2 : World} (hrun : (execOp a.eval o).run P w = .ok (.value v) w2) (hK : K (a.put d v) w2) : o.wp P a w K Q := by
  subst hd
  unfold Oper.wp
  rw [hrun]
  exact hK

end Go.Proofs.YtaebknkjhhcneaaGreatDoor

namespace Go.Proofs.YtaebknkjhhcneaaGreatDoor
set_option linter.unusedVariables false
set_option linter.unusedSimpArgs false
open Go Go.RowKit

abbrev zero5V : List Value := [.int .u8 0, .int .u8 0, .int .u8 0, .int .u8 0, .int .i64 0]
def cp4 (l : List Int) (n : Int) : List Value := b8 l ++ [Value.int .i64 n]
theorem cp4_length (l : List Int) (n : Int) (h : l.length = 4) : (cp4 l n).length = 5 := by simp [cp4, b8_length, h]
theorem cp4_one (l : List Int) (n : Int) : ∀ v ∈ cp4 l n, v.oneCell' = true := by
  intro v hv
  rcases List.mem_append.1 hv with hv | hv
  · exact b8_one l v hv
  · simp at hv; subst hv; rfl
abbrev A4L (l : List Int) : Value := .agg (b8 l).toArray
abbrev P4L (l : List Int) (n : Int) : Value := .agg (cp4 l n).toArray
theorem build4L (l : List Int) (n : Int) (hl : l.length = 4) (w : World) : (Instr.build 63 #[(0, A4L l), (1, .int .i64 n)]).run Tryz.prog w = .ok (P4L l n) w := by
  obtain ⟨a0, a1, a2, a3, rfl⟩ := list4 hl
  exact run_build w _ _ _ (by kernel_rfl)
def okP4L (l : List Int) (n : Int) : Bool := decide (0 ≤ n ∧ n ≤ 32) && decide (l = blR n l)
theorem RCheck4_L (l : List Int) (n : Int) (w : World) (hf : FitB l) (hl : l.length = 4) (hb : -9223372036854775808 ≤ n ∧ n ≤ 9223372036854775807) :
    Calls Tryz.prog 72 #[P4L l n] w fun e w' => e = .returned (.int .i64 (if okP4L l n then 0 else 22)) ∧ Below w.heap.size w w' := by
  obtain ⟨a0, a1, a2, a3, rfl⟩ := list4 hl
  have h := RCheck4_calls a0 a1 a2 a3 n w (hf a0 (by simp)) (hf a1 (by simp)) (hf a2 (by simp)) (hf a3 (by simp)) hb
  have e : okP4 a0 a1 a2 a3 n = okP4L [a0, a1, a2, a3] n := by unfold okP4 okP4L; rw [blR4]
  rw [e] at h
  exact h

def Par4R (r : List Int × Int × Int) (w : World) (e : Ending) (w' : World) : Prop := e = .returned (Par4 r) ∧ Below w.heap.size w w'
def Pre4Post (A : List Int) (n : Int) (w : World) (e : Ending) (w' : World) : Prop := e = .returned (.tuple #[P4L A n, .int .i64 0, .int .i64 0]) ∧ Below w.heap.size w w'

/-- What a good prefix's text is. -/
structure Good4 (s : ByteArray) (at_ : Nat) (A : List Int) (n : Int) : Prop where
  slash : slashN (txt s) s.size 0 = at_
  lt : at_ + 1 < s.size
  short : s.size ≤ 100
  parse : ∀ W, Calls Tryz.prog 168 #[.string (s.extract 0 at_)] W fun e w' => Par4R (A, 0, 0) W e w'
  len : lenN (txt (s.extract (at_ + 1) s.size)) 32 (s.extract (at_ + 1) s.size).size 0 = (s.extract (at_ + 1) s.size).size
  sz : (s.extract (at_ + 1) s.size).size ≤ 3
  digits : (txt (s.extract (at_ + 1) s.size)).all digB = true
  num : numF 0 (txt (s.extract (at_ + 1) s.size)) = n
  ok : okP4L A n = true
  a16 : A.length = 4
  fit : FitB A
  n64 : 0 ≤ n ∧ n ≤ 32

set_option maxHeartbeats 1000000 in
set_option maxRecDepth 100000 in
theorem Prefix4_good (s : ByteArray) (at_ : Nat) (A : List Int) (n : Int) (G : Good4 s at_ A n) (w : World) :
    Calls Tryz.prog 132 #[.string s] w fun e w' => Pre4Post A n w e w' := by
  obtain ⟨h1, h2, h3, h4, h5, h5b, h6, h7, h8, h9, h10, h11⟩ := G
  generalize hQ : (fun e w' => Pre4Post A n w e w') = Q
  have HQ : Hid _ := hQ
  clear hQ
  have hsl := fun W => slash_ref s W (by omega)
  rw [h1] at hsl
  have hes : (s.extract (at_ + 1) s.size).size = s.size - (at_ + 1) := by rw [ByteArray.size_extract]; omega
  have hlen := fun W => length_ref (s.extract (at_ + 1) s.size) 32 W (by omega) (by decide)
  rw [h5] at hlen
  have hnum := fun W => number_ref (s.extract (at_ + 1) s.size) W h6 (by omega)
  rw [h7] at hnum
  have hck := fun W => RCheck4_L A n W h10 h9 (by omega)
  rw [h8] at hck
  simp only [if_true] at hck
  have HSL : Hid _ := hsl
  have HLEN : Hid _ := hlen
  have HNUM : Hid (∀ W, Calls Tryz.prog 162 #[.string (s.extract (at_ + 1) s.size)] W fun e w' => ∃ u, e = .returned u ∧ (u = .int .i64 n ∧ w' = W)) := fun W => (hnum W).mono fun e w' h => ⟨_, h.1, rfl, h.2⟩
  have HCK : Hid _ := hck
  have HPA : Hid _ := h4
  clear hsl hlen hnum hck h4 h1 h5 h6 h7 h8
  have hb0 := blk_new w (.cells zero5V.toArray 63)
  have hB0 := (Below.refl w.heap.size w).alloc (Nat.le_refl _) (.cells zero5V.toArray 63)
  have hz0 : (w.alloc (.cells zero5V.toArray 63)).heap.size = w.heap.size + 1 := by simp
  have HZ0 : Hid _ := hz0
  clear hz0
  generalize hr : s.extract (at_ + 1) s.size = r at *
  have HRR : Hid _ := hr
  have q1 : ((at_ : Int) == (s.size : Int)) = false := by simp; omega
  have q2 : (at_ : Int) ≤ (s.size : Int) := by omega
  have q3 : (at_ : Int) + 1 ≤ (s.size : Int) := by omega
  have q4 : ((r.size : Int) == 0) = false := by rw [beq_eq_false_iff_ne]; intro h; omega
  have hrs : r.size ≤ 100 := by omega
  clear hr hes
  go_enter Tryz.func132, Tryz.ntmps132
  go_wp2_with fail
  generalize hW : w.alloc (.cells zero5V.toArray 63) = W0 at *
  clear hW
  refine (HSL.out W0).mono ?_
  rintro e w1 ⟨rfl, rfl⟩
  go_wp2_with fail
  refine (HPA.out _).mono ?_
  rintro e w2 ⟨rfl, hB2⟩
  have hz0 := HZ0.out
  have hb2 := (hB2.block _ (by omega)).trans hb0
  have hBw2 := hB0.trans (hB2.mono (by omega))
  obtain ⟨w3, hst, bx3, hB3⟩ := box_new Tryz.sizeOf61 w2 zero4L rfl (b8 A) (by rw [b8_length, h9]) (b8_one _)
  have hlt2 : w.heap.size < w2.heap.size := Nat.lt_of_lt_of_le (by omega) hB2.size
  have hb3 := (hB3.block _ hlt2).trans hb2
  have hBw3 := hBw2.trans (hB3.mono hBw2.size)
  have HST : Hid _ := hst
  clear hst hz0 HZ0 hb0 hB0 hb2 hBw2 HPA HSL
  unfold Par4
  dsimp only
  go_wp2_with ((with_reducible show wpList _ _ _ _ _ _); refine armS (.tmp 6) (.tmp 18) 61 rfl rfl rfl rfl HST.out ?_)
  rw [HRR.out]
  refine (HLEN.out _).mono ?_
  rintro e w4 ⟨rfl, rfl⟩
  go_wp2_with fail
  obtain ⟨w5, hst5, bx5, hB5⟩ := box_new Tryz.sizeOf63 w4.drew zero5V rfl (cp4 A n) (cp4_length A n h9) (cp4_one A n)
  have HS5 : Hid _ := hst5
  have hb5 := (hB5.block w.heap.size (Nat.lt_of_lt_of_le hlt2 hB3.size)).trans hb3
  have hBw5 : Below w.heap.size w w5 := hBw3.drew.trans (hB5.mono hBw3.size)
  have HLP : Hid _ := agg_load (t := 63) Tryz.isAgg63 Tryz.sizeOf63 (vs := cp4 A n) (cp4_length A n h9) (CellsAt.of_blk bx5)
  have hb6 : w5.heap[w2.heap.size]? = some (.cells (b8 A).toArray 61) := (hB5.block w2.heap.size (Array.getElem?_eq_some_iff.1 bx3).1).trans bx3
  clear hst5
  refine wp_region_held (S := fun W => W.heap[w2.heap.size]? = some (.cells (b8 A).toArray 61)) (by kernel_rfl) ?_
  show wpAnyH _ _ _ _ _ 6 (Array.replicate 6 false) _ _
  refine take_one (i := 0) (d := some 50) (v := (A4L A)) rfl rfl rfl (by kernel_rfl) (by kernel_rfl) (by kernel_rfl) (fun _ _ d _ _ h => by cases d <;> exact h) (fun W hS => ex_loadA (.tmp 6) 61 rfl rfl (agg_load Tryz.isAgg61 Tryz.sizeOf61 (by rw [b8_length, h9]) (CellsAt.of_blk hS))) bx3 ?_
  simp only [Act.put, List.setIfInBounds_toArray, List.set_cons_zero, List.set_cons_succ]
  refine take_one (i := 1) (d := some 51) (v := (.string r)) rfl rfl rfl (by kernel_rfl) (by kernel_rfl) (by kernel_rfl) (fun _ _ d _ _ h => by cases d <;> exact h) (fun W hS => ex_moveA (.tmp 9) rfl rfl) bx3 ?_
  simp only [Act.put, List.setIfInBounds_toArray, List.set_cons_zero, List.set_cons_succ]
  have bx3a : (w4.drew.alloc (.cells zero5V.toArray 63)).heap[w2.heap.size]? = some (.cells (b8 A).toArray 61) := blk_alloc (w := w4.drew) bx3 _
  refine all_two (i1 := 2) (i2 := 4) (by kernel_rfl) rfl rfl rfl rfl ?_ ?_
  · refine wp_call (d := some 52) 162 _ rfl (by kernel_rfl) (HNUM.out _) ?_
    rintro _ _ ⟨rfl, rfl⟩
    refine ⟨bx3, ?_⟩
    simp only [Act.put, List.setIfInBounds_toArray, List.set_cons_zero, List.set_cons_succ]
    refine take_one (i := 3) (d := some 53) (v := (P4L A n)) rfl rfl rfl (by kernel_rfl) (by kernel_rfl) (by kernel_rfl) (fun _ _ d _ _ h => by cases d <;> exact h) (fun W hS => ex_buildA 63 [(0, .tmp 50), (1, .tmp 52)] rfl rfl (build4L A n h9 _)) bx3 ?_
    simp only [Act.put, List.setIfInBounds_toArray, List.set_cons_zero, List.set_cons_succ]
    refine all_one (i := 4) (by kernel_rfl) rfl rfl ?_
    refine wp_allocA (d := some 10) 63 rfl rfl (v := .pointer (some ⟨w4.drew.heap.size, 0, none⟩)) (w2 := w4.drew.alloc (.cells zero5V.toArray 63)) (by simp [execOp, go_sem]) ?_
    refine ⟨bx3a, ?_⟩
    simp only [Act.put, List.setIfInBounds_toArray, List.set_cons_zero, List.set_cons_succ]
    refine all_one (i := 5) (by kernel_rfl) rfl rfl ?_
    refine wp_storeA (.tmp 10) (.tmp 53) 63 rfl rfl rfl rfl HS5.out ?_
    refine ⟨hb6, ?_⟩
    refine wpAnyH_done (by kernel_rfl) ?_ _
    go_wp2_with ((with_reducible show wpList _ _ _ _ _ _); refine armL (.tmp 10) 63 rfl rfl rfl HLP.out ?_)
    refine (HCK.out w5).mono ?_
    rintro e w6 ⟨rfl, hB6⟩
    have hlt5 : w.heap.size < w5.heap.size := (Array.getElem?_eq_some_iff.1 hb5).1
    have hb6R := (hB6.block _ hlt5).trans hb5
    have hBw6 := hBw5.trans (hB6.mono hBw5.size)
    have bx6 := (hB6.block _ (Array.getElem?_eq_some_iff.1 bx5).1).trans bx5
    have HL2 : Hid _ := agg_load (t := 63) Tryz.isAgg63 Tryz.sizeOf63 (vs := cp4 A n) (cp4_length A n h9) (CellsAt.of_blk bx6)
    obtain ⟨wE, hst, bE, honE⟩ := box_store Tryz.sizeOf63 hb6R rfl (cp4 A n) (cp4_length A n h9) (cp4_one A n)
    have HLV : Hid _ := agg_loadVar (t := 63) Tryz.isAgg63 Tryz.sizeOf63 (vs := cp4 A n) (cp4_length A n h9) (CellsAt.of_blk bE)
    have HBE : Hid (Below w.heap.size w wE) := hBw6.trans (honE.below (Nat.le_refl _))
    have HSQ : Hid _ := hst
    clear hst bE honE hb6R hBw6 bx6 hB6 HCK
    go_wp2_with first
      | ((with_reducible show wpList _ _ _ _ _ _); refine armL (.tmp 10) 63 rfl rfl rfl HL2.out ?_)
      | ((with_reducible show wpList _ _ _ _ _ _); refine armS (.tmp 2) (.tmp 59) 63 rfl rfl rfl rfl HSQ.out ?_)
    refine bodyPost_ret (res3c Tryz.results132 rfl HLV.out) rfl ?_
    rw [← HQ.out]
    exact ⟨rfl, HBE.out⟩
  · refine wp_allocA (d := some 10) 63 rfl rfl (v := .pointer (some ⟨w4.drew.heap.size, 0, none⟩)) (w2 := w4.drew.alloc (.cells zero5V.toArray 63)) (by simp [execOp, go_sem]) ?_
    refine ⟨bx3a, ?_⟩
    simp only [Act.put, List.setIfInBounds_toArray, List.set_cons_zero, List.set_cons_succ]
    refine all_one (i := 2) (by kernel_rfl) rfl rfl ?_
    refine wp_call (d := some 52) 162 _ rfl (by kernel_rfl) (HNUM.out _) ?_
    rintro _ _ ⟨rfl, rfl⟩
    refine ⟨bx3a, ?_⟩
    simp only [Act.put, List.setIfInBounds_toArray, List.set_cons_zero, List.set_cons_succ]
    refine take_one (i := 3) (d := some 53) (v := (P4L A n)) rfl rfl rfl (by kernel_rfl) (by kernel_rfl) (by kernel_rfl) (fun _ _ d _ _ h => by cases d <;> exact h) (fun W hS => ex_buildA 63 [(0, .tmp 50), (1, .tmp 52)] rfl rfl (build4L A n h9 _)) bx3a ?_
    simp only [Act.put, List.setIfInBounds_toArray, List.set_cons_zero, List.set_cons_succ]
    refine all_one (i := 5) (by kernel_rfl) rfl rfl ?_
    refine wp_storeA (.tmp 10) (.tmp 53) 63 rfl rfl rfl rfl HS5.out ?_
    refine ⟨hb6, ?_⟩
    refine wpAnyH_done (by kernel_rfl) ?_ _
    go_wp2_with ((with_reducible show wpList _ _ _ _ _ _); refine armL (.tmp 10) 63 rfl rfl rfl HLP.out ?_)
    refine (HCK.out w5).mono ?_
    rintro e w6 ⟨rfl, hB6⟩
    have hlt5 : w.heap.size < w5.heap.size := (Array.getElem?_eq_some_iff.1 hb5).1
    have hb6R := (hB6.block _ hlt5).trans hb5
    have hBw6 := hBw5.trans (hB6.mono hBw5.size)
    have bx6 := (hB6.block _ (Array.getElem?_eq_some_iff.1 bx5).1).trans bx5
    have HL2 : Hid _ := agg_load (t := 63) Tryz.isAgg63 Tryz.sizeOf63 (vs := cp4 A n) (cp4_length A n h9) (CellsAt.of_blk bx6)
    obtain ⟨wE, hst, bE, honE⟩ := box_store Tryz.sizeOf63 hb6R rfl (cp4 A n) (cp4_length A n h9) (cp4_one A n)
    have HLV : Hid _ := agg_loadVar (t := 63) Tryz.isAgg63 Tryz.sizeOf63 (vs := cp4 A n) (cp4_length A n h9) (CellsAt.of_blk bE)
    have HBE : Hid (Below w.heap.size w wE) := hBw6.trans (honE.below (Nat.le_refl _))
    have HSQ : Hid _ := hst
    clear hst bE honE hb6R hBw6 bx6 hB6 HCK
    go_wp2_with first
      | ((with_reducible show wpList _ _ _ _ _ _); refine armL (.tmp 10) 63 rfl rfl rfl HL2.out ?_)
      | ((with_reducible show wpList _ _ _ _ _ _); refine armS (.tmp 2) (.tmp 59) 63 rfl rfl rfl rfl HSQ.out ?_)
    refine bodyPost_ret (res3c Tryz.results132 rfl HLV.out) rfl ?_
    rw [← HQ.out]
    exact ⟨rfl, HBE.out⟩

end Go.Proofs.YtaebknkjhhcneaaGreatDoor

namespace Go.Proofs.YtaebknkjhhcneaaGreatDoor
set_option linter.unusedVariables false
set_option linter.unusedSimpArgs false
open Go Go.RowKit

abbrev zero17V : List Value := [.int .u8 0, .int .u8 0, .int .u8 0, .int .u8 0, .int .u8 0, .int .u8 0, .int .u8 0, .int .u8 0, .int .u8 0, .int .u8 0, .int .u8 0, .int .u8 0, .int .u8 0, .int .u8 0, .int .u8 0, .int .u8 0, .int .i64 0]

theorem cells_b8 {w : World} {b : Nat} {l : List Int} {t : TypeId} (h : w.heap[b]? = some (.cells (b8 l).toArray t)) : CellsAt w b 0 (u8s l) := by
  have := CellsAt.of_blk h
  exact this

def Pre6Post (A : List Int) (n : Int) (w : World) (e : Ending) (w' : World) : Prop := e = .returned (.tuple #[P6 A n, .int .i64 0, .int .i64 0]) ∧ Below w.heap.size w w'

/-- What a good prefix's text is. -/
structure Good6 (s : ByteArray) (at_ : Nat) (A : List Int) (n : Int) : Prop where
  slash : slashN (txt s) s.size 0 = at_
  lt : at_ + 1 < s.size
  short : s.size ≤ 100
  parse : ∀ W, Calls Tryz.prog 93 #[.string (s.extract 0 at_)] W fun e w' => Par6Post (A, 0, 0) W e w'
  len : lenN (txt (s.extract (at_ + 1) s.size)) 128 (s.extract (at_ + 1) s.size).size 0 = (s.extract (at_ + 1) s.size).size
  sz : (s.extract (at_ + 1) s.size).size ≤ 3
  digits : (txt (s.extract (at_ + 1) s.size)).all digB = true
  num : numF 0 (txt (s.extract (at_ + 1) s.size)) = n
  ok : okP6 A n = true
  a16 : A.length = 16
  fit : FitB A
  n64 : 0 ≤ n ∧ n ≤ 128

set_option maxHeartbeats 1000000 in
set_option maxRecDepth 100000 in
theorem Prefix6_good (s : ByteArray) (at_ : Nat) (A : List Int) (n : Int) (G : Good6 s at_ A n) (w : World) :
    Calls Tryz.prog 129 #[.string s] w fun e w' => Pre6Post A n w e w' := by
  obtain ⟨h1, h2, h3, h4, h5, h5b, h6, h7, h8, h9, h10, h11⟩ := G
  generalize hQ : (fun e w' => Pre6Post A n w e w') = Q
  have HQ : Hid _ := hQ
  clear hQ
  have hsl := fun W => slash_ref s W (by omega)
  rw [h1] at hsl
  have hes : (s.extract (at_ + 1) s.size).size = s.size - (at_ + 1) := by rw [ByteArray.size_extract]; omega
  have hlen := fun W => length_ref (s.extract (at_ + 1) s.size) 128 W (by omega) (by decide)
  rw [h5] at hlen
  have hnum := fun W => number_ref (s.extract (at_ + 1) s.size) W h6 (by omega)
  rw [h7] at hnum
  have hck := fun W => RCheck6_calls A n W h10 h9 (by omega)
  rw [h8] at hck
  simp only [if_true] at hck
  have HSL : Hid _ := hsl
  have HLEN : Hid _ := hlen
  have HNUM : Hid (∀ W, Calls Tryz.prog 162 #[.string (s.extract (at_ + 1) s.size)] W fun e w' => ∃ u, e = .returned u ∧ (u = .int .i64 n ∧ w' = W)) := fun W => (hnum W).mono fun e w' h => ⟨_, h.1, rfl, h.2⟩
  have HCK : Hid _ := hck
  have HPA : Hid _ := h4
  clear hsl hlen hnum hck h4 h1 h5 h6 h7 h8
  have hb0 := blk_new w (.cells zero17V.toArray 26)
  have hB0 := (Below.refl w.heap.size w).alloc (Nat.le_refl _) (.cells zero17V.toArray 26)
  have hz0 : (w.alloc (.cells zero17V.toArray 26)).heap.size = w.heap.size + 1 := by simp
  have HZ0 : Hid _ := hz0
  clear hz0
  generalize hr : s.extract (at_ + 1) s.size = r at *
  have HRR : Hid _ := hr
  have q1 : ((at_ : Int) == (s.size : Int)) = false := by simp; omega
  have q2 : (at_ : Int) ≤ (s.size : Int) := by omega
  have q3 : (at_ : Int) + 1 ≤ (s.size : Int) := by omega
  have q4 : ((r.size : Int) == 0) = false := by rw [beq_eq_false_iff_ne]; intro h; omega
  have hrs : r.size ≤ 100 := by omega
  clear hr hes
  go_enter Tryz.func129, Tryz.ntmps129
  go_wp2_with fail
  generalize hW : w.alloc (.cells zero17V.toArray 26) = W0 at *
  clear hW
  refine (HSL.out W0).mono ?_
  rintro e w1 ⟨rfl, rfl⟩
  go_wp2_with fail
  refine (HPA.out _).mono ?_
  rintro e w2 ⟨rfl, hB2⟩
  have hz0 := HZ0.out
  have hb2 := (hB2.block _ (by omega)).trans hb0
  have hBw2 := hB0.trans (hB2.mono (by omega))
  obtain ⟨w3, hst, bx3, hB3⟩ := box_new Tryz.sizeOf24 w2 zero16V rfl (b8 A) (by rw [b8_length, h9]) (b8_one _)
  have hlt2 : w.heap.size < w2.heap.size := Nat.lt_of_lt_of_le (by omega) hB2.size
  have hb3 := (hB3.block _ hlt2).trans hb2
  have hBw3 := hBw2.trans (hB3.mono hBw2.size)
  have HST : Hid _ := hst
  clear hst hz0 HZ0 hb0 hB0 hb2 hBw2 HPA HSL
  unfold Par6
  dsimp only
  go_wp2_with ((with_reducible show wpList _ _ _ _ _ _); refine armS (.tmp 6) (.tmp 18) 24 rfl rfl rfl rfl HST.out ?_)
  rw [HRR.out]
  refine (HLEN.out _).mono ?_
  rintro e w4 ⟨rfl, rfl⟩
  go_wp2_with fail
  obtain ⟨w5, hst5, bx5, hB5⟩ := box_new Tryz.sizeOf26 w4.drew zero17V rfl (cp6 A n) (cp6_length A n h9) (cp6_one A n)
  have HS5 : Hid _ := hst5
  have hb5 := (hB5.block w.heap.size (Nat.lt_of_lt_of_le hlt2 hB3.size)).trans hb3
  have hBw5 : Below w.heap.size w w5 := hBw3.drew.trans (hB5.mono hBw3.size)
  have HLP : Hid _ := loadP6 h9 (CellsAt.pfx h9 bx5).1
  have hb6 : w5.heap[w2.heap.size]? = some (.cells (b8 A).toArray 24) := (hB5.block w2.heap.size (Array.getElem?_eq_some_iff.1 bx3).1).trans bx3
  clear hst5
  refine wp_region_held (S := fun W => W.heap[w2.heap.size]? = some (.cells (b8 A).toArray 24)) (by kernel_rfl) ?_
  show wpAnyH _ _ _ _ _ 6 (Array.replicate 6 false) _ _
  refine take_one (i := 0) (d := some 50) (v := (A6 A)) rfl rfl rfl (by kernel_rfl) (by kernel_rfl) (by kernel_rfl) (fun _ _ d _ _ h => by cases d <;> exact h) (fun W hS => ex_loadA (.tmp 6) 24 rfl rfl (load6 h9 (cells_b8 hS))) bx3 ?_
  simp only [Act.put, List.setIfInBounds_toArray, List.set_cons_zero, List.set_cons_succ]
  refine take_one (i := 1) (d := some 51) (v := (.string r)) rfl rfl rfl (by kernel_rfl) (by kernel_rfl) (by kernel_rfl) (fun _ _ d _ _ h => by cases d <;> exact h) (fun W hS => ex_moveA (.tmp 9) rfl rfl) bx3 ?_
  simp only [Act.put, List.setIfInBounds_toArray, List.set_cons_zero, List.set_cons_succ]
  have bx3a : (w4.drew.alloc (.cells zero17V.toArray 26)).heap[w2.heap.size]? = some (.cells (b8 A).toArray 24) := blk_alloc (w := w4.drew) bx3 _
  refine all_two (i1 := 2) (i2 := 4) (by kernel_rfl) rfl rfl rfl rfl ?_ ?_
  · refine wp_call (d := some 52) 162 _ rfl (by kernel_rfl) (HNUM.out _) ?_
    rintro _ _ ⟨rfl, rfl⟩
    refine ⟨bx3, ?_⟩
    simp only [Act.put, List.setIfInBounds_toArray, List.set_cons_zero, List.set_cons_succ]
    refine take_one (i := 3) (d := some 53) (v := (P6 A n)) rfl rfl rfl (by kernel_rfl) (by kernel_rfl) (by kernel_rfl) (fun _ _ d _ _ h => by cases d <;> exact h) (fun W hS => ex_buildA 26 [(0, .tmp 50), (1, .tmp 52)] rfl rfl (build6 A n h9 _)) bx3 ?_
    simp only [Act.put, List.setIfInBounds_toArray, List.set_cons_zero, List.set_cons_succ]
    refine all_one (i := 4) (by kernel_rfl) rfl rfl ?_
    refine wp_allocA (d := some 10) 26 rfl rfl (v := .pointer (some ⟨w4.drew.heap.size, 0, none⟩)) (w2 := w4.drew.alloc (.cells zero17V.toArray 26)) (by simp [execOp, go_sem]) ?_
    refine ⟨bx3a, ?_⟩
    simp only [Act.put, List.setIfInBounds_toArray, List.set_cons_zero, List.set_cons_succ]
    refine all_one (i := 5) (by kernel_rfl) rfl rfl ?_
    refine wp_storeA (.tmp 10) (.tmp 53) 26 rfl rfl rfl rfl HS5.out ?_
    refine ⟨hb6, ?_⟩
    refine wpAnyH_done (by kernel_rfl) ?_ _
    go_wp2_with ((with_reducible show wpList _ _ _ _ _ _); refine armL (.tmp 10) 26 rfl rfl rfl HLP.out ?_)
    refine (HCK.out w5).mono ?_
    rintro e w6 ⟨rfl, hB6⟩
    have hlt5 : w.heap.size < w5.heap.size := (Array.getElem?_eq_some_iff.1 hb5).1
    have hb6R := (hB6.block _ hlt5).trans hb5
    have hBw6 := hBw5.trans (hB6.mono hBw5.size)
    have bx6 := (hB6.block _ (Array.getElem?_eq_some_iff.1 bx5).1).trans bx5
    have HL2 : Hid _ := loadP6 h9 (CellsAt.pfx h9 bx6).1
    obtain ⟨wE, hst, bE, honE⟩ := box_store Tryz.sizeOf26 hb6R rfl (cp6 A n) (cp6_length A n h9) (cp6_one A n)
    have HLV : Hid _ := loadVarP6 h9 (CellsAt.pfx h9 bE).1
    have HBE : Hid (Below w.heap.size w wE) := hBw6.trans (honE.below (Nat.le_refl _))
    have HSQ : Hid _ := hst
    clear hst bE honE hb6R hBw6 bx6 hB6 HCK
    go_wp2_with first
      | ((with_reducible show wpList _ _ _ _ _ _); refine armL (.tmp 10) 26 rfl rfl rfl HL2.out ?_)
      | ((with_reducible show wpList _ _ _ _ _ _); refine armS (.tmp 2) (.tmp 59) 26 rfl rfl rfl rfl HSQ.out ?_)
    refine bodyPost_ret (res3c Tryz.results129 rfl HLV.out) rfl ?_
    rw [← HQ.out]
    exact ⟨rfl, HBE.out⟩
  · refine wp_allocA (d := some 10) 26 rfl rfl (v := .pointer (some ⟨w4.drew.heap.size, 0, none⟩)) (w2 := w4.drew.alloc (.cells zero17V.toArray 26)) (by simp [execOp, go_sem]) ?_
    refine ⟨bx3a, ?_⟩
    simp only [Act.put, List.setIfInBounds_toArray, List.set_cons_zero, List.set_cons_succ]
    refine all_one (i := 2) (by kernel_rfl) rfl rfl ?_
    refine wp_call (d := some 52) 162 _ rfl (by kernel_rfl) (HNUM.out _) ?_
    rintro _ _ ⟨rfl, rfl⟩
    refine ⟨bx3a, ?_⟩
    simp only [Act.put, List.setIfInBounds_toArray, List.set_cons_zero, List.set_cons_succ]
    refine take_one (i := 3) (d := some 53) (v := (P6 A n)) rfl rfl rfl (by kernel_rfl) (by kernel_rfl) (by kernel_rfl) (fun _ _ d _ _ h => by cases d <;> exact h) (fun W hS => ex_buildA 26 [(0, .tmp 50), (1, .tmp 52)] rfl rfl (build6 A n h9 _)) bx3a ?_
    simp only [Act.put, List.setIfInBounds_toArray, List.set_cons_zero, List.set_cons_succ]
    refine all_one (i := 5) (by kernel_rfl) rfl rfl ?_
    refine wp_storeA (.tmp 10) (.tmp 53) 26 rfl rfl rfl rfl HS5.out ?_
    refine ⟨hb6, ?_⟩
    refine wpAnyH_done (by kernel_rfl) ?_ _
    go_wp2_with ((with_reducible show wpList _ _ _ _ _ _); refine armL (.tmp 10) 26 rfl rfl rfl HLP.out ?_)
    refine (HCK.out w5).mono ?_
    rintro e w6 ⟨rfl, hB6⟩
    have hlt5 : w.heap.size < w5.heap.size := (Array.getElem?_eq_some_iff.1 hb5).1
    have hb6R := (hB6.block _ hlt5).trans hb5
    have hBw6 := hBw5.trans (hB6.mono hBw5.size)
    have bx6 := (hB6.block _ (Array.getElem?_eq_some_iff.1 bx5).1).trans bx5
    have HL2 : Hid _ := loadP6 h9 (CellsAt.pfx h9 bx6).1
    obtain ⟨wE, hst, bE, honE⟩ := box_store Tryz.sizeOf26 hb6R rfl (cp6 A n) (cp6_length A n h9) (cp6_one A n)
    have HLV : Hid _ := loadVarP6 h9 (CellsAt.pfx h9 bE).1
    have HBE : Hid (Below w.heap.size w wE) := hBw6.trans (honE.below (Nat.le_refl _))
    have HSQ : Hid _ := hst
    clear hst bE honE hb6R hBw6 bx6 hB6 HCK
    go_wp2_with first
      | ((with_reducible show wpList _ _ _ _ _ _); refine armL (.tmp 10) 26 rfl rfl rfl HL2.out ?_)
      | ((with_reducible show wpList _ _ _ _ _ _); refine armS (.tmp 2) (.tmp 59) 26 rfl rfl rfl rfl HSQ.out ?_)
    refine bodyPost_ret (res3c Tryz.results129 rfl HLV.out) rfl ?_
    rw [← HQ.out]
    exact ⟨rfl, HBE.out⟩

end Go.Proofs.YtaebknkjhhcneaaGreatDoor
