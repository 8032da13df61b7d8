/-
  Regions that draw, by hand.
  The document's Parse6, where nothing stands behind the last colon.
  The document's Parse6, of any text.
-/
import Derived.Test.YtlpbffcijhgelaaDoorQbx
import Derived.OrdersHeld
import Derived.Test.YtlpbffcijhgelaaDoorFold06
namespace Go.Proofs.YtlpbffcijhgelaaDoor
open Go Go.RowKit
set_option linter.unusedVariables false
set_option linter.unusedSimpArgs false

theorem wpOp_none {P : Program} {ops : Array Oper} {i : Nat} {o : Oper} {K : Act → World → Prop} {Q : Exit → Act → World → Prop} {a : Act} {w : World} (hi : ops[i]? = some o) (hg : o.guard = none) (h : o.wp P a w K Q) : wpOp P ops Q i K a w := by
  unfold wpOp
  rw [hi]
  simp only
  rw [if_pos (by simp [Region.wanted, hg])]
  exact .inl h

theorem all_one {P : Program} {ops : Array Oper} {Q : Exit → Act → World → Prop} {md : Region.Mode} {S : World → Prop} {i : Nat} {o : Oper} {fuel : Nat} {listed : Array Bool} {a : Act} {w : World} (hr : Region.ready md ops listed = [i]) (hi : ops[i]? = some o) (hg : o.guard = none)
    (h : o.wp P a w (fun a' w' => S w' ∧ wpAnyH P md ops Q S fuel (listed.setIfInBounds i true) a' w') Q) : wpAnyH P md ops Q S (fuel + 1) listed a w := by
  refine wpAnyH_all (rs := [i]) hr (by simp) ?_
  intro j hj
  obtain rfl : j = i := by simpa using hj
  exact wpOp_none hi hg h

theorem all_two {P : Program} {ops : Array Oper} {Q : Exit → Act → World → Prop} {md : Region.Mode} {S : World → Prop} {i1 i2 : Nat} {o1 o2 : Oper} {fuel : Nat} {listed : Array Bool} {a : Act} {w : World} (hr : Region.ready md ops listed = [i1, i2]) (h1 : ops[i1]? = some o1) (g1 : o1.guard = none) (h2 : ops[i2]? = some o2) (g2 : o2.guard = none)
    (k1 : o1.wp P a w (fun a' w' => S w' ∧ wpAnyH P md ops Q S fuel (listed.setIfInBounds i1 true) a' w') Q) (k2 : o2.wp P a w (fun a' w' => S w' ∧ wpAnyH P md ops Q S fuel (listed.setIfInBounds i2 true) a' w') Q) : wpAnyH P md ops Q S (fuel + 1) listed a w := by
  refine wpAnyH_all (rs := [i1, i2]) hr (by simp) ?_
  intro j hj
  simp at hj
  rcases hj with rfl | rfl
  · exact wpOp_none h1 g1 k1
  · exact wpOp_none h2 g2 k2

theorem take_one {d : Option Nat} {P : Program} {ops : Array Oper} {Q : Exit → Act → World → Prop} {md : Region.Mode} {S : World → Prop} {i : Nat} {o : Oper} {v : Value} {fuel : Nat} {listed : Array Bool} {a : Act} {w : World} (hi : ops[i]? = some o) (hg : o.guard = none) (hd : o.dst = d)
    (hs : Region.noSelect ops = true) (hf : Region.free md ops listed i = true) (hr : (Region.ready md ops listed).contains i = true) (hQ : ∀ c (a : Act) d v w, Q (.panic c) (a.put d v) w → Q (.panic c) a w)
    (hy : ∀ w, S w → (execOp a.eval o).run P w = .ok (.value v) w) (hS : S w) (h : wpAnyH P md ops Q S fuel (listed.setIfInBounds i true) (a.put d v) w) : wpAnyH P md ops Q S (fuel + 1) listed a w :=
  wpAnyH_take hi hs hf hr (fun c a w q => hQ c a _ _ w q) (.inl ⟨by simp [Region.wanted, hg], hy⟩) hS (hd ▸ h)

theorem wp_call {P : Program} {o : Oper} {a : Act} {d : Option Nat} {w : World} {K : Act → World → Prop} {Q : Exit → Act → World → Prop} {R : Value → World → Prop} (f : FuncId) (vs : Array Value) (hd : o.dst = d)
    (hrun : (execOp a.eval o).run P w = .ok (.enter f vs) w) (hc : Calls P f vs w fun e w' => ∃ v, e = .returned v ∧ R v w') (hK : ∀ v w2, R v w2 → K (a.put d v) w2) : o.wp P a w K Q := by
  subst hd
  unfold Oper.wp
  rw [hrun]
  refine hc.mono ?_
  rintro e w' ⟨v, rfl, hr⟩
  exact hK v w' hr

theorem ex_loadA {P : Program} {o : Oper} {a : Act} {W : World} (k : Operand) (t : TypeId) {vp v : Value} (hop : o.op = Op.load t k) (hk : a.eval k = vp) (h : (Instr.loadAt t vp).run P W = .ok v W) : (execOp a.eval o).run P W = .ok (.value v) W := by
  simp [execOp, hop, hk, h, Result.andThen]
theorem ex_moveA {P : Program} {o : Oper} {a : Act} {W : World} (p : Operand) (hop : o.op = Op.move p) {v : Value} (hp : a.eval p = v) : (execOp a.eval o).run P W = .ok (.value v) W := by
  generalize a.eval = ev at *
  simp [execOp, hop, hp, go_sem]
theorem ex_buildA {P : Program} {o : Oper} {a : Act} {W : World} (t : TypeId) (ps : List (Nat × Operand)) (hop : o.op = Op.build t ps.toArray) {vs : List (Nat × Value)} (hv : ps.map (fun p => (p.1, a.eval p.2)) = vs) {v : Value} (hrun : (Instr.build t vs.toArray).run P W = .ok v W) : (execOp a.eval o).run P W = .ok (.value v) W := by
  have e : (ps.toArray.map fun (i, x) => (i, a.eval x)) = vs.toArray := by
    rw [← hv]
    simp
  simp only [execOp, hop]
  rw [e]
  simp [hrun, Result.andThen]
theorem wp_storeA {P : Program} {o : Oper} {a : Act} {w w2 : World} {K : Act → World → Prop} {Q : Exit → Act → World → Prop} (p x : Operand) (t : TypeId) (hop : o.op = Op.store t p x) (hd : o.dst = none) {vp vx : Value} (hp : a.eval p = vp) (hx : a.eval x = vx) (hrun : (Instr.storeAt t vp vx).run P w = .ok () w2) (hK : K a w2) : o.wp P a w K Q := by
  have hK' : K (a.put o.dst (.tuple #[])) w2 := by rw [hd]; exact hK
  unfold Oper.wp
  simp [execOp, hop, hp, hx, hrun, Result.andThen]
  exact hK'
theorem wp_allocA {P : Program} {o : Oper} {a : Act} {d : Option Nat} {w : World} {K : Act → World → Prop} {Q : Exit → Act → World → Prop} (t : TypeId) (hop : o.op = Op.alloc t) (hd : o.dst = d) {v : Value} {w2 : World} (hrun : (execOp a.eval o).run P w = .ok (.value v) w2) (hK : K (a.put d v) w2) : o.wp P a w K Q := by
  subst hd
  unfold Oper.wp
  rw [hrun]
  exact hK

end Go.Proofs.YtlpbffcijhgelaaDoor

namespace Go.Proofs.YtlpbffcijhgelaaDoor
set_option linter.unusedVariables false
set_option linter.unusedSimpArgs false
open Go Go.RowKit

abbrev zero16 : List Int := [0, 0, 0, 0, 0, 0, 0, 0, 0, 0, 0, 0, 0, 0, 0, 0]

abbrev zero16V : List Value := [.int .u8 0, .int .u8 0, .int .u8 0, .int .u8 0, .int .u8 0, .int .u8 0, .int .u8 0, .int .u8 0, .int .u8 0, .int .u8 0, .int .u8 0, .int .u8 0, .int .u8 0, .int .u8 0, .int .u8 0, .int .u8 0]
theorem zero16V_one : ∀ v ∈ zero16V, v.oneCell' = true := b8_one zero16

def byK (g : List Int) (k : Nat) : List Int := ((g.take k).map (fun z => [z / 256, z % 256])).flatten ++ List.replicate (16 - 2 * k) 0

theorem list8 {l : List Int} (h : l.length = 8) : ∃ a b c d e f g i, l = [a, b, c, d, e, f, g, i] := by
  match l, h with
  | [a, b, c, d, e, f, g, i], _ => exact ⟨a, b, c, d, e, f, g, i, rfl⟩

/-- An IPv6 address that a parser answers, the place of its fault, and its error. -/
def Par6 (r : List Int × Int × Int) : Value := .tuple #[.agg (b8 r.1).toArray, .int .i64 r.2.1, .int .i64 r.2.2]

def Par6Post (r : List Int × Int × Int) (w : World) (e : Ending) (w' : World) : Prop := e = .returned (Par6 r) ∧ Below w.heap.size w w'

set_option maxHeartbeats 4000000 in
set_option maxRecDepth 100000 in
theorem Parse6_gap (s : ByteArray) (L : List Int) (w : World) (hrd : ∀ W, Calls Tryd.prog 57 #[.string s] W fun e w' => Read6Post s W e w') (hL : read6 (txt s) s.size 0 ⟨[], -1, []⟩ = (⟨L, (L.length : Int), []⟩, s.size)) (h7 : L.length ≤ 7) (hz : ∀ z ∈ L, 0 ≤ z ∧ z < 65536) :
    Calls Tryd.prog 19 #[.string s] w fun e w' => Par6Post (byK (L ++ List.replicate (8 - L.length) 0) 8, 0, 0) w e w' := by
  generalize hQ : (fun e w' => Par6Post (byK (L ++ List.replicate (8 - L.length) 0) 8, 0, 0) w e w') = Q
  have HQ : Hid _ := hQ
  clear hQ
  have hb0 := blk_new w (.cells zero16V.toArray 31)
  have hB0 := (Below.refl w.heap.size w).alloc (Nat.le_refl _) (.cells zero16V.toArray 31)
  have hz0 : (w.alloc (.cells zero16V.toArray 31)).heap.size = w.heap.size + 1 := by simp
  have HZ0 : Hid _ := hz0
  have HRD : Hid _ := hrd
  clear hrd hz0
  go_enter Tryd.func19, Tryd.ntmps19
  go_wp2_with fail
  generalize hW : w.alloc (.cells zero16V.toArray 31) = W0 at *
  clear hW
  refine (HRD.out W0).mono ?_
  rintro e w1 ⟨v, p, rfl, hrow, hp, hB1⟩
  rw [hL] at hrow hp ⊢
  simp only at hrow hp ⊢
  have hpe : p = ⟨#[]⟩ := by
    have h0 := (txt_empty p).1 hp
    cases p with
    | mk d => simp only [ByteArray.size] at h0; simp [Array.size_eq_zero_iff.1 h0]
  subst hpe
  have hz0 := HZ0.out
  have hb1 := (hB1.block _ (by omega)).trans hb0
  have hBw1 := hB0.trans (hB1.mono (by omega))
  obtain ⟨a, cap, rfl, _⟩ := own_form hrow
  obtain ⟨w2, hst, bx2, hB2⟩ := box_new Tryd.sizeOf89 w1 (sixL (.slice none 0 0) 0 ⟨#[]⟩) rfl (sixL (.slice a L.length cap) (L.length : Int) ⟨#[]⟩) rfl (by simp [sixL, Value.oneCell'])
  have hrow2 := row_kept hrow (fun g _ hg => hB2.block g hg)
  have hwh := Whole6_empty s _ L _ w2 hrow2 h7
  have hb2 := (hB2.block _ (Nat.lt_of_lt_of_le (by omega) hB1.size)).trans hb1
  have hBw2 := hBw1.trans (hB2.mono hBw1.size)
  have HST : Hid _ := hst
  have HL6 : Hid _ := agg_load (t := 89) Tryd.isAgg89 Tryd.sizeOf89 rfl (CellsAt.of_blk bx2)
  have HWH : Hid _ := hwh
  have hlt2 : w.heap.size < w2.heap.size := Nat.lt_of_lt_of_le (by omega) (Nat.le_trans hB1.size hB2.size)
  clear hst hwh hrow hrow2 hp hb0 hB0 hz0 HZ0 HRD hb1 hBw1
  go_wp2_with first
    | ((with_reducible show wpList _ _ _ _ _ _); refine armS (.tmp 5) (.tmp 14) 89 rfl rfl rfl rfl HST.out ?_)
    | ((with_reducible show wpList _ _ _ _ _ _); refine armL (.tmp 5) 89 rfl rfl rfl HL6.out ?_)
  refine Calls.mono HWH.out ?_
  rintro e w3 ⟨v3, rfl, hrow3, hB3⟩
  have hb3 := (hB3.block _ hlt2).trans hb2
  have hBw3 := hBw2.trans (hB3.mono hBw2.size)
  generalize hG : L ++ List.replicate (8 - L.length) 0 = G at *
  have hG8 : G.length = 8 := by rw [← hG]; simp; omega
  have hGz : ∀ z ∈ G, 0 ≤ z ∧ z < 65536 := by
    intro z hh
    rw [← hG] at hh
    rcases List.mem_append.1 hh with hh | hh
    · exact hz z hh
    · have := List.eq_of_mem_replicate hh
      subst this
      decide
  clear hG
  obtain ⟨a3, cap3, rfl, _, hz3⟩ := own_form hrow3
  rw [hG8] at hz3
  rcases hz3 with hz3 | ⟨g, rfl, _, hg, hc⟩
  · omega
  obtain ⟨w4, hst4, b4, hB4⟩ := box_new Tryd.sizeOf31 w3 zero16V rfl zero16V rfl zero16V_one
  have HST4 : Hid _ := hst4
  have hb4 := (hB4.block _ (Nat.lt_of_lt_of_le hlt2 hB3.size)).trans hb3
  have hBw4 := hBw3.trans (hB4.mono hBw3.size)
  have hc4 : ∀ (j : Nat) u, (intsL G)[j]? = some u → w4.cell? ⟨g, j, none⟩ = some u := fun j u hj => (hB4.cell (p := ⟨g, j, none⟩) hg).trans (hc j u hj)
  have hlt3 : w.heap.size < w3.heap.size := Nat.lt_of_lt_of_le hlt2 hB3.size
  clear hst4 hrow3 hb2 hb3 hc hB3 hBw2 HWH HST HL6 bx2 hB2 hlt2
  rw [hG8]
  go_wp2_with ((with_reducible show wpList _ _ _ _ _ _); refine armS (.tmp 9) (.tmp 32) 31 rfl rfl rfl rfl HST4.out ?_)
  go_loopw [10] (fun i wr => ∃ k : Nat, k ≤ 8 ∧ i = .int .i64 k ∧ wr.heap[w3.heap.size]? = some (.cells (b8 (byK G k)).toArray 31) ∧ Only w3.heap.size w4 wr) (fun i _ => 8 - (intOf i).toNat)
  case atStart => exact ⟨0, Nat.zero_le _, rfl, b4, Only.refl _ _⟩
  case round =>
    obtain ⟨k, hk, rfl, hbk, hon⟩ := hrel
    by_cases hlt : k < 8
    · obtain ⟨z0, z1, z2, z3, z4, z5, z6, z7, rfl⟩ := list8 hG8
      have ff := blk_open hbk
      have hkk : k = 0 ∨ k = 1 ∨ k = 2 ∨ k = 3 ∨ k = 4 ∨ k = 5 ∨ k = 6 ∨ k = 7 := by omega
      have hcr : ∀ (j : Nat) u, (intsL [z0, z1, z2, z3, z4, z5, z6, z7])[j]? = some u → wr.cell? ⟨g, j, none⟩ = some u := fun j u hj => ((hon.below (B := w3.heap.size) (Nat.le_refl _)).cell (p := ⟨g, j, none⟩) hg).trans (hc4 j u hj)
      clear hc4 hG8 HQ
      rcases hkk with rfl | rfl | rfl | rfl | rfl | rfl | rfl | rfl
      · have hzk := hGz z0 (by simp)
        have r1 := hcr 0 _ rfl
        have r2 := blk_cell hbk (j := 0) rfl
        have r3 := blk_cell hbk (j := 1) rfl
        have HS : Hid _ := blk_set (blk_set hbk 0 (.int .u8 (z0 / 256))) 1 (.int .u8 (z0 % 256))
        have HO : Hid _ := ((hon.set 0 (.int .u8 (z0 / 256))).set 1 (.int .u8 (z0 % 256))).drew
        clear hcr hGz hk hlt
        go_wp2_with fail
        go_region
        go_wp2
        exact ⟨⟨1, by decide, by simp, HS.out, HO.out⟩, by simp [intOf]⟩
      · have hzk := hGz z1 (by simp)
        have r1 := hcr 1 _ rfl
        have r2 := blk_cell hbk (j := 2) rfl
        have r3 := blk_cell hbk (j := 3) rfl
        have HS : Hid _ := blk_set (blk_set hbk 2 (.int .u8 (z1 / 256))) 3 (.int .u8 (z1 % 256))
        have HO : Hid _ := ((hon.set 2 (.int .u8 (z1 / 256))).set 3 (.int .u8 (z1 % 256))).drew
        clear hcr hGz hk hlt
        go_wp2_with fail
        go_region
        go_wp2
        exact ⟨⟨2, by decide, by simp, HS.out, HO.out⟩, by simp [intOf]⟩
      · have hzk := hGz z2 (by simp)
        have r1 := hcr 2 _ rfl
        have r2 := blk_cell hbk (j := 4) rfl
        have r3 := blk_cell hbk (j := 5) rfl
        have HS : Hid _ := blk_set (blk_set hbk 4 (.int .u8 (z2 / 256))) 5 (.int .u8 (z2 % 256))
        have HO : Hid _ := ((hon.set 4 (.int .u8 (z2 / 256))).set 5 (.int .u8 (z2 % 256))).drew
        clear hcr hGz hk hlt
        go_wp2_with fail
        go_region
        go_wp2
        exact ⟨⟨3, by decide, by simp, HS.out, HO.out⟩, by simp [intOf]⟩
      · have hzk := hGz z3 (by simp)
        have r1 := hcr 3 _ rfl
        have r2 := blk_cell hbk (j := 6) rfl
        have r3 := blk_cell hbk (j := 7) rfl
        have HS : Hid _ := blk_set (blk_set hbk 6 (.int .u8 (z3 / 256))) 7 (.int .u8 (z3 % 256))
        have HO : Hid _ := ((hon.set 6 (.int .u8 (z3 / 256))).set 7 (.int .u8 (z3 % 256))).drew
        clear hcr hGz hk hlt
        go_wp2_with fail
        go_region
        go_wp2
        exact ⟨⟨4, by decide, by simp, HS.out, HO.out⟩, by simp [intOf]⟩
      · have hzk := hGz z4 (by simp)
        have r1 := hcr 4 _ rfl
        have r2 := blk_cell hbk (j := 8) rfl
        have r3 := blk_cell hbk (j := 9) rfl
        have HS : Hid _ := blk_set (blk_set hbk 8 (.int .u8 (z4 / 256))) 9 (.int .u8 (z4 % 256))
        have HO : Hid _ := ((hon.set 8 (.int .u8 (z4 / 256))).set 9 (.int .u8 (z4 % 256))).drew
        clear hcr hGz hk hlt
        go_wp2_with fail
        go_region
        go_wp2
        exact ⟨⟨5, by decide, by simp, HS.out, HO.out⟩, by simp [intOf]⟩
      · have hzk := hGz z5 (by simp)
        have r1 := hcr 5 _ rfl
        have r2 := blk_cell hbk (j := 10) rfl
        have r3 := blk_cell hbk (j := 11) rfl
        have HS : Hid _ := blk_set (blk_set hbk 10 (.int .u8 (z5 / 256))) 11 (.int .u8 (z5 % 256))
        have HO : Hid _ := ((hon.set 10 (.int .u8 (z5 / 256))).set 11 (.int .u8 (z5 % 256))).drew
        clear hcr hGz hk hlt
        go_wp2_with fail
        go_region
        go_wp2
        exact ⟨⟨6, by decide, by simp, HS.out, HO.out⟩, by simp [intOf]⟩
      · have hzk := hGz z6 (by simp)
        have r1 := hcr 6 _ rfl
        have r2 := blk_cell hbk (j := 12) rfl
        have r3 := blk_cell hbk (j := 13) rfl
        have HS : Hid _ := blk_set (blk_set hbk 12 (.int .u8 (z6 / 256))) 13 (.int .u8 (z6 % 256))
        have HO : Hid _ := ((hon.set 12 (.int .u8 (z6 / 256))).set 13 (.int .u8 (z6 % 256))).drew
        clear hcr hGz hk hlt
        go_wp2_with fail
        go_region
        go_wp2
        exact ⟨⟨7, by decide, by simp, HS.out, HO.out⟩, by simp [intOf]⟩
      · have hzk := hGz z7 (by simp)
        have r1 := hcr 7 _ rfl
        have r2 := blk_cell hbk (j := 14) rfl
        have r3 := blk_cell hbk (j := 15) rfl
        have HS : Hid _ := blk_set (blk_set hbk 14 (.int .u8 (z7 / 256))) 15 (.int .u8 (z7 % 256))
        have HO : Hid _ := ((hon.set 14 (.int .u8 (z7 / 256))).set 15 (.int .u8 (z7 % 256))).drew
        clear hcr hGz hk hlt
        go_wp2_with fail
        go_region
        go_wp2
        exact ⟨⟨8, by decide, by simp, HS.out, HO.out⟩, by simp [intOf]⟩
    · obtain rfl : k = 8 := by omega
      have hlb : (b8 (byK G 8)).length = 16 := by
        obtain ⟨z0, z1, z2, z3, z4, z5, z6, z7, rfl⟩ := list8 hG8
        rfl
      have hbR := ((hon.below (B := w3.heap.size) (Nat.le_refl _)).block _ hlt3).trans hb4
      have hBR : Below w.heap.size w wr := hBw4.trans (hon.below (by omega))
      have hL := agg_load (t := 31) Tryd.isAgg31 Tryd.sizeOf31 hlb (CellsAt.of_blk hbk)
      obtain ⟨wE, hst, bE, honE⟩ := box_store Tryd.sizeOf31 hbR rfl (b8 (byK G 8)) hlb (b8_one _)
      have hlv := agg_loadVar (t := 31) Tryd.isAgg31 Tryd.sizeOf31 hlb (CellsAt.of_blk bE)
      have HBE : Hid (Below w.heap.size w wE) := hBR.trans (honE.below (Nat.le_refl _))
      have HL : Hid _ := hL
      have HSQ : Hid _ := hst
      have HLV : Hid _ := hlv
      clear hL hst hlv bE honE hbR hBR hbk hon
      go_wp2_with first
        | ((with_reducible show wpList _ _ _ _ _ _); refine armL (.tmp 9) 31 rfl rfl rfl HL.out ?_)
        | ((with_reducible show wpList _ _ _ _ _ _); refine armS (.tmp 2) (.tmp 56) 31 rfl rfl rfl rfl HSQ.out ?_)
      refine bodyPost_ret (res3c Tryd.results19 rfl HLV.out) rfl ?_
      rw [← HQ.out]
      exact ⟨rfl, HBE.out⟩

end Go.Proofs.YtlpbffcijhgelaaDoor

namespace Go.Proofs.YtlpbffcijhgelaaDoor
set_option linter.unusedVariables false
set_option linter.unusedSimpArgs false
open Go Go.RowKit

set_option maxHeartbeats 4000000 in
set_option maxRecDepth 100000 in
theorem Parse6_good (s : ByteArray) (x : SixS) (G : List Int) (w : World) (hrd : ∀ W, Calls Tryd.prog 57 #[.string s] W fun e w' => Read6Post s W e w') (hL : read6 (txt s) s.size 0 ⟨[], -1, []⟩ = (x, s.size)) (hwf : ∀ (W : World) (v : Value) (p : ByteArray) (base : Nat), W.ownsRow base 3 1 v x.L.length (intsL x.L) → txt p = x.part → Calls Tryd.prog 58 #[.string s, .agg (sixL v x.gap p).toArray] W fun e w' => Whole6Post G true W e w') (hG8 : G.length = 8) (hGz : ∀ z ∈ G, 0 ≤ z ∧ z < 65536) :
    Calls Tryd.prog 19 #[.string s] w fun e w' => Par6Post (byK G 8, 0, 0) w e w' := by
  generalize hQ : (fun e w' => Par6Post (byK G 8, 0, 0) w e w') = Q
  have HQ : Hid _ := hQ
  clear hQ
  have hb0 := blk_new w (.cells zero16V.toArray 31)
  have hB0 := (Below.refl w.heap.size w).alloc (Nat.le_refl _) (.cells zero16V.toArray 31)
  have hz0 : (w.alloc (.cells zero16V.toArray 31)).heap.size = w.heap.size + 1 := by simp
  have HZ0 : Hid _ := hz0
  have HRD : Hid _ := hrd
  clear hrd hz0
  have HWF : Hid _ := hwf
  clear hwf
  go_enter Tryd.func19, Tryd.ntmps19
  go_wp2_with fail
  generalize hW : w.alloc (.cells zero16V.toArray 31) = W0 at *
  clear hW
  refine (HRD.out W0).mono ?_
  rintro e w1 ⟨v, p, rfl, hrow, hp, hB1⟩
  rw [hL] at hrow hp ⊢
  simp only at hrow hp ⊢
  have hz0 := HZ0.out
  have hb1 := (hB1.block _ (by omega)).trans hb0
  have hBw1 := hB0.trans (hB1.mono (by omega))
  obtain ⟨a, cap, rfl, _⟩ := own_form hrow
  obtain ⟨w2, hst, bx2, hB2⟩ := box_new Tryd.sizeOf89 w1 (sixL (.slice none 0 0) 0 ⟨#[]⟩) rfl (sixL (.slice a x.L.length cap) x.gap p) rfl (by simp [sixL, Value.oneCell'])
  have hrow2 := row_kept hrow (fun g _ hg => hB2.block g hg)
  have hwh := HWF.out w2 _ p _ hrow2 hp
  have hb2 := (hB2.block _ (Nat.lt_of_lt_of_le (by omega) hB1.size)).trans hb1
  have hBw2 := hBw1.trans (hB2.mono hBw1.size)
  have HST : Hid _ := hst
  have HL6 : Hid _ := agg_load (t := 89) Tryd.isAgg89 Tryd.sizeOf89 rfl (CellsAt.of_blk bx2)
  have HWH : Hid _ := hwh
  have hlt2 : w.heap.size < w2.heap.size := Nat.lt_of_lt_of_le (by omega) (Nat.le_trans hB1.size hB2.size)
  clear hst hwh hrow hrow2 hp hb0 hB0 hz0 HZ0 HRD hb1 hBw1
  go_wp2_with first
    | ((with_reducible show wpList _ _ _ _ _ _); refine armS (.tmp 5) (.tmp 14) 89 rfl rfl rfl rfl HST.out ?_)
    | ((with_reducible show wpList _ _ _ _ _ _); refine armL (.tmp 5) 89 rfl rfl rfl HL6.out ?_)
  refine Calls.mono HWH.out ?_
  rintro e w3 ⟨v3, rfl, hrow3, hB3⟩
  have hb3 := (hB3.block _ hlt2).trans hb2
  have hBw3 := hBw2.trans (hB3.mono hBw2.size)
  obtain ⟨a3, cap3, rfl, _, hz3⟩ := own_form hrow3
  rw [hG8] at hz3
  rcases hz3 with hz3 | ⟨g, rfl, _, hg, hc⟩
  · omega
  obtain ⟨w4, hst4, b4, hB4⟩ := box_new Tryd.sizeOf31 w3 zero16V rfl zero16V rfl zero16V_one
  have HST4 : Hid _ := hst4
  have hb4 := (hB4.block _ (Nat.lt_of_lt_of_le hlt2 hB3.size)).trans hb3
  have hBw4 := hBw3.trans (hB4.mono hBw3.size)
  have hc4 : ∀ (j : Nat) u, (intsL G)[j]? = some u → w4.cell? ⟨g, j, none⟩ = some u := fun j u hj => (hB4.cell (p := ⟨g, j, none⟩) hg).trans (hc j u hj)
  have hlt3 : w.heap.size < w3.heap.size := Nat.lt_of_lt_of_le hlt2 hB3.size
  clear hst4 hrow3 hb2 hb3 hc hB3 hBw2 HWH HST HL6 bx2 hB2 hlt2
  rw [hG8]
  go_wp2_with ((with_reducible show wpList _ _ _ _ _ _); refine armS (.tmp 9) (.tmp 32) 31 rfl rfl rfl rfl HST4.out ?_)
  go_loopw [10] (fun i wr => ∃ k : Nat, k ≤ 8 ∧ i = .int .i64 k ∧ wr.heap[w3.heap.size]? = some (.cells (b8 (byK G k)).toArray 31) ∧ Only w3.heap.size w4 wr) (fun i _ => 8 - (intOf i).toNat)
  case atStart => exact ⟨0, Nat.zero_le _, rfl, b4, Only.refl _ _⟩
  case round =>
    obtain ⟨k, hk, rfl, hbk, hon⟩ := hrel
    by_cases hlt : k < 8
    · obtain ⟨z0, z1, z2, z3, z4, z5, z6, z7, rfl⟩ := list8 hG8
      have ff := blk_open hbk
      have hkk : k = 0 ∨ k = 1 ∨ k = 2 ∨ k = 3 ∨ k = 4 ∨ k = 5 ∨ k = 6 ∨ k = 7 := by omega
      have hcr : ∀ (j : Nat) u, (intsL [z0, z1, z2, z3, z4, z5, z6, z7])[j]? = some u → wr.cell? ⟨g, j, none⟩ = some u := fun j u hj => ((hon.below (B := w3.heap.size) (Nat.le_refl _)).cell (p := ⟨g, j, none⟩) hg).trans (hc4 j u hj)
      clear hc4 hG8 HQ
      rcases hkk with rfl | rfl | rfl | rfl | rfl | rfl | rfl | rfl
      · have hzk := hGz z0 (by simp)
        have r1 := hcr 0 _ rfl
        have r2 := blk_cell hbk (j := 0) rfl
        have r3 := blk_cell hbk (j := 1) rfl
        have HS : Hid _ := blk_set (blk_set hbk 0 (.int .u8 (z0 / 256))) 1 (.int .u8 (z0 % 256))
        have HO : Hid _ := ((hon.set 0 (.int .u8 (z0 / 256))).set 1 (.int .u8 (z0 % 256))).drew
        clear hcr hGz hk hlt
        go_wp2_with fail
        go_region
        go_wp2
        exact ⟨⟨1, by decide, by simp, HS.out, HO.out⟩, by simp [intOf]⟩
      · have hzk := hGz z1 (by simp)
        have r1 := hcr 1 _ rfl
        have r2 := blk_cell hbk (j := 2) rfl
        have r3 := blk_cell hbk (j := 3) rfl
        have HS : Hid _ := blk_set (blk_set hbk 2 (.int .u8 (z1 / 256))) 3 (.int .u8 (z1 % 256))
        have HO : Hid _ := ((hon.set 2 (.int .u8 (z1 / 256))).set 3 (.int .u8 (z1 % 256))).drew
        clear hcr hGz hk hlt
        go_wp2_with fail
        go_region
        go_wp2
        exact ⟨⟨2, by decide, by simp, HS.out, HO.out⟩, by simp [intOf]⟩
      · have hzk := hGz z2 (by simp)
        have r1 := hcr 2 _ rfl
        have r2 := blk_cell hbk (j := 4) rfl
        have r3 := blk_cell hbk (j := 5) rfl
        have HS : Hid _ := blk_set (blk_set hbk 4 (.int .u8 (z2 / 256))) 5 (.int .u8 (z2 % 256))
        have HO : Hid _ := ((hon.set 4 (.int .u8 (z2 / 256))).set 5 (.int .u8 (z2 % 256))).drew
        clear hcr hGz hk hlt
        go_wp2_with fail
        go_region
        go_wp2
        exact ⟨⟨3, by decide, by simp, HS.out, HO.out⟩, by simp [intOf]⟩
      · have hzk := hGz z3 (by simp)
        have r1 := hcr 3 _ rfl
        have r2 := blk_cell hbk (j := 6) rfl
        have r3 := blk_cell hbk (j := 7) rfl
        have HS : Hid _ := blk_set (blk_set hbk 6 (.int .u8 (z3 / 256))) 7 (.int .u8 (z3 % 256))
        have HO : Hid _ := ((hon.set 6 (.int .u8 (z3 / 256))).set 7 (.int .u8 (z3 % 256))).drew
        clear hcr hGz hk hlt
        go_wp2_with fail
        go_region
        go_wp2
        exact ⟨⟨4, by decide, by simp, HS.out, HO.out⟩, by simp [intOf]⟩
      · have hzk := hGz z4 (by simp)
        have r1 := hcr 4 _ rfl
        have r2 := blk_cell hbk (j := 8) rfl
        have r3 := blk_cell hbk (j := 9) rfl
        have HS : Hid _ := blk_set (blk_set hbk 8 (.int .u8 (z4 / 256))) 9 (.int .u8 (z4 % 256))
        have HO : Hid _ := ((hon.set 8 (.int .u8 (z4 / 256))).set 9 (.int .u8 (z4 % 256))).drew
        clear hcr hGz hk hlt
        go_wp2_with fail
        go_region
        go_wp2
        exact ⟨⟨5, by decide, by simp, HS.out, HO.out⟩, by simp [intOf]⟩
      · have hzk := hGz z5 (by simp)
        have r1 := hcr 5 _ rfl
        have r2 := blk_cell hbk (j := 10) rfl
        have r3 := blk_cell hbk (j := 11) rfl
        have HS : Hid _ := blk_set (blk_set hbk 10 (.int .u8 (z5 / 256))) 11 (.int .u8 (z5 % 256))
        have HO : Hid _ := ((hon.set 10 (.int .u8 (z5 / 256))).set 11 (.int .u8 (z5 % 256))).drew
        clear hcr hGz hk hlt
        go_wp2_with fail
        go_region
        go_wp2
        exact ⟨⟨6, by decide, by simp, HS.out, HO.out⟩, by simp [intOf]⟩
      · have hzk := hGz z6 (by simp)
        have r1 := hcr 6 _ rfl
        have r2 := blk_cell hbk (j := 12) rfl
        have r3 := blk_cell hbk (j := 13) rfl
        have HS : Hid _ := blk_set (blk_set hbk 12 (.int .u8 (z6 / 256))) 13 (.int .u8 (z6 % 256))
        have HO : Hid _ := ((hon.set 12 (.int .u8 (z6 / 256))).set 13 (.int .u8 (z6 % 256))).drew
        clear hcr hGz hk hlt
        go_wp2_with fail
        go_region
        go_wp2
        exact ⟨⟨7, by decide, by simp, HS.out, HO.out⟩, by simp [intOf]⟩
      · have hzk := hGz z7 (by simp)
        have r1 := hcr 7 _ rfl
        have r2 := blk_cell hbk (j := 14) rfl
        have r3 := blk_cell hbk (j := 15) rfl
        have HS : Hid _ := blk_set (blk_set hbk 14 (.int .u8 (z7 / 256))) 15 (.int .u8 (z7 % 256))
        have HO : Hid _ := ((hon.set 14 (.int .u8 (z7 / 256))).set 15 (.int .u8 (z7 % 256))).drew
        clear hcr hGz hk hlt
        go_wp2_with fail
        go_region
        go_wp2
        exact ⟨⟨8, by decide, by simp, HS.out, HO.out⟩, by simp [intOf]⟩
    · obtain rfl : k = 8 := by omega
      have hlb : (b8 (byK G 8)).length = 16 := by
        obtain ⟨z0, z1, z2, z3, z4, z5, z6, z7, rfl⟩ := list8 hG8
        rfl
      have hbR := ((hon.below (B := w3.heap.size) (Nat.le_refl _)).block _ hlt3).trans hb4
      have hBR : Below w.heap.size w wr := hBw4.trans (hon.below (by omega))
      have hL := agg_load (t := 31) Tryd.isAgg31 Tryd.sizeOf31 hlb (CellsAt.of_blk hbk)
      obtain ⟨wE, hst, bE, honE⟩ := box_store Tryd.sizeOf31 hbR rfl (b8 (byK G 8)) hlb (b8_one _)
      have hlv := agg_loadVar (t := 31) Tryd.isAgg31 Tryd.sizeOf31 hlb (CellsAt.of_blk bE)
      have HBE : Hid (Below w.heap.size w wE) := hBR.trans (honE.below (Nat.le_refl _))
      have HL : Hid _ := hL
      have HSQ : Hid _ := hst
      have HLV : Hid _ := hlv
      clear hL hst hlv bE honE hbR hBR hbk hon
      go_wp2_with first
        | ((with_reducible show wpList _ _ _ _ _ _); refine armL (.tmp 9) 31 rfl rfl rfl HL.out ?_)
        | ((with_reducible show wpList _ _ _ _ _ _); refine armS (.tmp 2) (.tmp 56) 31 rfl rfl rfl rfl HSQ.out ?_)
      refine bodyPost_ret (res3c Tryd.results19 rfl HLV.out) rfl ?_
      rw [← HQ.out]
      exact ⟨rfl, HBE.out⟩

set_option maxHeartbeats 4000000 in
set_option maxRecDepth 100000 in
theorem Parse6_short (s : ByteArray) (x : SixS) (n : Nat) (w : World) (hrd : ∀ W, Calls Tryd.prog 57 #[.string s] W fun e w' => Read6Post s W e w') (hL : read6 (txt s) s.size 0 ⟨[], -1, []⟩ = (x, n)) (hn : n < s.size) (hs : s.size ≤ 140737488355328) :
    Calls Tryd.prog 19 #[.string s] w fun e w' => Par6Post (zero16, n, 20) w e w' := by
  generalize hQ : (fun e w' => Par6Post (zero16, n, 20) w e w') = Q
  have HQ : Hid _ := hQ
  clear hQ
  have hb0 := blk_new w (.cells zero16V.toArray 31)
  have hB0 := (Below.refl w.heap.size w).alloc (Nat.le_refl _) (.cells zero16V.toArray 31)
  have hz0 : (w.alloc (.cells zero16V.toArray 31)).heap.size = w.heap.size + 1 := by simp
  have HZ0 : Hid _ := hz0
  have HRD : Hid _ := hrd
  clear hrd hz0
  go_enter Tryd.func19, Tryd.ntmps19
  go_wp2_with fail
  generalize hW : w.alloc (.cells zero16V.toArray 31) = W0 at *
  clear hW
  refine (HRD.out W0).mono ?_
  rintro e w1 ⟨v, p, rfl, hrow, hp, hB1⟩
  rw [hL] at hrow hp ⊢
  simp only at hrow hp ⊢
  have hz0 := HZ0.out
  have hb1 := (hB1.block _ (by omega)).trans hb0
  have hBw1 := hB0.trans (hB1.mono (by omega))
  obtain ⟨a, cap, rfl, _⟩ := own_form hrow
  obtain ⟨w2, hst, bx2, hB2⟩ := box_new Tryd.sizeOf89 w1 (sixL (.slice none 0 0) 0 ⟨#[]⟩) rfl (sixL (.slice a x.L.length cap) x.gap p) rfl (by simp [sixL, Value.oneCell'])
  have hb2 := (hB2.block _ (Nat.lt_of_lt_of_le (by omega) hB1.size)).trans hb1
  have hBw2 := hBw1.trans (hB2.mono hBw1.size)
  have hlt2 : w.heap.size < w2.heap.size := Nat.lt_of_lt_of_le (by omega) (Nat.le_trans hB1.size hB2.size)
  have HST : Hid _ := hst
  obtain ⟨w4, hst4, b4, hB4⟩ := box_store Tryd.sizeOf31 hb2 rfl zero16V rfl zero16V_one
  have HST4 : Hid _ := hst4
  have HLV : Hid _ := agg_loadVar (t := 31) Tryd.isAgg31 Tryd.sizeOf31 rfl (CellsAt.of_blk b4)
  have HBE : Hid (Below w.heap.size w w4) := hBw2.trans (hB4.below (Nat.le_refl _))
  clear hst hrow hp hb0 hB0 hz0 HZ0 HRD hb1 hBw1 hst4 b4 hB4 bx2 hB2 hlt2 hb2 hBw2
  go_wp2_with first
    | ((with_reducible show wpList _ _ _ _ _ _); refine armS (.tmp 5) (.tmp 14) 89 rfl rfl rfl rfl HST.out ?_)
    | ((with_reducible show wpList _ _ _ _ _ _); refine armS (.tmp 2) (.tmp 20) 31 rfl rfl rfl rfl HST4.out ?_)
  refine bodyPost_ret (res3c Tryd.results19 rfl HLV.out) rfl ?_
  rw [← HQ.out]
  exact ⟨rfl, HBE.out⟩
set_option maxHeartbeats 4000000 in
set_option maxRecDepth 100000 in
theorem Parse6_half (s : ByteArray) (x : SixS) (n : Nat) (w : World) (hrd : ∀ W, Calls Tryd.prog 57 #[.string s] W fun e w' => Read6Post s W e w') (hL : read6 (txt s) s.size 0 ⟨[], -1, []⟩ = (x, n)) (hn : n = s.size) (hwf : ∀ (W : World) (v : Value) (p : ByteArray) (base : Nat), W.ownsRow base 3 1 v x.L.length (intsL x.L) → txt p = x.part → Calls Tryd.prog 58 #[.string s, .agg (sixL v x.gap p).toArray] W fun e w' => ∃ u, e = .returned (.tuple #[u, .bool false]) ∧ Below W.heap.size W w') (hs : s.size ≤ 140737488355328) :
    Calls Tryd.prog 19 #[.string s] w fun e w' => Par6Post (zero16, n, 20) w e w' := by
  generalize hQ : (fun e w' => Par6Post (zero16, n, 20) w e w') = Q
  have HQ : Hid _ := hQ
  clear hQ
  have hb0 := blk_new w (.cells zero16V.toArray 31)
  have hB0 := (Below.refl w.heap.size w).alloc (Nat.le_refl _) (.cells zero16V.toArray 31)
  have hz0 : (w.alloc (.cells zero16V.toArray 31)).heap.size = w.heap.size + 1 := by simp
  have HZ0 : Hid _ := hz0
  have HRD : Hid _ := hrd
  clear hrd hz0
  go_enter Tryd.func19, Tryd.ntmps19
  go_wp2_with fail
  generalize hW : w.alloc (.cells zero16V.toArray 31) = W0 at *
  clear hW
  refine (HRD.out W0).mono ?_
  rintro e w1 ⟨v, p, rfl, hrow, hp, hB1⟩
  rw [hL] at hrow hp ⊢
  simp only at hrow hp ⊢
  have hz0 := HZ0.out
  have hb1 := (hB1.block _ (by omega)).trans hb0
  have hBw1 := hB0.trans (hB1.mono (by omega))
  obtain ⟨a, cap, rfl, _⟩ := own_form hrow
  obtain ⟨w2, hst, bx2, hB2⟩ := box_new Tryd.sizeOf89 w1 (sixL (.slice none 0 0) 0 ⟨#[]⟩) rfl (sixL (.slice a x.L.length cap) x.gap p) rfl (by simp [sixL, Value.oneCell'])
  have hb2 := (hB2.block _ (Nat.lt_of_lt_of_le (by omega) hB1.size)).trans hb1
  have hBw2 := hBw1.trans (hB2.mono hBw1.size)
  have hlt2 : w.heap.size < w2.heap.size := Nat.lt_of_lt_of_le (by omega) (Nat.le_trans hB1.size hB2.size)
  have HST : Hid _ := hst
  have hrow2 := row_kept hrow (fun g _ hg => hB2.block g hg)
  have hwh := hwf w2 _ p _ hrow2 hp
  have HL6 : Hid _ := agg_load (t := 89) Tryd.isAgg89 Tryd.sizeOf89 rfl (CellsAt.of_blk bx2)
  have HWH : Hid _ := hwh
  clear hst hwh hrow hrow2 hp hb0 hB0 hz0 HZ0 HRD hb1 hBw1 hwf
  subst hn
  go_wp2_with first
    | ((with_reducible show wpList _ _ _ _ _ _); refine armS (.tmp 5) (.tmp 14) 89 rfl rfl rfl rfl HST.out ?_)
    | ((with_reducible show wpList _ _ _ _ _ _); refine armL (.tmp 5) 89 rfl rfl rfl HL6.out ?_)
  refine Calls.mono HWH.out ?_
  rintro e w3 ⟨v3, rfl, hB3⟩
  have hb3 := (hB3.block _ hlt2).trans hb2
  have hBw3 := hBw2.trans (hB3.mono hBw2.size)
  obtain ⟨w4, hst4, b4, hB4⟩ := box_store Tryd.sizeOf31 hb3 rfl zero16V rfl zero16V_one
  have HST4 : Hid _ := hst4
  have HLV : Hid _ := agg_loadVar (t := 31) Tryd.isAgg31 Tryd.sizeOf31 rfl (CellsAt.of_blk b4)
  have HBE : Hid (Below w.heap.size w w4) := hBw3.trans (hB4.below (Nat.le_refl _))
  clear hst4 b4 hB4 hb2 hb3 hB3 hBw2 hBw3 HWH HST HL6 bx2 hB2 hlt2
  go_wp2_with ((with_reducible show wpList _ _ _ _ _ _); refine armS (.tmp 2) (.tmp 30) 31 rfl rfl rfl rfl HST4.out ?_)
  refine bodyPost_ret (res3c Tryd.results19 rfl HLV.out) rfl ?_
  rw [← HQ.out]
  exact ⟨rfl, HBE.out⟩
end Go.Proofs.YtlpbffcijhgelaaDoor
