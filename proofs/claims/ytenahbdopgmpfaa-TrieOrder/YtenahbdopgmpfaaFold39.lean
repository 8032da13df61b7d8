/-
  TrieRuns; tables that are made.
  Operations that came in; TrieRuns at every argument.
-/
import Derived.Test.YtenahbdopgmpfaaFold38
import Derived.Deep.Slices
namespace Go.Proofs.Ytenahbdopgmpfaa
open Go Go.RowKit Go.Shelf
set_option linter.unusedVariables false
set_option linter.unusedSimpArgs false

theorem step_any {p b : Nat} {lim : Int} {l4 l6 : List Ent} {v4 v6 : Value} {W : World} (hp : p < b) (ht : TBL p lim l4 l6 W) (hd : Doc b lim l4 l6 v4 v6 W) (hc : LC lim l4 l6) (o : OpD) (hi : o.In) :
    Calls Try.prog 11 #[.pointer (some ⟨p, 0, none⟩), .pointer (some ⟨b, 0, none⟩), .agg o.c.toArray] W fun e w' => StepP p b lim W e w' := by
  by_cases h1 : o.kd = 1
  · exact step_put4 hp ht hd hc o hi h1
  by_cases h2 : o.kd = 2
  · exact step_put6 hp ht hd hc o hi h2
  by_cases h3 : o.kd = 3
  · exact step_del4 hp ht hd hc o hi h3
  by_cases h4 : o.kd = 4
  · exact step_del6 hp ht hd hc o hi h4
  by_cases h5 : o.kd = 5
  · exact step_get4 hp ht hd hc o hi h5
  by_cases h6 : o.kd = 6
  · exact step_get6 hp ht hd hc o hi h6
  by_cases h7 : o.kd = 7
  · exact step_best4 hp ht hd hc o hi h7
  by_cases h8 : o.kd = 8
  · exact step_best6 hp ht hd hc o hi h8
  by_cases h9 : o.kd = 9
  · exact step_list hp ht hd hc o hi h9
  · exact step_other hp ht hd hc o hi (fun i _ _ => by
      rcases (by omega : i = 1 ∨ i = 2 ∨ i = 3 ∨ i = 4 ∨ i = 5 ∨ i = 6 ∨ i = 7 ∨ i = 8 ∨ i = 9) with rfl | rfl | rfl | rfl | rfl | rfl | rfl | rfl | rfl <;> assumption)
/-- Operations that a slice holds. -/
def OpsAt (W : World) (v : Value) (os : List OpD) : Prop :=
  ∃ ad cap, v = .slice ad os.length cap ∧ os.length ≤ cap ∧ cap ≤ maxLen ∧ (os ≠ [] → ∃ g off, ad = some ⟨g, off, none⟩ ∧ g < W.heap.size ∧ ∀ (j : Nat) o, os[j]? = some o → CellsAt W g (off + j * 44) o.c)
theorem OpD.len {o : OpD} (hi : o.In) : o.c.length = 44 := by simp [OpD.c, opC, cp6, u8s, hi.kl, hi.kq, hi.ka, hi.kb]
theorem OpsAt.load {W W' : World} {v : Value} {os : List OpD} (h : OpsAt W v os) (hi : ∀ o ∈ os, o.In) (hb : Below W.heap.size W W') {k : Nat} {o : OpD} (ho : os[k]? = some o) : ∃ g off cap, v = .slice (some ⟨g, off, none⟩) os.length cap ∧ os.length ≤ cap ∧ cap ≤ maxLen ∧ (Instr.loadAt 41 (.pointer (some ⟨g, off + k * 44, none⟩))).run Try.prog W' = .ok (.agg o.c.toArray) W' := by
  obtain ⟨ad, cap, e, h1, h2, h3⟩ := h
  obtain ⟨g, off, e1, hg, hc⟩ := h3 (fun e0 => by rw [e0] at ho; simp at ho)
  refine ⟨g, off, cap, by rw [e, e1], h1, h2, agg_load (n := 44) (fun w => by kernel_rfl) (fun w => by kernel_rfl) (OpD.len (hi o (List.mem_of_getElem? ho))) (fun i u hu => ?_)⟩
  exact (hb.cell (p := ⟨g, _, none⟩) hg).trans (hc k o ho i u hu)
theorem TBL.new {p : Nat} {lim : Int} {W : World} (h : W.heap[p]? = some (.cells (tbC true lim 0 .nil .nil).toArray 76)) : TBL p lim [] [] W := ⟨.nil, .nil, rfl, rfl, trivial, trivial, trivial, trivial, h⟩
theorem LC.new {lim : Int} (h : 0 ≤ lim ∧ lim ≤ 65536) : LC lim [] [] := ⟨by simp [Srt], by simp [Srt], by simp, by simp, by simpa using h.1, h.2⟩
/-- A table of both sides, behind steps. -/
def InvR (p b : Nat) (lim : Int) (W0 wr : World) : Prop := ∃ l4 l6 u4 u6, TBL p lim l4 l6 wr ∧ Doc b lim l4 l6 u4 u6 wr ∧ LC lim l4 l6 ∧ Below W0.heap.size W0 wr
def MadeP (lim : Int) (W : World) (e : Ending) (w' : World) : Prop := (¬ (0 ≤ lim ∧ lim ≤ 65536) ∧ e = .returned (.tuple #[.pointer none, .pointer none, .bool true]) ∧ Below W.heap.size W w') ∨ ((0 ≤ lim ∧ lim ≤ 65536) ∧ ∃ p b, e = .returned (.tuple #[.pointer (some ⟨p, 0, none⟩), .pointer (some ⟨b, 0, none⟩), .bool true]) ∧ W.heap.size ≤ p ∧ p < b ∧ InvR p b lim W w')
set_option maxHeartbeats 8000000 in
set_option maxRecDepth 100000 in
theorem trieRuns_walk {W : World} {v : Value} {os : List OpD} (lim : Int) (hlim : -9223372036854775808 ≤ lim ∧ lim ≤ 9223372036854775807) (ho : OpsAt W v os) (hi : ∀ o ∈ os, o.In) :
    Calls Try.prog 3 #[.int .i64 lim, v] W fun e w' => e = .returned (.bool true) ∧ Below W.heap.size W w' := by
  generalize hQ : (fun (e : Ending) (w' : World) => e = .returned (.bool true) ∧ Below W.heap.size W w') = Q
  have HQ : Hid (∀ e w', (e = .returned (.bool true) ∧ Below W.heap.size W w') → Q e w') := fun e w' hh => by rw [← hQ]; exact hh
  clear hQ
  have HO : Hid (OpsAt W v os) := ho
  have HI : Hid (∀ o ∈ os, o.In) := hi
  have hsl : ∃ x n m, v = .slice x n m := by obtain ⟨ad, cap, e, _⟩ := ho; exact ⟨_, _, _, e⟩
  have hll : os.length ≤ maxLen := by obtain ⟨ad, cap, e, h1, h2, _⟩ := ho; omega
  have hlm : (os.length : Int) ≤ 9223372036854775807 := by unfold maxLen at hll; omega
  clear ho hi hll
  by_cases hg : 0 ≤ lim ∧ lim ≤ 65536
  · go_enter Try.func3, Try.ntmps3
    go_wp2_with fail
    refine Calls.mono (New_good lim hg W) ?_
    rintro e w1 ⟨rfl, ht1, hb1, hs1⟩
    have HT1 : Hid (w1.heap[W.heap.size]? = some (.cells (tbC true lim 0 .nil .nil).toArray 76)) := ht1
    have HB1 : Hid (Below W.heap.size W w1) := hb1
    have HS1 : Hid (W.heap.size < w1.heap.size) := hs1
    clear ht1 hb1 hs1
    go_wp2_with fail
    refine Calls.mono (RNew_good lim hg w1) ?_
    rintro e w2 ⟨rfl, hd2, hb2⟩
    have HD2 : Hid (Doc w1.heap.size lim [] [] (.slice none 0 0) (.slice none 0 0) w2) := hd2
    have HT2 : Hid (TBL W.heap.size lim [] [] w2) := TBL.new ((hb2.block _ HS1.out).trans HT1.out)
    have HB2 : Hid (Below W.heap.size W w2) := HB1.out.trans (hb2.mono HB1.out.size)
    clear hd2 hb2 HT1 HB1
    go_wp2_with fail
    refine Calls.mono (awake_any w2) ?_
    rintro e w3 ⟨rfl, hb3⟩
    have HT3 : Hid (TBL W.heap.size lim [] [] w3) := HT2.out.on (hb3.block _ HT2.out.lt)
    have HD3 : Hid (Doc w1.heap.size lim [] [] (.slice none 0 0) (.slice none 0 0) w3) := HD2.out.on hb3
    have HB3 : Hid (Below W.heap.size W w3) := HB2.out.trans (hb3.mono HB2.out.size)
    clear hb3 HT2 HD2 HB2
    go_wp2
    go_loopw [9] (fun i wr => ∃ k : Nat, k ≤ os.length ∧ i = .int .i64 k ∧ InvR W.heap.size w1.heap.size lim W wr) (fun i _ => os.length - (intOf i).toNat)
    case atStart => exact ⟨0, Nat.zero_le _, rfl, [], [], _, _, HT3.out, HD3.out, LC.new hg, HB3.out⟩
    case round =>
      obtain ⟨k, hk, rfl, hinv⟩ := hrel
      have HK : Hid (k ≤ os.length) := hk
      have HV : Hid (InvR W.heap.size w1.heap.size lim W wr) := hinv
      clear hinv
      by_cases hlt : k < os.length
      · by_cases h1 : k < 100
        · obtain ⟨o, ho⟩ : ∃ o, os[k]? = some o := ⟨_, List.getElem?_eq_getElem hlt⟩
          obtain ⟨l4, l6, u4, u6, ht, hd, hc, hb⟩ := HV.out
          obtain ⟨g, off, cap, rfl, hcap, hmx, hld⟩ := HO.out.load HI.out hb ho
          have HLD : Hid _ := hld
          have HST : Hid _ := step_any HS1.out ht hd hc o (HI.out o (List.mem_of_getElem? ho))
          have HB : Hid (Below W.heap.size W wr) := hb
          have q1 : decide ((k : Int) < os.length) = true := by simpa using hlt
          have q2 : decide ((k : Int) < 100) = true := decide_eq_true (by omega)
          have w9 : IntKind.i64.wrap ((k : Int) + 1) = (k : Int) + 1 := wrap_i64 _ ⟨by omega, by omega⟩
          have HLT : Hid (k < os.length) := hlt
          clear ht hd hc hb hld ho
          generalize o.c = CC at *
          go_wp2_with first
            | ((with_reducible show wpList _ _ _ ({ dst := _, op := Op.load 41 (Operand.tmp 52), type := _, pos := _, after := _, guard := _ } :: _) _ _); refine armLv (.tmp 52) 41 rfl rfl rfl HLD.out ?_)
          refine Calls.mono HST.out ?_
          rintro e w5 ⟨rfl, l4', l6', z4, z6, ht5, hd5, hc5, hb5⟩
          have HT5 : Hid (TBL W.heap.size lim l4' l6' w5) := ht5
          have HD5 : Hid (Doc w1.heap.size lim l4' l6' z4 z6 w5) := hd5
          have HC5 : Hid (LC lim l4' l6') := hc5
          have HB5 : Hid (Below W.heap.size W w5) := HB.out.trans hb5
          clear ht5 hd5 hc5 hb5 HLD HST HB
          go_wp2_with fail
          refine Calls.mono (same_any HT5.out HD5.out HC5.out) ?_
          rintro e w6 ⟨rfl, hb6⟩
          have HV6 : Hid (InvR W.heap.size w1.heap.size lim W w6) := ⟨l4', l6', z4, z6, HT5.out.on (hb6.block _ HT5.out.lt), HD5.out.on hb6, HC5.out, HB5.out.trans (hb6.mono HB5.out.size)⟩
          clear hb6 HT5 HD5 HC5 HB5
          go_wp2
          go_roundw
          case rel => exact ⟨k + 1, HLT.out, rfl, HV6.out⟩
          case measure => show os.length - (k + 1) < os.length - k; have := HLT.out; omega
        · have q2 : decide ((k : Int) < 100) = false := decide_eq_false (by omega)
          have q1 : decide ((k : Int) < os.length) = true := by simpa using hlt
          obtain ⟨ad, cap, rfl, _, _, _⟩ := HO.out
          go_wp2
          try go_ret2
          exact HQ.out _ _ ⟨rfl, (by obtain ⟨_, _, _, _, _, _, _, hb⟩ := HV.out; exact hb)⟩
      · obtain rfl : k = os.length := by omega
        obtain ⟨ad, cap, rfl, _, _, _⟩ := HO.out
        go_wp2
        try go_ret2
        exact HQ.out _ _ ⟨rfl, (by obtain ⟨_, _, _, _, _, _, _, hb⟩ := HV.out; exact hb)⟩
  · obtain ⟨x, n, m, rfl⟩ := hsl
    go_enter Try.func3, Try.ntmps3
    go_wp2_with fail
    refine Calls.mono (New_bad lim (by omega) hlim W) ?_
    rintro e w1 ⟨rfl, rfl⟩
    go_wp2_with fail
    refine Calls.mono (RNew_bad lim (by omega) w1) ?_
    rintro e w2 ⟨rfl, rfl⟩
    go_wp2_with fail
    refine Calls.mono (awake_any w2) ?_
    rintro e w3 ⟨rfl, hb3⟩
    have HB3 : Hid (Below w2.heap.size w2 w3) := hb3
    clear hb3
    go_wp2
    go_loopw [9] (fun i wr => i = .int .i64 0 ∧ wr = w3) (fun _ _ => 0)
    case atStart => exact ⟨rfl, rfl⟩
    case round =>
      obtain ⟨rfl, rfl⟩ := hrel
      go_wp2
      try go_ret2
      exact HQ.out _ _ ⟨rfl, HB3.out⟩
end Go.Proofs.Ytenahbdopgmpfaa

namespace Go.Proofs.Ytenahbdopgmpfaa
open Go Go.RowKit
set_option linter.unusedVariables false
set_option linter.unusedSimpArgs false
open Go.ChangeShapes Go.WideShapes Go.ChangeAt

theorem bnd64T {a : Int} (h : (Lit.int .i64 a).wf = true) : -9223372036854775808 ≤ a ∧ a ≤ 9223372036854775807 := by
  have e : IntKind.i64.min = -9223372036854775808 := rfl
  have h2 : IntKind.i64.min ≤ a ∧ a ≤ 9223372036854775807 := by simpa [Lit.wf] using h
  rwa [e] at h2
section
variable {H : Type} {enc : TypeId × Value → H} {W : World} {fuel : Nat} {cs : List Value} {x : DataW H × List MemPlace}
theorem cells_p6T (h : DataW.trod enc Try.prog W 0 (fun _ => true) true fuel 39 cs = some x) : ∃ l n, cs = cp6 l n ∧ FitB l ∧ l.length = 16 ∧ (-9223372036854775808 ≤ n ∧ n ≤ 9223372036854775807) := by
  obtain ⟨y0, y1, m, _, hl, h0, h1⟩ := Go.ChangeShapes.trod_struct2 Try.underlying39 h
  have c17 : Try.prog.cellsOf 39 = 17 := by kernel_rfl
  rw [c17] at hl
  have h0' : DataW.trod enc Try.prog W 0 (fun _ => true) true m 37 ((cs.drop 0).take (Try.prog.cellsOf 37)) = some y0 := h0
  have h1' : DataW.trod enc Try.prog W 0 (fun _ => true) true m 3 ((cs.drop 16).take (Try.prog.cellsOf 3)) = some y1 := h1
  rw [show Try.prog.cellsOf 37 = 16 by kernel_rfl] at h0'
  rw [show Try.prog.cellsOf 3 = 1 by kernel_rfl] at h1'
  obtain ⟨zs, hzl, hcs, hfit⟩ := cells_arr Try.underlying37 (by kernel_rfl) (by kernel_rfl) h0'
  obtain ⟨n, hn, _, wf⟩ := DataW.trod_int Try.underlying3 h1'
  refine ⟨zs, n, ?_, hfit, hzl, bnd64T wf⟩
  have e : cs = (cs.drop 0).take 16 ++ (cs.drop 16).take 1 := by
    rw [List.take_of_length_le (l := cs.drop 16) (by simp; omega)]
    simp
  rw [e, hcs, hn]
  rfl
theorem cells_p4T (h : DataW.trod enc Try.prog W 0 (fun _ => true) true fuel 35 cs = some x) : ∃ l n, cs = cp6 l n ∧ FitB l ∧ l.length = 4 ∧ (-9223372036854775808 ≤ n ∧ n ≤ 9223372036854775807) := by
  obtain ⟨y0, y1, m, _, hl, h0, h1⟩ := Go.ChangeShapes.trod_struct2 Try.underlying35 h
  have c17 : Try.prog.cellsOf 35 = 5 := by kernel_rfl
  rw [c17] at hl
  have h0' : DataW.trod enc Try.prog W 0 (fun _ => true) true m 33 ((cs.drop 0).take (Try.prog.cellsOf 33)) = some y0 := h0
  have h1' : DataW.trod enc Try.prog W 0 (fun _ => true) true m 3 ((cs.drop 4).take (Try.prog.cellsOf 3)) = some y1 := h1
  rw [show Try.prog.cellsOf 33 = 4 by kernel_rfl] at h0'
  rw [show Try.prog.cellsOf 3 = 1 by kernel_rfl] at h1'
  obtain ⟨zs, hzl, hcs, hfit⟩ := cells_arr Try.underlying33 (by kernel_rfl) (by kernel_rfl) h0'
  obtain ⟨n, hn, _, wf⟩ := DataW.trod_int Try.underlying3 h1'
  refine ⟨zs, n, ?_, hfit, hzl, bnd64T wf⟩
  have e : cs = (cs.drop 0).take 4 ++ (cs.drop 4).take 1 := by
    rw [List.take_of_length_le (l := cs.drop 4) (by simp; omega)]
    simp
  rw [e, hcs, hn]
  rfl
end
set_option maxRecDepth 100000 in
theorem cells_op {H : Type} {enc : TypeId × Value → H} {W : World} {fuel : Nat} {L : List Value} {x : DataW H × List MemPlace} (hf : DataW.trod enc Try.prog W 0 (fun _ => true) true fuel 41 L = some x) : ∃ o : OpD, L = o.c ∧ o.In := by
  obtain ⟨xs, m, _, hx, hl, hxl, hi⟩ := DataW.trod_struct Try.underlying41 hf
  rw [show Try.prog.cellsOf 41 = 44 by kernel_rfl] at hl
  obtain ⟨x0, x1, x2, x3, x4, x5, rfl⟩ := list6 hxl
  have g0 : DataW.trod enc Try.prog W 0 (fun _ => true) true m 3 ((L.drop 0).take 1) = some x0 := by
    have e : DataW.trod enc Try.prog W 0 (fun _ => true) true m 3 ((L.drop 0).take (Try.prog.cellsOf 3)) = some x0 := hi 0 _ rfl
    rwa [show Try.prog.cellsOf 3 = 1 by kernel_rfl] at e
  have g1 : DataW.trod enc Try.prog W 0 (fun _ => true) true m 35 ((L.drop 1).take 5) = some x1 := by
    have e : DataW.trod enc Try.prog W 0 (fun _ => true) true m 35 ((L.drop 1).take (Try.prog.cellsOf 35)) = some x1 := hi 1 _ rfl
    rwa [show Try.prog.cellsOf 35 = 5 by kernel_rfl] at e
  have g2 : DataW.trod enc Try.prog W 0 (fun _ => true) true m 39 ((L.drop 6).take 17) = some x2 := by
    have e : DataW.trod enc Try.prog W 0 (fun _ => true) true m 39 ((L.drop 6).take (Try.prog.cellsOf 39)) = some x2 := hi 2 _ rfl
    rwa [show Try.prog.cellsOf 39 = 17 by kernel_rfl] at e
  have g3 : DataW.trod enc Try.prog W 0 (fun _ => true) true m 33 ((L.drop 23).take 4) = some x3 := by
    have e : DataW.trod enc Try.prog W 0 (fun _ => true) true m 33 ((L.drop 23).take (Try.prog.cellsOf 33)) = some x3 := hi 3 _ rfl
    rwa [show Try.prog.cellsOf 33 = 4 by kernel_rfl] at e
  have g4 : DataW.trod enc Try.prog W 0 (fun _ => true) true m 37 ((L.drop 27).take 16) = some x4 := by
    have e : DataW.trod enc Try.prog W 0 (fun _ => true) true m 37 ((L.drop 27).take (Try.prog.cellsOf 37)) = some x4 := hi 4 _ rfl
    rwa [show Try.prog.cellsOf 37 = 16 by kernel_rfl] at e
  have g5 : DataW.trod enc Try.prog W 0 (fun _ => true) true m 3 ((L.drop 43).take 1) = some x5 := by
    have e : DataW.trod enc Try.prog W 0 (fun _ => true) true m 3 ((L.drop 43).take (Try.prog.cellsOf 3)) = some x5 := hi 5 _ rfl
    rwa [show Try.prog.cellsOf 3 = 1 by kernel_rfl] at e
  obtain ⟨kd, e0, _, f0⟩ := DataW.trod_int Try.underlying3 g0
  obtain ⟨l, n, e1, f1, k1, b1⟩ := cells_p4T g1
  obtain ⟨lq, m2, e2, f2, k2, b2⟩ := cells_p6T g2
  obtain ⟨A, lA, e3, fA⟩ := cells_arr Try.underlying33 (by kernel_rfl) (by kernel_rfl) g3
  obtain ⟨B, lB, e4, fB⟩ := cells_arr Try.underlying37 (by kernel_rfl) (by kernel_rfl) g4
  obtain ⟨z, e5, _, f5⟩ := DataW.trod_int Try.underlying3 g5
  have hall := split44 hl
  rw [e0, e1, e2, e3, e4, e5] at hall
  exact ⟨⟨kd, l, n, lq, m2, A, B, z⟩, hall, ⟨f1, k1, b1, f2, k2, b2, fA, lA, fB, lB⟩⟩
theorem choose_listT {P : Nat → OpD → Prop} : ∀ n : Nat, (∀ i, i < n → ∃ r, P i r) → ∃ rs : List OpD, rs.length = n ∧ ∀ j r, rs[j]? = some r → P j r
  | 0, _ => ⟨[], rfl, fun j r h => by simp at h⟩
  | n + 1, h => by
    obtain ⟨rs, hl, hp⟩ := choose_listT n (fun i hi => h i (by omega))
    obtain ⟨r, hr⟩ := h n (by omega)
    refine ⟨rs ++ [r], by simp [hl], fun j x hj => ?_⟩
    rw [List.getElem?_append] at hj
    split at hj
    · exact hp j x hj
    · rename_i hge
      have : j = n := by
        have := (List.getElem?_eq_some_iff.1 hj).1
        simp at this
        omega
      subst this
      rw [hl, Nat.sub_self] at hj
      cases hj
      exact hr

set_option maxRecDepth 100000 in
theorem cells_ops {H : Type} {enc : TypeId × Value → H} {W : World} {fuel : Nat} {cs : List Value} {x : DataW H × List MemPlace} (h : DataW.trod enc Try.prog W 0 (fun _ => true) true fuel 22 cs = some x) : ∃ (v : Value) (rs : List OpD), cs = [v] ∧ OpsAt W v rs ∧ ∀ r ∈ rs, r.In := by
  rcases Go.Deep.open_slice Try.underlying22 h with ⟨rfl, _⟩ | ⟨a, len, cap, m, n, D, Pl, rfl, _, hl, hm, hmm, _, hx⟩
  · exact ⟨_, [], rfl, ⟨none, 0, rfl, Nat.le_refl _, by decide, fun hne => absurd rfl hne⟩, fun r hr => by cases hr⟩
  · have hmc : m = cap := by rw [hmm]; rfl
    have c44 : Try.prog.cellsOf 41 = 44 := by kernel_rfl
    rw [c44] at hx
    have each : ∀ i, i < len → ∃ r   : OpD, r.In ∧ ∀ (j : Nat) u, r.c[j]? = some u → W.cell? ((a.add (i * 44)).add j) = some u := fun i hi => by
      obtain ⟨cs', h1, h2⟩ := hx i (by omega)
      obtain ⟨r, hr, hin⟩ := cells_op h2
      obtain ⟨_, hlen, hcell⟩ := World.cells?_some h1
      refine ⟨r, hin, fun j u hj => ?_⟩
      have hj44 := (List.getElem?_eq_some_iff.1 hj).1
      rw [OpD.len hin] at hj44
      rw [hcell j hj44, hr]
      exact hj
    obtain ⟨rs, hrl, hp⟩ := choose_listT len each
    refine ⟨_, rs, rfl, ⟨some a, cap, by rw [hrl], by omega, hm, fun hne => ?_⟩, fun r hr => ?_⟩
    · obtain ⟨r0, h0⟩ : ∃ r0, rs[0]? = some r0 := ⟨_, List.getElem?_eq_getElem (List.length_pos_iff.2 hne)⟩
      have hc0 := (hp 0 r0 h0).2 0 _ (List.getElem?_eq_getElem (by rw [OpD.len (hp 0 r0 h0).1]; omega))
      obtain ⟨g, off, s⟩ := a
      have hs : s = none := by simpa [Addr.add] using World.cell?_spot hc0
      subst hs
      refine ⟨g, off, rfl, World.block_lt_of_cell? W _ hc0, fun j r hj i u hi => ?_⟩
      have := (hp j r hj).2 i u hi
      rw [Go.WideShapes.add_plain, Go.WideShapes.add_plain] at this
      exact this
    · obtain ⟨j, hj⟩ := List.getElem?_of_mem hr
      exact (hp j r hj).1

set_option maxRecDepth 100000 in
theorem open_ops {H : Type} {enc : TypeId × Value → H} {W : World} {base : Nat} {v : Value} {d : DataW H} {p : List MemPlace} (o : Value.okWide Try.prog W .any base 22 v) (h : DataW.Trod enc Try.prog W 0 (fun _ => true) true 22 v d p) : ∃ os, OpsAt W v os ∧ ∀ o ∈ os, o.In := by
  obtain ⟨a, len, cap, rfl⟩ := okWide_slice Try.underlying22 o
  obtain ⟨fuel, hf⟩ := h
  obtain ⟨v, os, hv, h1, h2⟩ := cells_ops hf
  have : v = .slice a len cap := by
    have e : (Value.slice a len cap).cells.toList = [Value.slice a len cap] := rfl
    rw [e] at hv
    injection hv with hv
    exact hv.symm
  subst this
  exact ⟨os, h1, h2⟩
set_option maxRecDepth 100000 in
theorem trieRuns_open {H : Type} {enc : TypeId × Value → H} {W : World} {base : Nat} (v0 v1 : Value) {d0 d1 : DataW H} {p0 p1 : List MemPlace}
    (o0 : Value.okWide Try.prog W .any base 3 v0) (h0 : DataW.Trod enc Try.prog W 0 (fun _ => true) true 3 v0 d0 p0) (z0 : ∀ k ∈ d0.weights Try.prog 3, k ≤ reachBytes)
    (o1 : Value.okWide Try.prog W .any base 22 v1) (h1 : DataW.Trod enc Try.prog W 0 (fun _ => true) true 22 v1 d1 p1) (z1 : ∀ k ∈ d1.weights Try.prog 22, k ≤ reachBytes) :
    Calls Try.prog 3 #[v0, v1] W fun e w' => e = .returned (.bool true) ∧ Below W.heap.size W w' := by
  obtain ⟨k, rfl, _, _, wk⟩ := open_int Try.underlying3 o0 h0
  obtain ⟨os, ho, hi⟩ := open_ops o1 h1
  exact trieRuns_walk k (bnd64T wk) ho hi
end Go.Proofs.Ytenahbdopgmpfaa
