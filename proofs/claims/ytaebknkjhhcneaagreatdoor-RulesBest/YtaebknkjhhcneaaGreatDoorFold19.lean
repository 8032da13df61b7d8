/-
  readRule of a line that is one.
  psidBits, shared, anySet and Check of the program.
  Check, Ports and Count of the program.
  Ports and Count of the program; suffix, Shared and Check of the document.
-/
import Derived.Test.YtaebknkjhhcneaaGreatDoorFold12
import Derived.Test.YtaebknkjhhcneaaGreatDoorFold13
import Derived.Test.YtaebknkjhhcneaaGreatDoorFold18
namespace Go.Proofs.YtaebknkjhhcneaaGreatDoor
open Go Go.RowKit
set_option linter.unusedVariables false
set_option linter.unusedSimpArgs false

abbrev zeroQL : List Value := [.int .u8 0, .int .u8 0, .int .u8 0, .int .u8 0, .int .u8 0, .int .u8 0, .int .u8 0, .int .u8 0, .int .u8 0, .int .u8 0, .int .u8 0, .int .u8 0, .int .u8 0, .int .u8 0, .int .u8 0, .int .u8 0, .int .i64 0, .int .u8 0, .int .u8 0, .int .u8 0, .int .u8 0, .int .i64 0, .int .i64 0, .int .i64 0, .bool false]
/-- A rule that is being read, in a box of its own. -/
structure RdAt (w : World) (L : Nat) (num : Int) (ws : List (ByteArray × Int)) (beh : Int) (c : List Value) (W : World) : Prop where
  line : LineAt W L num ws beh
  r0 : W.heap[w.heap.size]? = some (.cells zeroQL.toArray 65)
  r1 : W.heap[w.heap.size + 1]? = some (.cells c.toArray 65)
  gr : w.grownBy W (some L)
  lt : L < w.heap.size

theorem RdAt.call {w W W' : World} {L : Nat} {num beh : Int} {ws ws' : List (ByteArray × Int)} {c : List Value} (h : RdAt w L num ws beh c W) (hL : LineAt W' L num ws' beh) (hG : W.grownBy W' (some L)) : RdAt w L num ws' beh c W' := by
  have hl := h.lt
  exact ⟨hL, (hG.block _ (Array.getElem?_eq_some_iff.1 h.r0).1 (fun e => by cases e; omega)).trans h.r0, (hG.block _ (Array.getElem?_eq_some_iff.1 h.r1).1 (fun e => by cases e; omega)).trans h.r1, Gr.trans h.gr hG, hl⟩

theorem RdAt.store {w W W' : World} {L : Nat} {num beh : Int} {ws : List (ByteArray × Int)} {c c' : List Value} (h : RdAt w L num ws beh c W) (ho : Only (w.heap.size + 1) W W') (hb : W'.heap[w.heap.size + 1]? = some (.cells c'.toArray 65)) : RdAt w L num ws beh c' W' := by
  have hl := h.lt
  obtain ⟨v, k1, k2⟩ := h.line
  refine ⟨⟨v, (ho.other L (by omega)).trans k1, k2.keep fun g cs hg => ho.other g (fun e => ?_)⟩, (ho.other _ (by omega)).trans h.r0, hb, ?_, hl⟩
  · rw [e, h.r1] at hg
    cases hg
  · exact ⟨ho.os.trans h.gr.os, ho.tape.trans h.gr.tape, ho.output.trans h.gr.output, Nat.le_trans h.gr.size (Nat.le_of_eq ho.size.symm), fun k hk hn => (ho.other k (by omega)).trans (h.gr.block k hk hn)⟩

theorem RdAt.set {w W : World} {L : Nat} {num beh : Int} {ws : List (ByteArray × Int)} {c : List Value} (h : RdAt w L num ws beh c W) (j : Nat) (v : Value) : RdAt w L num ws beh (c.set j v) (W.setCell ⟨w.heap.size + 1, j, none⟩ v) :=
  h.store ((Only.refl _ W).set j v) (blk_set h.r1 j v)

def ruleL (V6 V4 : List Value) (ea off : Int) (fmr : Bool) : List Value := V6 ++ (V4 ++ [.int .i64 ea, .int .i64 off, .bool fmr])
theorem rule_made (V6 V4 : List Value) (h6 : V6.length = 17) (h4 : V4.length = 5) (ea off : Int) (fmr : Bool) :
    (((V6 ++ (V4 ++ [Value.int .i64 0, Value.int .i64 0, Value.bool false])).set 22 (Value.int .i64 ea)).set 23 (Value.int .i64 off)).set 24 (Value.bool fmr) = ruleL V6 V4 ea off fmr := by
  unfold ruleL
  simp [List.set_append, h6, h4]


set_option maxRecDepth 100000 in
set_option maxHeartbeats 4000000 in
theorem readRule_fmr (L : Nat) (num beh : Int) (c0 c3 c5 c7 : Int) (x1 x2 x4 x6 : ByteArray × Int) (w : World)
    (h : LineAt w L num [(⟨#[114, 117, 108, 101]⟩, c0), x1, x2, (⟨#[101, 97]⟩, c3), x4, (⟨#[111, 102, 102, 115, 101, 116]⟩, c5), x6, (⟨#[102, 109, 114]⟩, c7)] beh)
    (V6 V4 : List Value) (h6 : V6.length = 17) (h4 : V4.length = 5) (o6 : ∀ v ∈ V6, v.oneCell' = true) (o4 : ∀ v ∈ V4, v.oneCell' = true)
    (p6 : ∀ W, Calls Tryz.prog 125 #[.string x1.1] W fun e w' => e = .returned (.tuple #[.agg V6.toArray, .int .i64 0, .int .i64 0]) ∧ Below W.heap.size W w')
    (p4 : ∀ W, Calls Tryz.prog 157 #[.string x2.1] W fun e w' => e = .returned (.tuple #[.agg V4.toArray, .int .i64 0, .int .i64 0]) ∧ Below W.heap.size W w')
    (ea off : Nat) (he : ea < 100) (hof : off < 100) (e1 : (⟨(Lib.decDigits ea).toArray⟩ : ByteArray) = x4.1) (e2 : x4.1.size ≤ 18) (e3 : Lib.atoi x4.1.data.toList = some (ea : Int)) (f1 : (⟨(Lib.decDigits off).toArray⟩ : ByteArray) = x6.1) (f2 : x6.1.size ≤ 18) (f3 : Lib.atoi x6.1.data.toList = some (off : Int)) :
    Calls Tryz.prog 126 #[.pointer (some ⟨L, 0, none⟩)] w fun e w' => LinePost (.agg (ruleL V6 V4 ea off true).toArray) L num [] beh w e w' := by
  generalize hQ : (fun e w' => LinePost (.agg (ruleL V6 V4 ea off true).toArray) L num [] beh w e w') = Q
  have HQ : Hid _ := hQ
  clear hQ
  have HP6 : Hid _ := p6
  have HP4 : Hid _ := p4
  have HEA : Hid _ := fun (W : World) ws k => count_small L num beh x4 ws W k ea he e1 e2 e3
  have HOF : Hid _ := fun (W : World) ws k => count_small L num beh x6 ws W k off hof f1 f2 f3
  clear p6 p4 e1 e2 e3 f1 f2 f3
  have hr1 := blk_new (w.alloc (.cells zeroQL.toArray 65)) (.cells zeroQL.toArray 65)
  have hz1 : (w.alloc (.cells zeroQL.toArray 65)).heap.size = w.heap.size + 1 := by simp
  rw [hz1] at hr1
  have hB0 : Below w.heap.size w ((w.alloc (.cells zeroQL.toArray 65)).alloc (.cells zeroQL.toArray 65)) := ((Below.refl _ w).alloc (Nat.le_refl _) _).alloc (by simp) _
  have hR0 : RdAt w L num _ beh zeroQL ((w.alloc (.cells zeroQL.toArray 65)).alloc (.cells zeroQL.toArray 65)) := ⟨h.below hB0, blk_alloc (blk_new w _) _, hr1, Gr.of_below hB0 _, h.lt⟩
  clear hr1 hz1 hB0 h
  generalize hW0 : (w.alloc (.cells zeroQL.toArray 65)).alloc (.cells zeroQL.toArray 65) = W0 at hR0
  have hW0' : (w.alloc (.cells #[.int .u8 0, .int .u8 0, .int .u8 0, .int .u8 0, .int .u8 0, .int .u8 0, .int .u8 0, .int .u8 0, .int .u8 0, .int .u8 0, .int .u8 0, .int .u8 0, .int .u8 0, .int .u8 0, .int .u8 0, .int .u8 0, .int .i64 0, .int .u8 0, .int .u8 0, .int .u8 0, .int .u8 0, .int .i64 0, .int .i64 0, .int .i64 0, .bool false] 65)).alloc (.cells #[.int .u8 0, .int .u8 0, .int .u8 0, .int .u8 0, .int .u8 0, .int .u8 0, .int .u8 0, .int .u8 0, .int .u8 0, .int .u8 0, .int .u8 0, .int .u8 0, .int .u8 0, .int .u8 0, .int .u8 0, .int .u8 0, .int .i64 0, .int .u8 0, .int .u8 0, .int .u8 0, .int .u8 0, .int .i64 0, .int .i64 0, .int .i64 0, .bool false] 65) = W0 := hW0
  have HR : Hid _ := hR0
  have HN : Hid _ := must_calls L num beh (⟨#[114, 117, 108, 101]⟩, c0) _ W0 hR0.line
  clear hW0 hR0
  go_enter Tryz.func126, Tryz.ntmps126
  go_wp2_with fail
  refine Calls.mono HN.out ?_
  rintro e w1 ⟨rfl, hL1, hG1⟩
  have R1 : Hid _ := RdAt.call HR.out hL1 hG1
  have HT : Hid _ := thing_Prefix6 L num beh x1 _ w1 hL1 V6 h6 o6 HP6.out
  clear HN HR hL1 hG1 HP6 hW0'
  go_wp2_with fail
  refine Calls.mono HT.out ?_
  rintro e w2 ⟨rfl, hL2, hG2⟩
  have hR2 := RdAt.call R1.out hL2 hG2
  obtain ⟨w3, hst3, hb3, ho3⟩ := box_part (o := 0) Tryz.sizeOf26 hR2.r1 V6 h6 (by decide) o6
  have hR3 := hR2.store ho3 hb3
  have HST : Hid _ := hst3
  have HT4 : Hid _ := thing_Prefix4 L num beh x2 _ w3 hR3.line V4 h4 o4 HP4.out
  have R3 : Hid _ := hR3
  clear HT R1 hL2 hG2 hR2 hst3 hb3 ho3 hR3 HP4
  go_wp2_with first
    | ((with_reducible show wpList _ _ _ _ _ _); refine armS (.tmp 8) (.tmp 7) 26 rfl rfl rfl rfl HST.out ?_)
  refine Calls.mono HT4.out ?_
  rintro e w4 ⟨rfl, hL4, hG4⟩
  have hR4 := RdAt.call R3.out hL4 hG4
  obtain ⟨w5, hst5, hb5, ho5⟩ := box_part (o := 17) Tryz.sizeOf63 hR4.r1 V4 h4 (by simp; omega) o4
  have hR5 := hR4.store (c' := V6 ++ (V4 ++ [.int .i64 0, .int .i64 0, .bool false])) ho5 (by
    rw [hb5]
    simp [h6, List.take_append, List.drop_append])
  have HST5 : Hid _ := hst5
  have HN5 : Hid _ := must_calls L num beh (⟨#[101, 97]⟩, c3) _ w5 hR5.line
  have R5 : Hid _ := hR5
  clear HT4 HST R3 hL4 hG4 hR4 hst5 hb5 ho5 hR5
  go_wp2_with first
    | ((with_reducible show wpList _ _ _ _ _ _); refine armS (.tmp 11) (.tmp 10) 63 rfl rfl rfl rfl HST5.out ?_)
  refine Calls.mono HN5.out ?_
  rintro e w6 ⟨rfl, hL6, hG6⟩
  have R6 : Hid _ := RdAt.call R5.out hL6 hG6
  have HC6 : Hid _ := HEA.out w6 _ hL6
  clear HN5 HST5 R5 hL6 hG6
  go_wp2_with fail
  refine Calls.mono HC6.out ?_
  rintro e w7 ⟨rfl, hL7, hG7⟩
  have hR7 := RdAt.call R6.out hL7 hG7
  have hlen7 : (V6 ++ (V4 ++ [Value.int .i64 0, .int .i64 0, .bool false])).length = 25 := by simp [h6, h4]
  have c22 : w7.cell? ⟨w.heap.size + 1, 22, none⟩ = some _ := blk_cell hR7.r1 (List.getElem?_eq_getElem (by omega))
  generalize (V6 ++ (V4 ++ [Value.int .i64 0, .int .i64 0, .bool false]))[22]'(by omega) = u22 at c22
  have f7 := fun j => blk_open hR7.r1 j
  have hR8 := hR7.set 22 (.int .i64 ea)
  have HN8 : Hid _ := must_calls L num beh (⟨#[111, 102, 102, 115, 101, 116]⟩, c5) _ _ hR8.line
  have R8 : Hid _ := hR8
  clear HC6 R6 hL7 hG7 hR7 hR8
  go_wp2_with fail
  refine Calls.mono HN8.out ?_
  rintro e w9 ⟨rfl, hL9, hG9⟩
  have R9 : Hid _ := RdAt.call R8.out hL9 hG9
  have HC9 : Hid _ := HOF.out w9 _ hL9
  clear HN8 R8 hL9 hG9 c22 f7
  go_wp2_with fail
  refine Calls.mono HC9.out ?_
  rintro e w10 ⟨rfl, hL10, hG10⟩
  have hR10 := RdAt.call R9.out hL10 hG10
  have hlen10 : ((V6 ++ (V4 ++ [Value.int .i64 0, .int .i64 0, .bool false])).set 22 (.int .i64 ea)).length = 25 := by simp [h6, h4]
  have c23 : w10.cell? ⟨w.heap.size + 1, 23, none⟩ = some _ := blk_cell hR10.r1 (List.getElem?_eq_getElem (by omega))
  generalize ((V6 ++ (V4 ++ [Value.int .i64 0, .int .i64 0, .bool false])).set 22 (.int .i64 ea))[23]'(by omega) = u23 at c23
  have f10 := fun j => blk_open hR10.r1 j
  have hR11 := hR10.set 23 (.int .i64 off)
  have HM : Hid _ := may_yes L num beh (⟨#[102, 109, 114]⟩, c7) _ _ hR11.line
  have R11 : Hid _ := hR11
  clear HC9 R9 hL10 hG10 hR10 hR11
  go_wp2_with fail
  refine Calls.mono HM.out ?_
  rintro e w12 ⟨rfl, hL12, hG12⟩
  have hR12 := RdAt.call R11.out hL12 hG12
  clear HM R11 hL12 hG12
  have hlen12 : (((V6 ++ (V4 ++ [Value.int .i64 0, .int .i64 0, .bool false])).set 22 (.int .i64 ea)).set 23 (.int .i64 off)).length = 25 := by simp [h6, h4]
  have c24 : w12.cell? ⟨w.heap.size + 1, 24, none⟩ = some _ := blk_cell hR12.r1 (List.getElem?_eq_getElem (by omega))
  generalize (((V6 ++ (V4 ++ [Value.int .i64 0, .int .i64 0, .bool false])).set 22 (.int .i64 ea)).set 23 (.int .i64 off))[24]'(by omega) = u24 at c24
  have f12 := fun j => blk_open hR12.r1 j
  have hR13 := hR12.set 24 (.bool true)
  rw [rule_made V6 V4 h6 h4 ea off true] at hR13
  have hrl : (ruleL V6 V4 ea off true).length = 25 := by unfold ruleL; simp [h6, h4]
  have hro : ∀ v ∈ ruleL V6 V4 ea off true, v.oneCell' = true := by
    intro v hv
    unfold ruleL at hv
    rcases List.mem_append.1 hv with hv | hv
    · exact o6 v hv
    · rcases List.mem_append.1 hv with hv | hv
      · exact o4 v hv
      · simp only [List.mem_cons, List.not_mem_nil, or_false] at hv
        rcases hv with rfl | rfl | rfl <;> rfl
  have HLD : Hid _ := agg_load (t := 65) (n := 25) (fun w => by kernel_rfl) (fun w => by kernel_rfl) hrl (CellsAt.blk hR13.r1)
  obtain ⟨w14, hst14, hb14, ho14⟩ := box_store (ty := 65) (n := 25) (fun w => by kernel_rfl) hR13.r0 rfl _ hrl hro
  have HST14 : Hid _ := hst14
  have HRES : Hid _ := agg_loadVar (t := 65) (n := 25) (fun w => by kernel_rfl) (fun w => by kernel_rfl) hrl (CellsAt.blk hb14)
  have R13 : Hid _ := hR13
  clear hst14 hR12 hR13
  go_wp2_with first
    | ((with_reducible show wpList _ _ _ _ _ _); refine armL (.tmp 3) 65 rfl rfl rfl HLD.out ?_)
    | ((with_reducible show wpList _ _ _ _ _ _); refine armS (.tmp 2) (.tmp 25) 65 rfl rfl rfl rfl HST14.out ?_)
  refine bodyPost_ret (res1c Tryz.results126 (R := ⟨w.heap.size, 0, none⟩) rfl HRES.out) rfl ?_
  rw [← HQ.out]
  obtain ⟨v, k1, k2⟩ := R13.out.line
  have hlt := R13.out.lt
  have hg13 := R13.out.gr
  refine ⟨rfl, ⟨v, (ho14.other L (by omega)).trans k1, k2.keep fun g cs hg => ho14.other g (fun e => ?_)⟩, ?_⟩
  · rw [e, R13.out.r0] at hg
    cases hg
  · exact ⟨ho14.os.trans hg13.os, ho14.tape.trans hg13.tape, ho14.output.trans hg13.output, Nat.le_trans hg13.size (Nat.le_of_eq ho14.size.symm), fun k hk hn => (ho14.other k (by omega)).trans (hg13.block k hk hn)⟩


set_option maxRecDepth 100000 in
set_option maxHeartbeats 4000000 in
theorem readRule_bmr (L : Nat) (num beh : Int) (c0 c3 c5 : Int) (x1 x2 x4 x6 : ByteArray × Int) (w : World)
    (h : LineAt w L num [(⟨#[114, 117, 108, 101]⟩, c0), x1, x2, (⟨#[101, 97]⟩, c3), x4, (⟨#[111, 102, 102, 115, 101, 116]⟩, c5), x6] beh)
    (V6 V4 : List Value) (h6 : V6.length = 17) (h4 : V4.length = 5) (o6 : ∀ v ∈ V6, v.oneCell' = true) (o4 : ∀ v ∈ V4, v.oneCell' = true)
    (p6 : ∀ W, Calls Tryz.prog 125 #[.string x1.1] W fun e w' => e = .returned (.tuple #[.agg V6.toArray, .int .i64 0, .int .i64 0]) ∧ Below W.heap.size W w')
    (p4 : ∀ W, Calls Tryz.prog 157 #[.string x2.1] W fun e w' => e = .returned (.tuple #[.agg V4.toArray, .int .i64 0, .int .i64 0]) ∧ Below W.heap.size W w')
    (ea off : Nat) (he : ea < 100) (hof : off < 100) (e1 : (⟨(Lib.decDigits ea).toArray⟩ : ByteArray) = x4.1) (e2 : x4.1.size ≤ 18) (e3 : Lib.atoi x4.1.data.toList = some (ea : Int)) (f1 : (⟨(Lib.decDigits off).toArray⟩ : ByteArray) = x6.1) (f2 : x6.1.size ≤ 18) (f3 : Lib.atoi x6.1.data.toList = some (off : Int)) :
    Calls Tryz.prog 126 #[.pointer (some ⟨L, 0, none⟩)] w fun e w' => LinePost (.agg (ruleL V6 V4 ea off false).toArray) L num [] beh w e w' := by
  generalize hQ : (fun e w' => LinePost (.agg (ruleL V6 V4 ea off false).toArray) L num [] beh w e w') = Q
  have HQ : Hid _ := hQ
  clear hQ
  have HP6 : Hid _ := p6
  have HP4 : Hid _ := p4
  have HEA : Hid _ := fun (W : World) ws k => count_small L num beh x4 ws W k ea he e1 e2 e3
  have HOF : Hid _ := fun (W : World) ws k => count_small L num beh x6 ws W k off hof f1 f2 f3
  clear p6 p4 e1 e2 e3 f1 f2 f3
  have hr1 := blk_new (w.alloc (.cells zeroQL.toArray 65)) (.cells zeroQL.toArray 65)
  have hz1 : (w.alloc (.cells zeroQL.toArray 65)).heap.size = w.heap.size + 1 := by simp
  rw [hz1] at hr1
  have hB0 : Below w.heap.size w ((w.alloc (.cells zeroQL.toArray 65)).alloc (.cells zeroQL.toArray 65)) := ((Below.refl _ w).alloc (Nat.le_refl _) _).alloc (by simp) _
  have hR0 : RdAt w L num _ beh zeroQL ((w.alloc (.cells zeroQL.toArray 65)).alloc (.cells zeroQL.toArray 65)) := ⟨h.below hB0, blk_alloc (blk_new w _) _, hr1, Gr.of_below hB0 _, h.lt⟩
  clear hr1 hz1 hB0 h
  generalize hW0 : (w.alloc (.cells zeroQL.toArray 65)).alloc (.cells zeroQL.toArray 65) = W0 at hR0
  have hW0' : (w.alloc (.cells #[.int .u8 0, .int .u8 0, .int .u8 0, .int .u8 0, .int .u8 0, .int .u8 0, .int .u8 0, .int .u8 0, .int .u8 0, .int .u8 0, .int .u8 0, .int .u8 0, .int .u8 0, .int .u8 0, .int .u8 0, .int .u8 0, .int .i64 0, .int .u8 0, .int .u8 0, .int .u8 0, .int .u8 0, .int .i64 0, .int .i64 0, .int .i64 0, .bool false] 65)).alloc (.cells #[.int .u8 0, .int .u8 0, .int .u8 0, .int .u8 0, .int .u8 0, .int .u8 0, .int .u8 0, .int .u8 0, .int .u8 0, .int .u8 0, .int .u8 0, .int .u8 0, .int .u8 0, .int .u8 0, .int .u8 0, .int .u8 0, .int .i64 0, .int .u8 0, .int .u8 0, .int .u8 0, .int .u8 0, .int .i64 0, .int .i64 0, .int .i64 0, .bool false] 65) = W0 := hW0
  have HR : Hid _ := hR0
  have HN : Hid _ := must_calls L num beh (⟨#[114, 117, 108, 101]⟩, c0) _ W0 hR0.line
  clear hW0 hR0
  go_enter Tryz.func126, Tryz.ntmps126
  go_wp2_with fail
  refine Calls.mono HN.out ?_
  rintro e w1 ⟨rfl, hL1, hG1⟩
  have R1 : Hid _ := RdAt.call HR.out hL1 hG1
  have HT : Hid _ := thing_Prefix6 L num beh x1 _ w1 hL1 V6 h6 o6 HP6.out
  clear HN HR hL1 hG1 HP6 hW0'
  go_wp2_with fail
  refine Calls.mono HT.out ?_
  rintro e w2 ⟨rfl, hL2, hG2⟩
  have hR2 := RdAt.call R1.out hL2 hG2
  obtain ⟨w3, hst3, hb3, ho3⟩ := box_part (o := 0) Tryz.sizeOf26 hR2.r1 V6 h6 (by decide) o6
  have hR3 := hR2.store ho3 hb3
  have HST : Hid _ := hst3
  have HT4 : Hid _ := thing_Prefix4 L num beh x2 _ w3 hR3.line V4 h4 o4 HP4.out
  have R3 : Hid _ := hR3
  clear HT R1 hL2 hG2 hR2 hst3 hb3 ho3 hR3 HP4
  go_wp2_with first
    | ((with_reducible show wpList _ _ _ _ _ _); refine armS (.tmp 8) (.tmp 7) 26 rfl rfl rfl rfl HST.out ?_)
  refine Calls.mono HT4.out ?_
  rintro e w4 ⟨rfl, hL4, hG4⟩
  have hR4 := RdAt.call R3.out hL4 hG4
  obtain ⟨w5, hst5, hb5, ho5⟩ := box_part (o := 17) Tryz.sizeOf63 hR4.r1 V4 h4 (by simp; omega) o4
  have hR5 := hR4.store (c' := V6 ++ (V4 ++ [.int .i64 0, .int .i64 0, .bool false])) ho5 (by
    rw [hb5]
    simp [h6, List.take_append, List.drop_append])
  have HST5 : Hid _ := hst5
  have HN5 : Hid _ := must_calls L num beh (⟨#[101, 97]⟩, c3) _ w5 hR5.line
  have R5 : Hid _ := hR5
  clear HT4 HST R3 hL4 hG4 hR4 hst5 hb5 ho5 hR5
  go_wp2_with first
    | ((with_reducible show wpList _ _ _ _ _ _); refine armS (.tmp 11) (.tmp 10) 63 rfl rfl rfl rfl HST5.out ?_)
  refine Calls.mono HN5.out ?_
  rintro e w6 ⟨rfl, hL6, hG6⟩
  have R6 : Hid _ := RdAt.call R5.out hL6 hG6
  have HC6 : Hid _ := HEA.out w6 _ hL6
  clear HN5 HST5 R5 hL6 hG6
  go_wp2_with fail
  refine Calls.mono HC6.out ?_
  rintro e w7 ⟨rfl, hL7, hG7⟩
  have hR7 := RdAt.call R6.out hL7 hG7
  have hlen7 : (V6 ++ (V4 ++ [Value.int .i64 0, .int .i64 0, .bool false])).length = 25 := by simp [h6, h4]
  have c22 : w7.cell? ⟨w.heap.size + 1, 22, none⟩ = some _ := blk_cell hR7.r1 (List.getElem?_eq_getElem (by omega))
  generalize (V6 ++ (V4 ++ [Value.int .i64 0, .int .i64 0, .bool false]))[22]'(by omega) = u22 at c22
  have f7 := fun j => blk_open hR7.r1 j
  have hR8 := hR7.set 22 (.int .i64 ea)
  have HN8 : Hid _ := must_calls L num beh (⟨#[111, 102, 102, 115, 101, 116]⟩, c5) _ _ hR8.line
  have R8 : Hid _ := hR8
  clear HC6 R6 hL7 hG7 hR7 hR8
  go_wp2_with fail
  refine Calls.mono HN8.out ?_
  rintro e w9 ⟨rfl, hL9, hG9⟩
  have R9 : Hid _ := RdAt.call R8.out hL9 hG9
  have HC9 : Hid _ := HOF.out w9 _ hL9
  clear HN8 R8 hL9 hG9 c22 f7
  go_wp2_with fail
  refine Calls.mono HC9.out ?_
  rintro e w10 ⟨rfl, hL10, hG10⟩
  have hR10 := RdAt.call R9.out hL10 hG10
  have hlen10 : ((V6 ++ (V4 ++ [Value.int .i64 0, .int .i64 0, .bool false])).set 22 (.int .i64 ea)).length = 25 := by simp [h6, h4]
  have c23 : w10.cell? ⟨w.heap.size + 1, 23, none⟩ = some _ := blk_cell hR10.r1 (List.getElem?_eq_getElem (by omega))
  generalize ((V6 ++ (V4 ++ [Value.int .i64 0, .int .i64 0, .bool false])).set 22 (.int .i64 ea))[23]'(by omega) = u23 at c23
  have f10 := fun j => blk_open hR10.r1 j
  have hR11 := hR10.set 23 (.int .i64 off)
  have HM : Hid _ := may_no L num beh ⟨#[102, 109, 114]⟩ _ hR11.line
  have R11 : Hid _ := hR11
  clear HC9 R9 hL10 hG10 hR10 hR11
  go_wp2_with fail
  refine Calls.mono HM.out ?_
  rintro e w12 ⟨rfl, hw12⟩
  have hR12 := R11.out
  rw [← hw12] at hR12
  clear HM R11 hw12
  have hlen12 : (((V6 ++ (V4 ++ [Value.int .i64 0, .int .i64 0, .bool false])).set 22 (.int .i64 ea)).set 23 (.int .i64 off)).length = 25 := by simp [h6, h4]
  have c24 : w12.cell? ⟨w.heap.size + 1, 24, none⟩ = some _ := blk_cell hR12.r1 (List.getElem?_eq_getElem (by omega))
  generalize (((V6 ++ (V4 ++ [Value.int .i64 0, .int .i64 0, .bool false])).set 22 (.int .i64 ea)).set 23 (.int .i64 off))[24]'(by omega) = u24 at c24
  have f12 := fun j => blk_open hR12.r1 j
  have hR13 := hR12.set 24 (.bool false)
  rw [rule_made V6 V4 h6 h4 ea off false] at hR13
  have hrl : (ruleL V6 V4 ea off false).length = 25 := by unfold ruleL; simp [h6, h4]
  have hro : ∀ v ∈ ruleL V6 V4 ea off false, v.oneCell' = true := by
    intro v hv
    unfold ruleL at hv
    rcases List.mem_append.1 hv with hv | hv
    · exact o6 v hv
    · rcases List.mem_append.1 hv with hv | hv
      · exact o4 v hv
      · simp only [List.mem_cons, List.not_mem_nil, or_false] at hv
        rcases hv with rfl | rfl | rfl <;> rfl
  have HLD : Hid _ := agg_load (t := 65) (n := 25) (fun w => by kernel_rfl) (fun w => by kernel_rfl) hrl (CellsAt.blk hR13.r1)
  obtain ⟨w14, hst14, hb14, ho14⟩ := box_store (ty := 65) (n := 25) (fun w => by kernel_rfl) hR13.r0 rfl _ hrl hro
  have HST14 : Hid _ := hst14
  have HRES : Hid _ := agg_loadVar (t := 65) (n := 25) (fun w => by kernel_rfl) (fun w => by kernel_rfl) hrl (CellsAt.blk hb14)
  have R13 : Hid _ := hR13
  clear hst14 hR12 hR13
  go_wp2_with first
    | ((with_reducible show wpList _ _ _ _ _ _); refine armL (.tmp 3) 65 rfl rfl rfl HLD.out ?_)
    | ((with_reducible show wpList _ _ _ _ _ _); refine armS (.tmp 2) (.tmp 25) 65 rfl rfl rfl rfl HST14.out ?_)
  refine bodyPost_ret (res1c Tryz.results126 (R := ⟨w.heap.size, 0, none⟩) rfl HRES.out) rfl ?_
  rw [← HQ.out]
  obtain ⟨v, k1, k2⟩ := R13.out.line
  have hlt := R13.out.lt
  have hg13 := R13.out.gr
  refine ⟨rfl, ⟨v, (ho14.other L (by omega)).trans k1, k2.keep fun g cs hg => ho14.other g (fun e => ?_)⟩, ?_⟩
  · rw [e, R13.out.r0] at hg
    cases hg
  · exact ⟨ho14.os.trans hg13.os, ho14.tape.trans hg13.tape, ho14.output.trans hg13.output, Nat.le_trans hg13.size (Nat.le_of_eq ho14.size.symm), fun k hk hn => (ho14.other k (by omega)).trans (hg13.block k hk hn)⟩


end Go.Proofs.YtaebknkjhhcneaaGreatDoor

namespace Go.Proofs.YtaebknkjhhcneaaGreatDoor
open Go Go.RowKit
set_option linter.unusedVariables false
set_option linter.unusedSimpArgs false

theorem armLg {P : Program} {w : World} {ops : Array Oper} {rest : List Oper} {o : Oper} {a : Act} {Q : Exit → Act → World → Prop} (p : Operand) (t : TypeId) (hop : o.op = Op.load t p) (hw : Region.wanted o (yielded ops a.tmps) = true) {vp v : Value} (hp : a.eval p = vp) (hrun : (Instr.loadAt t vp).run P w = .ok v w) (hK : wpList P ops Q rest (a.put o.dst v) w) : wpList P ops Q (o :: rest) a w :=
  arm_load hw p t hop hp hrun hK

/-- A rule's box, in every world above. -/
structure RuHi (W : World) (b : Nat) (r : Ru) : Prop where
  ldR : ∀ x : Hi W, (Instr.loadAt 65 (.pointer (some ⟨b, 0, none⟩))).run Tryz.prog x.W = .ok (RV r) x.W
  la6 : ∀ x : Hi W, (Instr.loadAt 24 (.pointer (some ⟨b, 0, none⟩))).run Tryz.prog x.W = .ok (A6 r.l6) x.W
  la4 : ∀ x : Hi W, (Instr.loadAt 61 (.pointer (some ⟨b, 17, none⟩))).run Tryz.prog x.W = .ok (A4L r.l4) x.W
  c16 : ∀ x : Hi W, x.W.cell? ⟨b, 16, none⟩ = some (.int .i64 r.n6)
  c21 : ∀ x : Hi W, x.W.cell? ⟨b, 21, none⟩ = some (.int .i64 r.n4)
  c22 : ∀ x : Hi W, x.W.cell? ⟨b, 22, none⟩ = some (.int .i64 r.ea)
  c23 : ∀ x : Hi W, x.W.cell? ⟨b, 23, none⟩ = some (.int .i64 r.off)
theorem RuHi.of {W : World} {b : Nat} {r : Ru} (hr : r.In) (h : W.heap[b]? = some (RO r)) : RuHi W b r :=
  ⟨fun x => (RuAt.of hr (Hi.blk h x)).ldR, fun x => (RuAt.of hr (Hi.blk h x)).la6, fun x => (RuAt.of hr (Hi.blk h x)).la4, fun x => (RuAt.of hr (Hi.blk h x)).c16, fun x => (RuAt.of hr (Hi.blk h x)).c21, fun x => (RuAt.of hr (Hi.blk h x)).c22, fun x => (RuAt.of hr (Hi.blk h x)).c23⟩

set_option maxHeartbeats 1000000 in
set_option maxRecDepth 100000 in
theorem psidBits_any (r : Ru) (hr : r.In) (hm : r.Mid) (w : World) :
    Calls Tryz.prog 108 #[RV r] w fun e w' => e = .returned (.int .i64 (qB r)) ∧ Below w.heap.size w w' := by
  have hB0 := bA w (RO r)
  have hb := blk_new w (RO r)
  obtain ⟨ldR, _, _, _, _, c22, _⟩ := RuHi.of hr hb
  have HLD : Hid _ := ldR
  have HC : Hid _ := fun W => hostBits_any r hr hm W
  have h1 := hB_le hm
  have h2 := hm.ea
  have hq : qB r = r.ea - hB r := rfl
  rw [hq]
  generalize hW : w.alloc (RO r) = W at *
  clear ldR hb hq
  generalize hB r = x at *
  generalize r.ea = ea at *
  generalize rc r = cs at *
  go_enter Tryz.func108, Tryz.ntmps108
  go_wp2_with fail
  refine wp_region_hi (by kernel_rfl) (by kernel_rfl) ?_
  repeat (first | go_big_quiet_skip | (go_big_quiet_want; refine hi_load (.tmp 1) 65 rfl rfl HLD.out ?_; simp only [Act.put, List.setIfInBounds_toArray, List.set_cons_zero, List.set_cons_succ]; go_big_quiet_on) | (go_big_quiet_want; go_big_quiet_op; first | go_big_quiet_on | go_big_quiet_call (first | (go_at_call 137; with_reducible exact Hi.calls (HC.out _)))))
  refine wpQuiet_nil ?_
  intro _ hw
  obtain ⟨y, rfl⟩ := hw
  go_wp2
  go_ret
  exact ⟨rfl, hB0.trans (y.below.mono hB0.size)⟩

set_option maxHeartbeats 1000000 in
set_option maxRecDepth 100000 in
theorem shared_any (r : Ru) (hr : r.In) (hm : r.Mid) (w : World) :
    Calls Tryz.prog 138 #[RV r] w fun e w' => e = .returned (.bool (decide (0 < qB r))) ∧ Below w.heap.size w w' := by
  have hB0 := bA w (RO r)
  have ldR := (RuAt.of hr (blk_new w (RO r))).ldR
  have HLD : Hid _ := ldR
  have HC : Hid _ := fun W => psidBits_any r hr hm W
  have h1 := qB_le hm
  generalize hW : w.alloc (RO r) = W at *
  clear ldR
  generalize qB r = x at *
  generalize rc r = cs at *
  go_enter Tryz.func138, Tryz.ntmps138
  go_wp2_with first
    | ((with_reducible show wpList _ _ _ _ _ _); refine armL (.tmp 1) 65 rfl rfl rfl HLD.out ?_)
  refine (HC.out _).mono ?_
  rintro e w2 ⟨rfl, hB2⟩
  go_wp2
  go_ret
  exact ⟨rfl, hB0.trans (hB2.mono hB0.size)⟩

abbrev PSL (o l p : Int) : List Value := [.int .i64 o, .int .i64 l, .int .u16 p]
theorem build_ps (o l : Int) (w : World) : (Instr.build 67 #[(0, .int .i64 o), (1, .int .i64 l)]).run Tryz.prog w = .ok (PS o l 0) w := run_build w _ _ _ (by kernel_rfl)

set_option maxHeartbeats 1000000 in
set_option maxRecDepth 100000 in
theorem anySet_any (r : Ru) (hr : r.In) (hm : r.Mid) (w : World) :
    Calls Tryz.prog 66 #[RV r] w fun e w' => e = .returned (PS r.off (qB r) 0) ∧ Below w.heap.size w w' := by
  generalize hQ : (fun (e : Ending) (w' : World) => e = .returned (PS r.off (qB r) 0) ∧ Below w.heap.size w w') = Q
  have HQ : Hid _ := hQ
  clear hQ
  have hB1 : Below w.heap.size w ((w.alloc (RO r)).alloc (.cells [.int .i64 0, .int .i64 0, .int .u16 0].toArray 67)) := (bA w (RO r)).alloc (by simp) _
  have hb := blk_alloc (blk_new w (RO r)) (.cells [.int .i64 0, .int .i64 0, .int .u16 0].toArray 67)
  have hb2 := blk_new (w.alloc (RO r)) (.cells [.int .i64 0, .int .i64 0, .int .u16 0].toArray 67)
  have hz : (w.alloc (RO r)).heap.size = w.heap.size + 1 := by simp
  rw [hz] at hb2
  generalize hW : (w.alloc (RO r)).alloc (.cells [.int .i64 0, .int .i64 0, .int .u16 0].toArray 67) = W at *
  have HBR : Hid _ := hb
  have HC : Hid _ := fun W => psidBits_any r hr hm W
  clear hb hz
  have HB2 : Hid _ := hb2
  have HB1 : Hid _ := hB1
  clear hb2 hB1
  generalize qB r = x at *
  go_enter Tryz.func66, Tryz.ntmps66
  go_wp2_with fail
  have hd : Below W.heap.size W W.drew := (Below.refl _ W).drew
  have hbr := HBR.out
  refine wp_region_held (S := fun W' => W'.heap[w.heap.size]? = some (RO r)) (by kernel_rfl) ?_
  show wpAnyH _ _ _ _ _ 6 (Array.replicate 6 false) _ W.drew
  refine take_one (i := 0) (d := some 3) (v := .pointer (some ⟨w.heap.size, 23, none⟩)) rfl rfl rfl (by kernel_rfl) (by kernel_rfl) (by kernel_rfl) (fun _ _ d _ _ h => by cases d <;> exact h) (fun W hS => by kernel_rfl) hbr ?_
  simp only [Act.put, List.setIfInBounds_toArray, List.set_cons_zero, List.set_cons_succ]
  refine take_one (i := 1) (d := some 4) (v := .int .i64 r.off) rfl rfl rfl (by kernel_rfl) (by kernel_rfl) (by kernel_rfl) (fun _ _ d _ _ h => by cases d <;> exact h) (fun W hS => ex_loadC 3 rfl rfl (RuAt.of hr hS).c23) hbr ?_
  simp only [Act.put, List.setIfInBounds_toArray, List.set_cons_zero, List.set_cons_succ]
  refine take_one (i := 2) (d := some 5) (v := RV r) rfl rfl rfl (by kernel_rfl) (by kernel_rfl) (by kernel_rfl) (fun _ _ d _ _ h => by cases d <;> exact h) (fun W hS => ex_loadA (.tmp 1) 65 rfl rfl (RuAt.of hr hS).ldR) hbr ?_
  simp only [Act.put, List.setIfInBounds_toArray, List.set_cons_zero, List.set_cons_succ]
  refine all_one (i := 3) (by kernel_rfl) rfl rfl ?_
  refine wp_call (d := some 6) 108 _ rfl (by kernel_rfl) (callR (HC.out _)) ?_
  rintro _ w2 ⟨rfl, hB2⟩
  have hx2 := hd.trans (hB2.mono hd.size)
  have hbr2 := blk_on HBR.out hx2
  refine ⟨hbr2, ?_⟩
  simp only [Act.put, List.setIfInBounds_toArray, List.set_cons_zero, List.set_cons_succ]
  refine take_one (i := 4) (d := some 7) (v := PS r.off x 0) rfl rfl rfl (by kernel_rfl) (by kernel_rfl) (by kernel_rfl) (fun _ _ d _ _ h => by cases d <;> exact h) (fun W hS => ex_buildA 67 [(0, .tmp 4), (1, .tmp 6)] rfl rfl (build_ps _ _ _)) hbr2 ?_
  simp only [Act.put, List.setIfInBounds_toArray, List.set_cons_zero, List.set_cons_succ]
  have hb4 := blk_on HB2.out hx2
  obtain ⟨wE, hst, bE, honE⟩ := box_store Tryz.sizeOf67 hb4 rfl (PSL r.off x 0) rfl (by simp [PSL, Value.oneCell'])
  have hBE : Below w.heap.size w wE := (HB1.out.trans (hx2.mono HB1.out.size)).trans (honE.below (by omega))
  have HLV : Hid _ := agg_loadVar (t := 67) Tryz.isAgg67 Tryz.sizeOf67 rfl (CellsAt.of_blk bE)
  refine all_one (i := 5) (by kernel_rfl) rfl rfl ?_
  refine wp_storeA (.tmp 2) (.tmp 7) 67 rfl rfl rfl rfl hst ⟨((honE.other _ (by omega)).trans hbr2), ?_⟩
  refine wpAnyH_done (by kernel_rfl) ?_ _
  go_show
  go_wp2
  refine bodyPost_ret (res_cell1 Tryz.results66 rfl HLV.out) rfl ?_
  rw [← HQ.out]
  exact ⟨rfl, hBE⟩

end Go.Proofs.YtaebknkjhhcneaaGreatDoor

namespace Go.Proofs.YtaebknkjhhcneaaGreatDoor
open Go Go.RowKit
set_option linter.unusedVariables false
set_option linter.unusedSimpArgs false

theorem Check4_L (l : List Int) (n : Int) (w : World) (hf : FitB l) (hl : l.length = 4) (hb : In64 n) :
    Calls Tryz.prog 64 #[P4L l n] w fun e w' => e = .returned (.int .i64 (if okP4L l n then 0 else 22)) ∧ Below w.heap.size w w' := by
  obtain ⟨a0, a1, a2, a3, rfl⟩ := list4 hl
  have h := Check4_calls a0 a1 a2 a3 n w (hf a0 (by simp)) (hf a1 (by simp)) (hf a2 (by simp)) (hf a3 (by simp)) hb
  have e : okP4 a0 a1 a2 a3 n = okP4L [a0, a1, a2, a3] n := by unfold okP4 okP4L; rw [blR4]
  rw [e] at h
  exact h

/-- What Check says of a rule. -/
def rgOk (r : Ru) : Prop := 0 ≤ r.ea ∧ r.ea ≤ 48 ∧ r.n6 + r.ea ≤ 64 ∧ 0 ≤ r.off ∧ r.off ≤ 15 ∧ qB r ≤ 16 - r.off
instance (r : Ru) : Decidable (rgOk r) := by unfold rgOk; infer_instance
def ckE (r : Ru) : Int := if (okP6 r.l6 r.n6 && okP4L r.l4 r.n4) = true then (if rgOk r then 0 else 100) else 22
theorem Ru.ok_of {r : Ru} (hr : r.In) (h : ckE r = 0) : r.Ok := by
  unfold ckE at h
  by_cases c : (okP6 r.l6 r.n6 && okP4L r.l4 r.n4) = true
  · rw [if_pos c] at h
    by_cases d : rgOk r
    · simp at c
      exact ⟨hr, c.1, c.2, ⟨d.1, d.2.1⟩, d.2.2.1, ⟨d.2.2.2.1, d.2.2.2.2.1⟩, d.2.2.2.2.2⟩
    · rw [if_neg d] at h; omega
  · rw [if_neg c] at h; omega
theorem ok6_le {l : List Int} {n : Int} (h : okP6 l n = true) : 0 ≤ n ∧ n ≤ 128 := by unfold okP6 at h; simp at h; exact h.1
theorem ok4_le {l : List Int} {n : Int} (h : okP4L l n = true) : 0 ≤ n ∧ n ≤ 32 := by unfold okP4L at h; simp at h; exact h.1


set_option maxHeartbeats 1000000 in
set_option maxRecDepth 100000 in
theorem Check_any' (r : Ru) (hr : r.In) (w : World) :
    Calls Tryz.prog 28 #[RV r] w fun e w' => e = .returned (.int .i64 (ckE r)) ∧ Below w.heap.size w w' := by
  have hB0 := bA w (RO r)
  have hb := blk_new w (RO r)
  have HC6 : Hid _ := fun W => Check6_calls r.l6 r.n6 W hr.f6 hr.k6 hr.b6
  have HC4 : Hid _ := fun W => Check4_L r.l4 r.n4 W hr.f4 hr.k4 hr.b4
  have hD6 := (RuAt.of hr hb).ld6
  have HD6 : Hid _ := hD6
  clear hD6
  cases c6 : okP6 r.l6 r.n6
  · have e : ckE r = 22 := by unfold ckE; rw [c6]; rfl
    rw [e]
    rw [c6] at HC6
    clear HC4 e c6
    generalize hW : w.alloc (RO r) = W at *
    clear hb
    generalize r.l6 = l6 at *
    generalize r.n6 = n6 at *
    generalize rc r = cs at *
    go_enter Tryz.func28, Tryz.ntmps28
    go_wp2_with first
      | ((with_reducible show wpList _ _ _ _ _ _); refine armL (.tmp 3) 26 rfl rfl rfl HD6.out ?_)
    refine (HC6.out _).mono ?_
    rintro e w2 ⟨rfl, hB2⟩
    go_wp2
    go_ret
    exact ⟨rfl, hB0.trans (hB2.mono hB0.size)⟩
  · rw [c6] at HC6
    have hn6 := ok6_le c6
    cases c4 : okP4L r.l4 r.n4
    · have e : ckE r = 22 := by unfold ckE; rw [c6, c4]; rfl
      rw [e]
      rw [c4] at HC4
      clear e c6 c4
      generalize hW : w.alloc (RO r) = W at *
      go_enter Tryz.func28, Tryz.ntmps28
      go_wp2_with first
        | ((with_reducible show wpList _ _ _ _ _ _); refine armL (.tmp 3) 26 rfl rfl rfl HD6.out ?_)
      refine (HC6.out _).mono ?_
      rintro e w2 ⟨rfl, hB2⟩
      have HD4 : Hid _ := (RuAt.of hr (blk_on hb hB2)).ld4
      clear hb
      go_wp2_with first
        | ((with_reducible show wpList _ _ _ _ _ _); refine armLg (.tmp 8) 63 rfl rfl rfl HD4.out ?_)
      refine (HC4.out _).mono ?_
      rintro e w3 ⟨rfl, hB3⟩
      go_wp2
      go_ret
      exact ⟨rfl, (hB0.trans (hB2.mono hB0.size)).trans (hB3.mono (Nat.le_trans hB0.size hB2.size))⟩
    · rw [c4] at HC4
      have hn4 := ok4_le c4
      have hE : ckE r = if rgOk r then 0 else 100 := by unfold ckE; rw [c6, c4]; rfl
      by_cases hx : 0 ≤ r.ea ∧ r.ea ≤ 48 ∧ r.n6 + r.ea ≤ 64
      · have hm : r.Mid := ⟨hn4, hx.1, hx.2.1⟩
        have hq := qB_le hm
        have HAS : Hid _ := fun W => anySet_any r hr hm W
        have HPC : Hid _ := fun W => Check_any r.off (qB r) 0 W hr.bo ⟨by omega, by omega⟩ ⟨by omega, by omega⟩
        have hE2 : ckE r = if setOk r.off (qB r) 0 then 0 else 100 := by
          rw [hE]
          by_cases d : rgOk r
          · rw [if_pos d, if_pos (cutOk_zero ⟨d.2.2.2.1, d.2.2.2.2.1, hq.1, d.2.2.2.2.2⟩)]
          · rw [if_neg d, if_neg (fun k => d ⟨hx.1, hx.2.1, hx.2.2, k.1.1, k.1.2.1, k.1.2.2.2⟩)]
        rw [hE2]
        clear hE hE2 c6 c4
        by_cases hs : setOk r.off (qB r) 0
        all_goals
          first
            | rw [if_pos hs] at HPC ⊢
            | rw [if_neg hs] at HPC ⊢
          clear hs
          generalize hW : w.alloc (RO r) = W at *
          go_enter Tryz.func28, Tryz.ntmps28
          go_wp2_with first
            | ((with_reducible show wpList _ _ _ _ _ _); refine armL (.tmp 3) 26 rfl rfl rfl HD6.out ?_)
          refine (HC6.out _).mono ?_
          rintro e w2 ⟨rfl, hB2⟩
          have HD4 : Hid _ := (RuAt.of hr (blk_on hb hB2)).ld4
          go_wp2_with first
            | ((with_reducible show wpList _ _ _ _ _ _); refine armLg (.tmp 8) 63 rfl rfl rfl HD4.out ?_)
          refine (HC4.out _).mono ?_
          rintro e w3 ⟨rfl, hB3⟩
          have hB23 := hB2.trans (hB3.mono hB2.size)
          obtain ⟨ldR, _, _, _, _, c16, c21, c22, c23, _, _⟩ := RuAt.of hr (blk_on hb hB23)
          have HLR : Hid _ := ldR
          clear ldR
          generalize r.ea = ea at *
          generalize r.n6 = n6 at *
          generalize r.off = off at *
          generalize qB r = qb at *
          go_wp2_with first
            | ((with_reducible show wpList _ _ _ _ _ _); refine armL (.tmp 1) 65 rfl rfl rfl HLR.out ?_)
          refine (HAS.out _).mono ?_
          rintro e w4 ⟨rfl, hB4⟩
          go_wp2_with fail
          refine (HPC.out _).mono ?_
          rintro e w5 ⟨rfl, hB5⟩
          have hB24 := hB23.trans (hB4.mono hB23.size)
          have hB25 := hB24.trans (hB5.mono hB24.size)
          go_wp2
          go_ret
          exact ⟨rfl, hB0.trans (hB25.mono hB0.size)⟩
      · have e : ckE r = 100 := by rw [hE, if_neg (fun d => hx ⟨d.1, d.2.1, d.2.2.1⟩)]
        rw [e]
        clear e hE c6 c4
        have hbe := hr.be
        unfold In64 at hbe
        generalize hW : w.alloc (RO r) = W at *
        go_enter Tryz.func28, Tryz.ntmps28
        go_wp2_with first
          | ((with_reducible show wpList _ _ _ _ _ _); refine armL (.tmp 3) 26 rfl rfl rfl HD6.out ?_)
        refine (HC6.out _).mono ?_
        rintro e w2 ⟨rfl, hB2⟩
        have HD4 : Hid _ := (RuAt.of hr (blk_on hb hB2)).ld4
        go_wp2_with first
          | ((with_reducible show wpList _ _ _ _ _ _); refine armLg (.tmp 8) 63 rfl rfl rfl HD4.out ?_)
        refine (HC4.out _).mono ?_
        rintro e w3 ⟨rfl, hB3⟩
        have hB23 := hB2.trans (hB3.mono hB2.size)
        obtain ⟨_, _, _, _, _, c16, c21, c22, c23, _, _⟩ := RuAt.of hr (blk_on hb hB23)
        have HF : Hid _ := hB0.trans (hB23.mono hB0.size)
        clear HC6 HC4 HD6 HD4 hb hr hB0 hB2 hB3 hB23
        generalize r.ea = ea at *
        generalize r.n6 = n6 at *
        by_cases x1 : ea < 0
        · go_wp2
          go_ret
          exact ⟨rfl, HF.out⟩
        · by_cases x2 : 48 < ea
          · go_wp2
            go_ret
            exact ⟨rfl, HF.out⟩
          · have x3 : 64 < n6 + ea := by omega
            go_wp2
            all_goals first
              | (exfalso; omega)
              | (go_ret; exact ⟨rfl, HF.out⟩)

end Go.Proofs.YtaebknkjhhcneaaGreatDoor

namespace Go.Proofs.YtaebknkjhhcneaaGreatDoor
open Go Go.RowKit
set_option linter.unusedVariables false
set_option linter.unusedSimpArgs false

def portsE (r : Ru) : Value := if ckE r = 0 then (if 0 < qB r then .tuple #[PS r.off (qB r) 0, .bool true, .int .i64 0] else .tuple #[PS 0 0 0, .bool false, .int .i64 0]) else .tuple #[PS 0 0 0, .bool false, .int .i64 (ckE r)]
def countE (r : Ru) : Value := if ckE r = 0 then .tuple #[.int .u64 (2 ^ r.ea.toNat), .int .i64 0] else .tuple #[.int .u64 0, .int .i64 (ckE r)]
abbrev PSZ : Obj := .cells [.int .i64 0, .int .i64 0, .int .u16 0].toArray 67

theorem two_box (w : World) (o1 o2 : Obj) : ((w.alloc o1).alloc o2).heap[w.heap.size]? = some o1 ∧ ((w.alloc o1).alloc o2).heap[w.heap.size + 1]? = some o2 ∧ Below w.heap.size w ((w.alloc o1).alloc o2) := by
  have hz : (w.alloc o1).heap.size = w.heap.size + 1 := by simp
  have h2 := blk_new (w.alloc o1) o2
  rw [hz] at h2
  exact ⟨blk_alloc (blk_new w o1) _, h2, (bA w o1).alloc (by simp) _⟩
theorem ps_store {w : World} {R : Nat} {c : List Value} (h : w.heap[R]? = some (.cells c.toArray 67)) (hc : c.length = 3) (o l p : Int) :
    ∃ w', (Instr.storeAt 67 (.pointer (some ⟨R, 0, none⟩)) (PS o l p)).run Tryz.prog w = .ok () w' ∧ (loadVar 67 ⟨R, 0, none⟩).run Tryz.prog w' = .ok (PS o l p) w' ∧ Only R w w' := by
  obtain ⟨wE, hst, bE, honE⟩ := box_store Tryz.sizeOf67 h hc (PSL o l p) rfl (by simp [PSL, Value.oneCell'])
  exact ⟨wE, hst, agg_loadVar (t := 67) Tryz.isAgg67 Tryz.sizeOf67 rfl (CellsAt.of_blk bE), honE⟩

set_option maxHeartbeats 1000000 in
set_option maxRecDepth 100000 in
theorem suffix_any (r : Ru) (hr : r.In) (hm : 0 ≤ r.n4 ∧ r.n4 ≤ 32) (w : World) :
    Calls Tryz.prog 57 #[RV r] w fun e w' => e = .returned (.int .i64 (32 - r.n4)) ∧ Below w.heap.size w w' := by
  have hB0 := bA w (RO r)
  obtain ⟨_, _, _, _, _, c16, c21, c22, c23, _, _⟩ := RuAt.of hr (blk_new w (RO r))
  generalize hW : w.alloc (RO r) = W at *
  generalize r.n4 = n4 at *
  generalize rc r = cs at *
  go_enter Tryz.func57, Tryz.ntmps57
  go_wp2
  go_ret
  exact ⟨rfl, hB0⟩

set_option maxHeartbeats 1000000 in
set_option maxRecDepth 100000 in
theorem Shared_any (r : Ru) (hr : r.In) (hm : r.Mid) (w : World) :
    Calls Tryz.prog 56 #[RV r] w fun e w' => e = .returned (.tuple #[.int .i64 (qB r), .bool (decide (0 < qB r))]) ∧ Below w.heap.size w w' := by
  have hB0 := bA w (RO r)
  have hb := blk_new w (RO r)
  obtain ⟨ldR, _, _, _, _, c22, _⟩ := RuHi.of hr hb
  have HLD : Hid _ := ldR
  have HC : Hid _ := fun W => suffix_any r hr hm.n4 W
  have h1 := hm.n4
  have h2 := hm.ea
  by_cases hq : 0 < r.ea - (32 - r.n4)
  all_goals
    first
      | have e : qB r = r.ea - (32 - r.n4) := by unfold qB hB; omega
      | have e : qB r = 0 := by unfold qB hB; omega
    rw [e]
    generalize hW : w.alloc (RO r) = W at *
    clear ldR hb e
    generalize r.ea = ea at *
    generalize r.n4 = n4 at *
    generalize rc r = cs at *
    go_enter Tryz.func56, Tryz.ntmps56
    go_wp2_with fail
    refine wp_region_hi (by kernel_rfl) (by kernel_rfl) ?_
    repeat (first | go_big_quiet_skip | (go_big_quiet_want; refine hi_load (.tmp 1) 65 rfl rfl HLD.out ?_; simp only [Act.put, List.setIfInBounds_toArray, List.set_cons_zero, List.set_cons_succ]; go_big_quiet_on) | (go_big_quiet_want; go_big_quiet_op; first | go_big_quiet_on | go_big_quiet_call (first | (go_at_call 57; with_reducible exact Hi.calls (HC.out _)))))
    refine wpQuiet_nil ?_
    intro _ hw
    obtain ⟨y, rfl⟩ := hw
    go_wp2
    all_goals first
      | (exfalso; omega)
      | (go_returns; exact ⟨by simp [hq] <;> omega, hB0.trans (y.below.mono hB0.size)⟩)


end Go.Proofs.YtaebknkjhhcneaaGreatDoor
