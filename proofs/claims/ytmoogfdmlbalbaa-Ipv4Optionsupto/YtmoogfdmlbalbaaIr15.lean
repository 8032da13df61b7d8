/-
  What the document's reader answers; the walk of the statement Ipv4Parses.
-/
import Derived.Test.YtmoogfdmlbalbaaIu1
namespace Go.Proofs.Ytmoogfdmlbalbaa
open Go Go.RowKit Go.ChangeShapes Go.WideShapes Go.ChangeAt
set_option linter.unusedVariables false
set_option linter.unusedSimpArgs false

/-- What the document's reader answers. -/
def RReads (f : FuncId) (xs : Array Value) (zs : List Int) (part : Bool) (w : World) : Prop :=
  Calls Try.prog f xs w fun e w' => ∃ c', e = .returned (.tuple #[.agg c'.toArray, .int .i64 (pErr zs part).1, .int .i64 (pErr zs part).2]) ∧ ParD zs part w' c' ∧ Apart w.heap.size c' ∧ Below w.heap.size w w'
theorem RReads.no {f : FuncId} {xs : Array Value} {zs : List Int} {part : Bool} {w : World} {at' er : Int} (he : pErr zs part = (at', er)) (hn : er ≠ 0)
    (h : Calls Try.prog f xs w fun e w' => e = .returned (.tuple #[.agg zeroC.toArray, .int .i64 at', .int .i64 er]) ∧ Below w.heap.size w w') : RReads f xs zs part w := by
  unfold RReads
  refine h.mono ?_
  rintro e w' ⟨rfl, hb⟩
  refine ⟨zeroC, by rw [he], ParD.no ?_ w', zero_apart _, hb⟩
  rw [he]
  intro c
  injection c with _ c2
  exact hn c2
theorem RReads.yes {f : FuncId} {xs : Array Value} {zs : List Int} {part : Bool} {w : World} (he : pErr zs part = (0, 0))
    (h : Calls Try.prog f xs w fun e w' => ∃ c', e = .returned (.tuple #[.agg c'.toArray, .int .i64 0, .int .i64 0]) ∧ SaysD zs w' c' ∧ Apart w.heap.size c' ∧ Below w.heap.size w w') : RReads f xs zs part w := by
  unfold RReads
  refine h.mono ?_
  rintro e w' ⟨c', rfl, hd, hA, hb⟩
  exact ⟨c', by rw [he], ParD.yes he hd, hA, hb⟩


theorem ParD.same {zs : List Int} {part : Bool} {W : World} {a b : List Value} (ha : ParD zs part W a) (hb : ParD zs part W b) :
    Calls Try.prog 22 #[.agg a.toArray, .agg b.toArray] W fun e w' => e = .returned (.bool true) ∧ Below W.heap.size W w' := by
  unfold ParD SaysD at ha hb
  split at ha
  · next hk =>
    rw [if_pos hk] at hb
    have := RSame_calls W ha hb
    rwa [sameB_self] at this
  · next hk =>
    rw [if_neg hk] at hb
    have := RSame_calls W ha hb
    rwa [sameB_self] at this

set_option maxHeartbeats 1500000 in
set_option maxRecDepth 100000 in
theorem ipv4Parses_walk (v : Value) (zs : List Int) (w : World) (h : RowC w v zs) (hR1 : ∀ W, Below w.heap.size w W → RReads 19 #[v] zs false W) (hR2 : ∀ W, Below w.heap.size w W → RReads 21 #[v] zs true W) :
    Calls Try.prog 4 #[v] w fun e w' => e = .returned (.bool true) ∧ Below w.heap.size w w' := by
  have hP1 := fun W (hB : Below w.heap.size w W) => Parse_any (h.on hB)
  have hP2 := fun W (hB : Below w.heap.size w W) => Part_any (h.on hB)
  unfold RReads at hR1 hR2
  unfold ReadsAs at hP1 hP2
  have hDL : ∀ pt W a, ParD zs pt W a → a.length = 17 ∧ ∀ v ∈ a, v.oneCell' = true := fun pt W a ha => ha.len
  have hDN : ∀ pt W W' a, ParD zs pt W a → Below W.heap.size W W' → ParD zs pt W' a := fun pt W W' a ha hb => ha.on hb
  have hDS : ∀ pt W a b, ParD zs pt W a → ParD zs pt W b → Calls Try.prog 22 #[.agg a.toArray, .agg b.toArray] W fun e w' => e = .returned (.bool true) ∧ Below W.heap.size W w' := fun pt W a b ha hb => ParD.same ha hb
  generalize pErr zs false = e1 at *
  generalize pErr zs true = e2 at *
  generalize ParD zs = PD at *
  have HP1 : Hid _ := hP1
  have HP2 : Hid _ := hP2
  have HR1 : Hid _ := hR1
  have HR2 : Hid _ := hR2
  have HDL : Hid _ := hDL
  have HDN : Hid _ := hDN
  have HDS : Hid _ := hDS
  have HBX : Hid _ := box17k
  unfold zeroC at HBX
  clear hP1 hP2 hR1 hR2 hDL hDN hDS h
  go_enter Try.func4, Try.ntmps4
  go_wp2_with fail
  refine Calls.mono (HP1.out w (Below.refl _ _)) ?_
  rintro _ w1 ⟨c1, rfl, hd1, _, hb1⟩
  obtain ⟨w2, hst2, cc1, hb2, hlt2⟩ := HBX.out w1 c1 (HDL.out _ _ _ hd1)
  have HST2 : Hid _ := hst2
  have hb02 := hb1.trans (hb2.mono hb1.size)
  have HD1 : Hid _ := HDN.out _ _ _ _ hd1 hb2
  have HL1 : Hid _ := (HDL.out _ _ _ hd1).1
  have HC1 : Hid _ := cc1
  have HB02 : Hid _ := hb02
  have HLT2 : Hid _ := hlt2
  clear hd1 hst2 cc1 hb2 hlt2 hb02 hb1
  go_wp2_with ((with_reducible show wpList _ _ _ _ _ _); refine arm_store rfl (.tmp 3) _ 27 rfl rfl rfl HST2.out ?_)
  refine Calls.mono (HR1.out w2 HB02.out) ?_
  rintro _ w3 ⟨c2, rfl, hd2, _, hb3⟩
  obtain ⟨w4, hst4, cc2, hb4, hlt4⟩ := HBX.out w3 c2 (HDL.out _ _ _ hd2)
  have hb24 := hb3.trans (hb4.mono hb3.size)
  have HST4 : Hid _ := hst4
  have HB04 : Hid _ := HB02.out.trans (hb24.mono HB02.out.size)
  have HD14 : Hid _ := HDN.out _ _ _ _ HD1.out hb24
  have HD24 : Hid _ := HDN.out _ _ _ _ hd2 hb4
  have HL2 : Hid _ := (HDL.out _ _ _ hd2).1
  have HC14 : Hid _ := blk_on HC1.out hb24
  have HC24 : Hid _ := cc2
  clear hd2 hst4 cc2 hb4 hlt4 hb24 hb3 HST2 HD1 HC1 HB02 HLT2
  go_wp2_with ((with_reducible show wpList _ _ _ _ _ _); refine arm_store rfl (.tmp 6) _ 27 rfl rfl rfl HST4.out ?_)
  refine Calls.mono (HP2.out w4 HB04.out) ?_
  rintro _ w5 ⟨c3, rfl, hd3, _, hb5⟩
  obtain ⟨w6, hst6, cc3, hb6, hlt6⟩ := HBX.out w5 c3 (HDL.out _ _ _ hd3)
  have hb46 := hb5.trans (hb6.mono hb5.size)
  have HST6 : Hid _ := hst6
  have HB06 : Hid _ := HB04.out.trans (hb46.mono HB04.out.size)
  have HD16 : Hid _ := HDN.out _ _ _ _ HD14.out hb46
  have HD26 : Hid _ := HDN.out _ _ _ _ HD24.out hb46
  have HD36 : Hid _ := HDN.out _ _ _ _ hd3 hb6
  have HL3 : Hid _ := (HDL.out _ _ _ hd3).1
  have HC16 : Hid _ := blk_on HC14.out hb46
  have HC26 : Hid _ := blk_on HC24.out hb46
  have HC36 : Hid _ := cc3
  clear hd3 hst6 cc3 hb6 hlt6 hb46 hb5 HST4 HD14 HD24 HC14 HC24 HB04
  go_wp2_with ((with_reducible show wpList _ _ _ _ _ _); refine arm_store rfl (.tmp 9) _ 27 rfl rfl rfl HST6.out ?_)
  refine Calls.mono (HR2.out w6 HB06.out) ?_
  rintro _ w7 ⟨c4, rfl, hd4, _, hb7⟩
  obtain ⟨w8, hst8, cc4, hb8, hlt8⟩ := HBX.out w7 c4 (HDL.out _ _ _ hd4)
  have hb68 := hb7.trans (hb8.mono hb7.size)
  have hb08 := HB06.out.trans (hb68.mono HB06.out.size)
  have HST8 : Hid _ := hst8
  have HS12 : Hid (∀ x : Hi w8, Calls Try.prog 22 #[.agg c1.toArray, .agg c2.toArray] x.W fun e w' => e = .returned (.bool true) ∧ Below x.W.heap.size x.W w') := fun x => HDS.out _ _ _ _ (HDN.out _ _ _ _ HD16.out (hb68.trans (x.below.mono hb68.size))) (HDN.out _ _ _ _ HD26.out (hb68.trans (x.below.mono hb68.size)))
  have HS34 : Hid (∀ x : Hi w8, Calls Try.prog 22 #[.agg c3.toArray, .agg c4.toArray] x.W fun e w' => e = .returned (.bool true) ∧ Below x.W.heap.size x.W w') := fun x => HDS.out _ _ _ _ (HDN.out _ _ _ _ HD36.out (hb68.trans (x.below.mono hb68.size))) (HDN.out _ _ _ _ hd4 (hb8.trans (x.below.mono hb8.size)))
  have H1 : Hid (∀ x : Hi w8, (Instr.loadAt 27 (.pointer (some ⟨w1.heap.size, 0, none⟩))).run Try.prog x.W = .ok (.agg c1.toArray) x.W) := fun x => agg_load Try.isAgg27 Try.sizeOf27 HL1.out (CellsAt.of_blk (Hi.blk (blk_on HC16.out hb68) x))
  have H2 : Hid (∀ x : Hi w8, (Instr.loadAt 27 (.pointer (some ⟨w3.heap.size, 0, none⟩))).run Try.prog x.W = .ok (.agg c2.toArray) x.W) := fun x => agg_load Try.isAgg27 Try.sizeOf27 HL2.out (CellsAt.of_blk (Hi.blk (blk_on HC26.out hb68) x))
  have H3 : Hid (∀ x : Hi w8, (Instr.loadAt 27 (.pointer (some ⟨w5.heap.size, 0, none⟩))).run Try.prog x.W = .ok (.agg c3.toArray) x.W) := fun x => agg_load Try.isAgg27 Try.sizeOf27 HL3.out (CellsAt.of_blk (Hi.blk (blk_on HC36.out hb68) x))
  have H4 : Hid (∀ x : Hi w8, (Instr.loadAt 27 (.pointer (some ⟨w7.heap.size, 0, none⟩))).run Try.prog x.W = .ok (.agg c4.toArray) x.W) := fun x => agg_load Try.isAgg27 Try.sizeOf27 (HDL.out _ _ _ hd4).1 (CellsAt.of_blk (Hi.blk cc4 x))
  have HFIN : Hid (∀ x : Hi w8, Below w.heap.size w x.W) := fun x => hb08.trans (x.below.mono hb08.size)
  clear hd4 hst8 cc4 hb8 hlt8 hb68 hb08 hb7 HST6 HD16 HD26 HD36 HC16 HC26 HC36 HB06 HL1 HL2 HL3 HP1 HP2 HR1 HR2 HDL HDN HDS HBX
  go_wp2_with first
    | ((with_reducible show wpList _ _ _ _ _ _); refine arm_store rfl (.tmp 12) _ 27 rfl rfl rfl HST8.out ?_)
    | ((with_reducible show wpList _ _ _ _ _ _); refine arm_load rfl (.tmp 3) 27 rfl rfl (H1.out (Hi.refl w8)) ?_)
    | ((with_reducible show wpList _ _ _ _ _ _); refine arm_load rfl (.tmp 6) 27 rfl rfl (H2.out (Hi.refl w8)) ?_)
  refine Calls.mono (HS12.out (Hi.refl w8)) ?_
  rintro _ w9 ⟨rfl, hb9⟩
  obtain ⟨x9, rfl⟩ : ∃ x : Hi w8, w9 = x.W := ⟨⟨w9, hb9⟩, rfl⟩
  clear hb9
  go_wp2_with first
    | ((with_reducible show wpList _ _ _ _ _ _); refine arm_load rfl (.tmp 9) 27 rfl rfl (H3.out x9) ?_)
    | ((with_reducible show wpList _ _ _ _ _ _); refine arm_load rfl (.tmp 12) 27 rfl rfl (H4.out x9) ?_)
  refine Calls.mono (HS34.out x9) ?_
  rintro _ w10 ⟨rfl, hb10⟩
  obtain ⟨x10, rfl⟩ : ∃ x : Hi w8, w10 = x.W := ⟨⟨w10, x9.below.trans (hb10.mono x9.below.size)⟩, rfl⟩
  clear hb10
  go_wp2_with fail
  refine Calls.mono (awake_calls _) ?_
  rintro _ w11 ⟨rfl, hb11⟩
  obtain ⟨x11, rfl⟩ : ∃ x : Hi w8, w11 = x.W := ⟨⟨w11, x10.below.trans (hb11.mono x10.below.size)⟩, rfl⟩
  clear hb11
  go_wp2
  go_ret
  exact ⟨rfl, HFIN.out x11⟩

end Go.Proofs.Ytmoogfdmlbalbaa
