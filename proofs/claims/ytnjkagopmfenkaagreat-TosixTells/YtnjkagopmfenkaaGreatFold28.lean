/-
  TosixTells: the walk.
  The statement TosixTells.
  TosixTells: whatever the input, it is true.
-/
import Derived.Test.YtnjkagopmfenkaaGreatFold27
import Derived.Test.YtnjkagopmfenkaaGreatFold26
import Derived.OpenShut
import Derived.ChangeArms
import Derived.ProofKit
import Derived.SizedLaws
import Derived.Test.YtnjkagopmfenkaaGreatRows
import Derived.WalkKit
import Derived.ShutString
import Derived.ChangeOld
import Derived.Below
namespace Go.Proofs.YtnjkagopmfenkaaGreat
open Go Go.RowKit Go.Shelf
set_option linter.unusedVariables false
set_option linter.unusedSimpArgs false

theorem telV_eight (ck off proto : Int) (mf : Bool) (body : List Int) : ∃ a0 a1 a2 a3 a4 a5 a6 a7 : Int, telV ck off proto mf body = [a0, a1, a2, a3, a4, a5, a6, a7] := by
  unfold telV z8
  split
  · exact ⟨_, _, _, _, _, _, _, _, rfl⟩
  · exact ⟨_, _, _, _, _, _, _, _, rfl⟩
theorem tin_of {w : World} {f : Fd} {mf : Bool} {off : Int} {so sb : Value} {opts body : List Int} (h1 : RowC w so opts) (h2 : RowC w sb body) (bo : -9223372036854775808 ≤ off ∧ off ≤ 9223372036854775807) : TIn w (vC f mf off so sb) off opts.length mf f.proto sb body := by
  obtain ⟨f1, l1, a1, c1, rfl, _⟩ := id h1
  obtain ⟨f2, l2, a2, c2, rfl, _⟩ := id h2
  exact ⟨⟨rfl, rfl, ⟨_, _, rfl⟩, ⟨_, _, rfl⟩, bo, l1, l2⟩, rfl, rfl, rfl, h2⟩

set_option maxHeartbeats 8000000 in
set_option maxRecDepth 100000 in
theorem tosixTells_walk (f : Fd) (mf : Bool) (off : Int) (so sb : Value) (opts body : List Int) (n mtu : Int) (w : World) (h1 : RowC w so opts) (h2 : RowC w sb body) (bo : -9223372036854775808 ≤ off ∧ off ≤ 9223372036854775807) (hn : 0 ≤ n ∧ n ≤ 255) (hm : 0 ≤ mtu ∧ mtu ≤ 65535) :
    Calls Tryz.prog 6 #[VV f mf off so sb, .int .u8 n, .int .u16 mtu] w fun e w' => e = .returned (.bool true) ∧ Below w.heap.size w w' := by
  have s1 : so.oneCell' = true := (BS.of_row h1).one
  have s2 : sb.oneCell' = true := (BS.of_row h2).one
  obtain ⟨W0, hW0⟩ : ∃ W0, w.alloc (.cells (vC f mf off so sb).toArray 27) = W0 := ⟨_, rfl⟩
  have b0 := blk_new w (.cells (vC f mf off so sb).toArray 27)
  have hB0 := (Below.refl w.heap.size w).alloc (Nat.le_refl _) (.cells (vC f mf off so sb).toArray 27)
  rw [hW0] at b0 hB0
  have l0 : w.heap.size < W0.heap.size := (Array.getElem?_eq_some_iff.1 b0).1
  have HLV : Hid ((Instr.loadAt 27 (.pointer (some ⟨w.heap.size, 0, none⟩))).run Tryz.prog W0 = .ok (.agg (vC f mf off so sb).toArray) W0) := agg_load Tryz.isAgg27 Tryz.sizeOf27 rfl (CellsAt.of_blk b0)
  have HCUT : Hid (Calls Tryz.prog 9 #[.agg (vC f mf off so sb).toArray] W0 fun e w' => ∃ so' sb', e = .returned (.agg (vC f mf off so' sb').toArray) ∧ RowC w so' (opts.take 100) ∧ RowC w sb' (body.take 66000) ∧ Below W0.heap.size W0 w') := cut_calls f mf off so sb opts body w W0 h1 h2
  have HP1 : Hid _ := Pointer_calls n hn
  have HP2 : Hid _ := RPointer_calls n hn
  have HM1 : Hid _ := MTU_calls mtu hm
  have HM2 : Hid _ := RMTU_calls mtu hm
  have HB0 : Hid _ := hB0
  have B0 : Hid _ := b0
  have L0 : Hid _ := l0
  have BO : Hid _ := bo
  have VL : Hid (∀ so sb, (vC f mf off so sb).length = 17) := fun _ _ => rfl
  have VO : Hid (∀ so sb : Value, so.oneCell' = true → sb.oneCell' = true → ∀ v ∈ vC f mf off so sb, v.oneCell' = true) := fun so sb a b => vC_one f mf off a b
  have TI : Hid (∀ (w : World) (so sb : Value) (opts body : List Int), RowC w so opts → RowC w sb body → TIn w (vC f mf off so sb) off opts.length mf f.proto sb body) := fun w so sb opts body a b => tin_of a b bo
  clear s1 s2 b0 hB0 l0 h1 h2 bo hn hm
  change Calls Tryz.prog 6 #[.agg (vC f mf off so sb).toArray, .int .u8 n, .int .u16 mtu] w _
  generalize f.proto = proto at *
  generalize hvc : vC f mf off = VC at *
  clear hvc
  generalize ptrL n = pl at *
  generalize ptrB n = pb at *
  generalize mtuT mtu = ml at *
  go_enter Tryz.func6, Tryz.ntmps6
  go_wp2_with ((with_reducible show wpList _ _ _ ({ dst := _, op := Op.load 27 (Operand.tmp 3), type := _, pos := _, after := _, guard := _ } :: _) _ _); refine arm_load rfl (.tmp 3) 27 rfl rfl HLV.out ?_)
  refine Calls.mono HCUT.out ?_
  rintro _ w1 ⟨so', sb', rfl, r1, r2, hb1⟩
  obtain ⟨w2, st2, b2, o2⟩ := box_store Tryz.sizeOf27 (blk_on B0.out hb1) (VL.out _ _) (VC so' sb') (VL.out _ _) (VO.out _ _ (BS.of_row r1).one (BS.of_row r2).one)
  have hx2 : Below w.heap.size w w2 := (HB0.out.trans (hb1.mono HB0.out.size)).trans (o2.below (Nat.le_refl _))
  have hti := TI.out w2 so' sb' _ _ (r1.on hx2) (r2.on hx2)
  have HT1 : Hid _ := Tells_calls _ _ _ _ _ _ _ w2 hti
  have HTI : Hid _ := hti
  have HLV2 : Hid (∀ W, Below w2.heap.size w2 W → (Instr.loadAt 27 (.pointer (some ⟨w.heap.size, 0, none⟩))).run Tryz.prog W = .ok (.agg (VC so' sb').toArray) W) := fun W hW => agg_load Tryz.isAgg27 Tryz.sizeOf27 (VL.out _ _) (CellsAt.of_blk (blk_on b2 hW))
  have HS2 : Hid _ := st2
  have HX2 : Hid _ := hx2
  have hz2 : Below w2.heap.size w2 w2 := Below.refl _ _
  clear HLV HCUT st2 b2 o2 hx2 r1 r2 hb1 hti B0 TI
  go_wp2_with first
    | ((with_reducible show wpList _ _ _ ({ dst := _, op := Op.store 27 (Operand.tmp 3) (Operand.tmp 18), type := _, pos := _, after := _, guard := _ } :: _) _ _); refine arm_store rfl (.tmp 3) (.tmp 18) 27 rfl rfl rfl HS2.out ?_)
    | ((with_reducible show wpList _ _ _ ({ dst := _, op := Op.load 27 (Operand.tmp 3), type := _, pos := _, after := _, guard := _ } :: _) _ _); refine arm_load rfl (.tmp 3) 27 rfl rfl (HLV2.out _ hz2) ?_)
  refine Calls.mono HT1.out ?_
  rintro _ w3 ⟨rfl, hb3⟩
  obtain ⟨a0, a1, a2, a3, a4, a5, a6, a7, hV⟩ := telV_eight (V4.chk off (opts.take 100).length (body.take 66000).length) off proto mf (body.take 66000)
  obtain ⟨w4, st4, b4, hb4⟩ := box_new Tryz.sizeOf59 w3 [.int .u8 0, .int .u8 0, .int .u8 0, .int .u8 0, .int .u8 0, .int .u8 0, .int .u8 0, .int .u8 0] rfl [.int .u8 a0, .int .u8 a1, .int .u8 a2, .int .u8 a3, .int .u8 a4, .int .u8 a5, .int .u8 a6, .int .u8 a7] rfl (by simp [Value.oneCell'])
  have hz3 := hz2.trans (hb3.mono hz2.size)
  have hz4 := hz3.trans (hb4.mono hz3.size)
  have ht2 := RTells_calls _ _ _ _ _ _ _ w4 (HTI.out.on (hb3.trans (hb4.mono hb3.size)))
  have HQ : Hid _ := fun W => eqlEnds a0 a1 a2 a3 a4 a5 a6 a7 (by rw [← hV]; exact telV_fit _ _ _ _ _ HTI.out.row.fit) W
  have hU : u8L [a0, a1, a2, a3, a4, a5, a6, a7] = [.int .u8 a0, .int .u8 a1, .int .u8 a2, .int .u8 a3, .int .u8 a4, .int .u8 a5, .int .u8 a6, .int .u8 a7] := rfl
  unfold TOut at ht2
  rw [hV, hU] at ht2 ⊢
  have HT2 : Hid _ := ht2
  clear ht2 HTI HT1
  generalize telB (V4.chk off (opts.take 100).length (body.take 66000).length) off proto mf (body.take 66000) = tb at *
  generalize V4.chk off (opts.take 100).length (body.take 66000).length = ck at *
  have HS4 : Hid _ := st4
  have B4 : Hid _ := b4
  clear hz2 hz3 st4 b4 hV hU hb3 hb4
  go_wp2_with first
    | ((with_reducible show wpList _ _ _ ({ dst := _, op := Op.store 59 (Operand.tmp 7) (Operand.tmp 22), type := _, pos := _, after := _, guard := _ } :: _) _ _); refine arm_store rfl (.tmp 7) (.tmp 22) 59 rfl rfl rfl HS4.out ?_)
    | ((with_reducible show wpList _ _ _ ({ dst := _, op := Op.load 27 (Operand.tmp 3), type := _, pos := _, after := _, guard := _ } :: _) _ _); refine arm_load rfl (.tmp 3) 27 rfl rfl (HLV2.out _ hz4) ?_)
  refine Calls.mono HT2.out ?_
  rintro _ w5 ⟨rfl, hb5⟩
  obtain ⟨w6, st6, b6, hb6⟩ := box_new Tryz.sizeOf59 w5 [.int .u8 0, .int .u8 0, .int .u8 0, .int .u8 0, .int .u8 0, .int .u8 0, .int .u8 0, .int .u8 0] rfl [.int .u8 a0, .int .u8 a1, .int .u8 a2, .int .u8 a3, .int .u8 a4, .int .u8 a5, .int .u8 a6, .int .u8 a7] rfl (by simp [Value.oneCell'])
  have hz6 := hz4.trans ((hb5.trans (hb6.mono hb5.size)).mono hz4.size)
  have HS6 : Hid _ := st6
  have HL7 : Hid ((Instr.loadAt 59 (.pointer (some ⟨w3.heap.size, 0, none⟩))).run Tryz.prog w6 = .ok (.agg [.int .u8 a0, .int .u8 a1, .int .u8 a2, .int .u8 a3, .int .u8 a4, .int .u8 a5, .int .u8 a6, .int .u8 a7].toArray) w6) := agg_load Tryz.isAgg59 Tryz.sizeOf59 rfl (CellsAt.of_blk (blk_on B4.out (hb5.trans (hb6.mono hb5.size))))
  have HL10 : Hid ((Instr.loadAt 59 (.pointer (some ⟨w5.heap.size, 0, none⟩))).run Tryz.prog w6 = .ok (.agg [.int .u8 a0, .int .u8 a1, .int .u8 a2, .int .u8 a3, .int .u8 a4, .int .u8 a5, .int .u8 a6, .int .u8 a7].toArray) w6) := agg_load Tryz.isAgg59 Tryz.sizeOf59 rfl (CellsAt.of_blk b6)
  have HX6 : Hid (Below w.heap.size w w6) := HX2.out.trans (hz6.mono HX2.out.size)
  clear st6 b6 hb6 hb5 hz4 hz6 HT2 HLV2 B4
  go_wp2_with ((with_reducible show wpList _ _ _ ({ dst := _, op := Op.store 59 (Operand.tmp 10) (Operand.tmp 28), type := _, pos := _, after := _, guard := _ } :: _) _ _); refine arm_store rfl (.tmp 10) (.tmp 28) 59 rfl rfl rfl HS6.out ?_)
  refine Calls.mono ((HP1.out _).mono (fun e w' k => (⟨k.1, k.2.symm⟩ : _ ∧ _ = w'))) ?_
  rintro _ _ ⟨rfl, rfl⟩
  go_wp2_with fail
  refine Calls.mono ((HP2.out _).mono (fun e w' k => (⟨k.1, k.2.symm⟩ : _ ∧ _ = w'))) ?_
  rintro _ _ ⟨rfl, rfl⟩
  go_wp2_with first
    | ((with_reducible show wpList _ _ _ ({ dst := _, op := Op.load 59 (Operand.tmp 7), type := _, pos := _, after := _, guard := _ } :: _) _ _); refine arm_load rfl (.tmp 7) 59 rfl rfl HL7.out ?_)
    | ((with_reducible show wpList _ _ _ ({ dst := _, op := Op.load 59 (Operand.tmp 10), type := _, pos := _, after := _, guard := _ } :: _) _ _); refine arm_load rfl (.tmp 10) 59 rfl rfl HL10.out ?_)
    | ((with_reducible show wpList _ _ _ ({ dst := _, op := Op.binOp BinOp.eql 59 _ _ _, type := _, pos := _, after := _, guard := _ } :: _) _ _); refine arm_bin rfl .eql 59 59 (.tmp 41) (.tmp 42) rfl rfl rfl (gdEnds _ _ _ _ _) (HQ.out _) ?_)
  refine Calls.mono ((HM1.out _).mono (fun e w' k => (⟨k.1, k.2.symm⟩ : _ ∧ _ = w'))) ?_
  rintro _ _ ⟨rfl, rfl⟩
  go_wp2_with fail
  refine Calls.mono ((HM2.out _).mono (fun e w' k => (⟨k.1, k.2.symm⟩ : _ ∧ _ = w'))) ?_
  rintro _ _ ⟨rfl, rfl⟩
  go_wp2_with fail
  refine Calls.mono (alive_calls _) ?_
  rintro _ w9 ⟨rfl, hb9⟩
  go_wp2
  go_ret
  exact ⟨rfl, HX6.out.trans (hb9.mono HX6.out.size)⟩
end Go.Proofs.YtnjkagopmfenkaaGreat

namespace Go.Proofs.YtnjkagopmfenkaaGreat
open Go Go.RowKit Go.ChangeShapes Go.WideShapes Go.ChangeAt
set_option linter.unusedVariables false
set_option linter.unusedSimpArgs false

set_option maxRecDepth 100000 in
theorem tosixTells_open {H : Type} {enc : TypeId × Value → H} {W : World} {base : Nat} (v0 v1 v2 : Value) {d0 d1 d2 : DataW H} {p0 p1 p2 : List MemPlace}
    (o0 : Value.okWide Tryz.prog W .any base 27 v0) (h0 : DataW.Trod enc Tryz.prog W 0 (fun _ => true) true 27 v0 d0 p0) (z0 : ∀ k ∈ d0.weights Tryz.prog 27, k ≤ reachBytes)
    (o1 : Value.okWide Tryz.prog W .any base 5 v1) (h1 : DataW.Trod enc Tryz.prog W 0 (fun _ => true) true 5 v1 d1 p1) (z1 : ∀ k ∈ d1.weights Tryz.prog 5, k ≤ reachBytes)
    (o2 : Value.okWide Tryz.prog W .any base 22 v2) (h2 : DataW.Trod enc Tryz.prog W 0 (fun _ => true) true 22 v2 d2 p2) (z2 : ∀ k ∈ d2.weights Tryz.prog 22, k ≤ reachBytes) :
    Calls Tryz.prog 6 #[v0, v1, v2] W fun e w' => e = .returned (.bool true) ∧ Below W.heap.size W w' := by
  obtain ⟨f, mf, off, so, sb, opts, body, rfl, hf, hr1, hr2, ho⟩ := open_dg h0 z0
  obtain ⟨n, rfl, _, _, w1⟩ := open_int Tryz.underlying5 o1 h1
  obtain ⟨m, rfl, _, _, w2⟩ := open_int Tryz.underlying22 o2 h2
  have b1 := bounds_u8 w1
  have b2 := bounds_u16 w2
  exact tosixTells_walk f mf off so sb opts body n m W hr1 hr2 ho (by omega) (by omega)
end Go.Proofs.YtnjkagopmfenkaaGreat

namespace Go.Proofs.YtnjkagopmfenkaaGreat.tosixTells
open Go.ChangeShapes Go.WideShapes Go.ChangeAt Go.RowKit
set_option linter.unusedVariables false

theorem own : ownKnob Tryz.prog.godebug = none := by kernel_rfl
theorem laidOut : laidOutB Tryz.prog = true := by kernel_rfl

set_option maxRecDepth 100000 in
theorem lifted (os : Os) (started : os.Started) (H : Type) (enc : TypeId × Value → H) :
    ReturnsInHanded {} Tryz.checked os 6 .any (Rows.tosixTellsSpec.pre6 enc Tryz.prog Tryz.f6 Rows.tosixTellsRow.domain false) (Rows.tosixTellsSpec.post enc Tryz.prog Tryz.f6 false true false false) := by
  refine returnsInHanded_of_change_sized (C := Tryz.checked) own started (by kernel_rfl) Tryz.func6
    (ChangeSpec.witness6 (enc := enc) (C := Tryz.checked) false ⟨#[], #[.agg #[.int .u8 0, .int .u16 0, .bool false, .bool false, .int .i64 0, .int .u8 0, .int .u8 0, .int .u8 0, .int .u8 0, .int .u8 0, .int .u8 0, .int .u8 0, .int .u8 0, .int .u8 0, .int .u8 0, .slice none 0 0, .slice none 0 0], .int .u8 0, .int .u16 0], []⟩ 8 (by kernel_rfl) (by kernel_rfl) (by kernel_rfl) (by kernel_rfl)) ?_
  intro W base args ds gs before hval0 hW hcnd hsz0 _
  have hval : ∀ (j : Nat) t v, Tryz.f6.params[j]? = some t → args[j]? = some v → Value.okWide Tryz.prog W .any base t v := hval0
  have hW' := hW
  obtain ⟨p, q, hA0, hV, rfl, hfz, hnd⟩ := hW
  have hA : DataW.TrodAll enc Tryz.prog W 0 (fun _ => true) true Tryz.f6.params.toList args.toList ds p := hA0
  have hsz : (DataW.weightsEach Tryz.prog (Tryz.f6.params.toList ++ Rows.tosixTellsSpec.plain.varTypes Tryz.prog) (ds ++ gs)).all (· ≤ reachBytes) = true := hsz0
  rw [Tryz.params6] at hA hval hsz
  obtain ⟨v0, vs0, d0, ds0, p0, q0, hargs, rfl, rfl, h0, r0⟩ := trodAll_cons hA
  obtain ⟨v1, vs1, d1, ds1, p1, q1, rfl, rfl, rfl, h1, r1⟩ := trodAll_cons r0
  obtain ⟨v2, vs2, d2, ds2, p2, q2, rfl, rfl, rfl, h2, r2⟩ := trodAll_cons r1
  obtain ⟨rfl, rfl, rfl⟩ := trodAll_nil r2
  obtain rfl : args = #[v0, v1, v2] := by cases args; simp_all
  obtain ⟨rfl, rfl⟩ := trodVars_none hV
  have lt0 : ∀ x ∈ p0, x.block < W.heap.size := by obtain ⟨m, hm⟩ := h0; exact DataW.trod_lt m _ _ _ hm
  have lt1 : ∀ x ∈ p1, x.block < W.heap.size := by obtain ⟨m, hm⟩ := h1; exact DataW.trod_lt m _ _ _ hm
  have lt2 : ∀ x ∈ p2, x.block < W.heap.size := by obtain ⟨m, hm⟩ := h2; exact DataW.trod_lt m _ _ _ hm
  have z0 : ∀ k ∈ d0.weights Tryz.prog 27, k ≤ reachBytes := fun k hk => of_decide_eq_true (List.all_eq_true.1 hsz k (DataW.weights_mem_each (j := 0) rfl rfl k hk))
  have z1 : ∀ k ∈ d1.weights Tryz.prog 5, k ≤ reachBytes := fun k hk => of_decide_eq_true (List.all_eq_true.1 hsz k (DataW.weights_mem_each (j := 1) rfl rfl k hk))
  have z2 : ∀ k ∈ d2.weights Tryz.prog 22, k ≤ reachBytes := fun k hk => of_decide_eq_true (List.all_eq_true.1 hsz k (DataW.weights_mem_each (j := 2) rfl rfl k hk))
  clear hA0 hval0 hsz0
  refine (tosixTells_open v0 v1 v2 (hval 0 27 v0 rfl rfl) h0 z0 (hval 1 5 v1 rfl rfl) h1 z1 (hval 2 22 v2 rfl rfl) h2 z2).mono fun e W' ⟨he, bel⟩ => ?_
  subst he
  exact ⟨_, rfl, _, _, _, [], _, [], hW', trodAll_mk1 (shut_bool Tryz.underlying4 _), (trodAll_cons_mk (Below.trod laidOut (by kernel_rfl) (of_decide_eq_true (by kernel_rfl)) h0 bel lt0) (trodAll_cons_mk (Below.trod laidOut (by kernel_rfl) (of_decide_eq_true (by kernel_rfl)) h1 bel lt1) (trodAll_cons_mk (Below.trod laidOut (by kernel_rfl) (of_decide_eq_true (by kernel_rfl)) h2 bel lt2) trodAll_mk0))), rfl, bel.frame _, fun h => by cases h⟩

theorem over : Rows.tosixTellsRow.holds Tryz.pinned (OpenSpec.ofChange Rows.tosixTellsSpec) :=
  OpenClaim.holds_of_wide 6 Tryz.f6 rfl rfl rfl rfl rfl rfl rfl ⟨rfl, rfl, rfl, rfl, rfl⟩ rfl rfl rfl rfl rfl (by kernel_rfl) Tryz.func6 (by kernel_rfl)
    (of_decide_eq_true (by kernel_rfl)) (by unfold Func.isWrapper; first | (rw [if_pos (by decide +kernel)]; kernel_rfl) | (rw [if_neg (by decide +kernel)]; exact ⟨rfl, rfl⟩))
    (fun os started H enc _ => lifted os started H enc)

theorem proved : Rows.TosixTellsSaid := over
#print axioms proved
end Go.Proofs.YtnjkagopmfenkaaGreat.tosixTells
