/-
  TofourTells: the walk.
  The statement TofourTells.
  TofourTells shows of which packet a datagram tells, and which place and which MTU are which.
-/
import Derived.Test.YtpgnnplpcalbbaaGreatFold39
import Derived.Test.YtpgnnplpcalbbaaGreatFold35
import Derived.Test.YtpgnnplpcalbbaaGreatFold36
import Derived.Test.YtpgnnplpcalbbaaGreatFold10
import Derived.OpenShut
import Derived.ChangeArms
import Derived.ProofKit
import Derived.SizedLaws
import Derived.Test.YtpgnnplpcalbbaaGreatRows
import Derived.WalkKit
import Derived.ShutString
import Derived.ChangeOld
import Derived.Below
set_option linter.unusedVariables false
set_option linter.unusedSimpArgs false
namespace Go.Proofs.YtpgnnplpcalbbaaGreat
open Go Go.RowKit Go.Shelf
set_option maxHeartbeats 8000000 in
set_option maxRecDepth 100000 in
theorem tofourTells_walk (f : V6.F6) (g : V6.G6) (vh vb : Value) (hs : V6.Opts) (A B body : List Int) (n mtu : Int) (w : World) (h : SIn w f vh vb hs A B body) (hoff : -9223372036854775808 ≤ g.off ∧ g.off ≤ 9223372036854775807) (hn : 0 ≤ n ∧ n ≤ 4294967295) (hm : 0 ≤ mtu ∧ mtu ≤ 4294967295) :
    Calls Tryz.prog 12 #[V6.VV f g vh vb, .int .u32 n, .int .u32 mtu] w fun e w' => e = .returned (.bool true) ∧ Below w.heap.size w w' := by
  obtain ⟨W0, hW0⟩ : ∃ W0, w.alloc (V6.BV f g vh vb) = W0 := ⟨_, rfl⟩
  have b0 := blk_new w (V6.BV f g vh vb)
  have hB0 := (Below.refl w.heap.size w).alloc (Nat.le_refl _) (V6.BV f g vh vb)
  rw [hW0] at b0 hB0
  have hz0 : Below W0.heap.size W0 W0 := Below.refl _ _
  obtain ⟨V, hV⟩ : ∃ V, vaS (V6.ckE f hs g body.length) g f.proto A B body = V := ⟨_, rfl⟩
  obtain ⟨tb, htb⟩ : ∃ tb, telS (V6.ckE f hs g body.length) g f.proto A B body = tb := ⟨_, rfl⟩
  obtain ⟨ck, hck⟩ : ∃ ck, V6.ckE f hs g body.length = ck := ⟨_, rfl⟩
  have lV : V.length = 32 := hV ▸ vaS_len _ _ _ _ _ _
  have fV : Fit V := hV ▸ vaS_fit _ _ _ _ _ _ h.d6.bd.row.fit
  have HT1 : Hid (∀ W, Below W0.heap.size W0 W → Calls Tryz.prog 45 #[V6.VV f g vh vb] W fun e w' => e = .returned (.tuple #[.agg (u8L V).toArray, .bool tb, .int .i64 ck]) ∧ Below W.heap.size W w') := fun W hW => by
    have := Tells6_calls f g vh vb hs A B body W (h.on (hB0.trans (hW.mono hB0.size))) hoff
    unfold SOut at this
    rw [hV, htb, hck] at this
    exact this
  have HT2 : Hid (∀ W, Below W0.heap.size W0 W → Calls Tryz.prog 46 #[V6.VV f g vh vb] W fun e w' => e = .returned (.tuple #[.agg (u8L V).toArray, .bool tb, .int .i64 ck]) ∧ Below W.heap.size W w') := fun W hW => by
    have := RTells6_calls f g vh vb hs A B body W (h.on (hB0.trans (hW.mono hB0.size))) hoff
    unfold SOut at this
    rw [hV, htb, hck] at this
    exact this
  have HLV : Hid (∀ W, Below W0.heap.size W0 W → (Instr.loadAt 36 (.pointer (some ⟨w.heap.size, 0, none⟩))).run Tryz.prog W = .ok (V6.VV f g vh vb) W) := fun W hW => V6.vb_load (blk_on b0 hW)
  have HQ : Hid (∀ W, (binOp .eql 31 (.agg (u8L V).toArray) (.agg (u8L V).toArray)).run Tryz.prog W = .ok (.bool true) W) := fun W => eqlEnds6 V fV lV W
  have lC : (u8L V).length = 32 := by rw [u8L_len, lV]
  have oC : ∀ v ∈ u8L V, v.oneCell' = true := fun v hv => by
    obtain ⟨z, _, rfl⟩ := List.mem_map.1 hv
    rfl
  have HP1 : Hid _ := Pointer6_calls n hn
  have HP2 : Hid _ := RPointer6_calls n hn
  have HM1 : Hid _ := MTU6_calls mtu hm
  have HM2 : Hid _ := RMTU6_calls mtu hm
  have HB0 : Hid _ := hB0
  clear b0 hB0 h hoff hn hm hV htb hck lV fV
  unfold V6.VV V6.BV at *
  generalize (V6.vC f g vh vb).toArray = vc at *
  generalize ptrS n = pl at *
  generalize ptrSB n = pb at *
  generalize mtuS mtu = ml at *
  generalize u8L V = C at *
  go_enter Tryz.func12, Tryz.ntmps12
  go_wp2_with ((with_reducible show wpList _ _ _ ({ dst := _, op := Op.load 36 (Operand.tmp 3), type := _, pos := _, after := _, guard := _ } :: _) _ _); refine arm_load rfl (.tmp 3) 36 rfl rfl (HLV.out _ hz0) ?_)
  refine Calls.mono (HT1.out _ hz0) ?_
  rintro _ w3 ⟨rfl, hb3⟩
  obtain ⟨w4, st4, b4, hb4⟩ := V6.box_new Tryz.sizeOf31 w3 [.int .u8 0, .int .u8 0, .int .u8 0, .int .u8 0, .int .u8 0, .int .u8 0, .int .u8 0, .int .u8 0, .int .u8 0, .int .u8 0, .int .u8 0, .int .u8 0, .int .u8 0, .int .u8 0, .int .u8 0, .int .u8 0, .int .u8 0, .int .u8 0, .int .u8 0, .int .u8 0, .int .u8 0, .int .u8 0, .int .u8 0, .int .u8 0, .int .u8 0, .int .u8 0, .int .u8 0, .int .u8 0, .int .u8 0, .int .u8 0, .int .u8 0, .int .u8 0] rfl C lC oC
  have hz3 := hz0.trans (hb3.mono hz0.size)
  have hz4 := hz3.trans (hb4.mono hz3.size)
  have HS4 : Hid _ := st4
  have B4 : Hid _ := b4
  clear hz3 st4 b4 hb3 hb4 HT1
  go_wp2_with first
    | ((with_reducible show wpList _ _ _ ({ dst := _, op := Op.store 31 (Operand.tmp 7) (Operand.tmp 20), type := _, pos := _, after := _, guard := _ } :: _) _ _); refine arm_store rfl (.tmp 7) (.tmp 20) 31 rfl rfl rfl HS4.out ?_)
    | ((with_reducible show wpList _ _ _ ({ dst := _, op := Op.load 36 (Operand.tmp 3), type := _, pos := _, after := _, guard := _ } :: _) _ _); refine arm_load rfl (.tmp 3) 36 rfl rfl (HLV.out _ hz4) ?_)
  refine Calls.mono (HT2.out _ hz4) ?_
  rintro _ w5 ⟨rfl, hb5⟩
  obtain ⟨w6, st6, b6, hb6⟩ := V6.box_new Tryz.sizeOf31 w5 [.int .u8 0, .int .u8 0, .int .u8 0, .int .u8 0, .int .u8 0, .int .u8 0, .int .u8 0, .int .u8 0, .int .u8 0, .int .u8 0, .int .u8 0, .int .u8 0, .int .u8 0, .int .u8 0, .int .u8 0, .int .u8 0, .int .u8 0, .int .u8 0, .int .u8 0, .int .u8 0, .int .u8 0, .int .u8 0, .int .u8 0, .int .u8 0, .int .u8 0, .int .u8 0, .int .u8 0, .int .u8 0, .int .u8 0, .int .u8 0, .int .u8 0, .int .u8 0] rfl C lC oC
  have hz6 := hz4.trans ((hb5.trans (hb6.mono hb5.size)).mono hz4.size)
  have HS6 : Hid _ := st6
  have HL7 : Hid ((Instr.loadAt 31 (.pointer (some ⟨w3.heap.size, 0, none⟩))).run Tryz.prog w6 = .ok (.agg C.toArray) w6) := agg_load Tryz.isAgg31 Tryz.sizeOf31 lC (CellsAt.of_blk (blk_on B4.out (hb5.trans (hb6.mono hb5.size))))
  have HL10 : Hid ((Instr.loadAt 31 (.pointer (some ⟨w5.heap.size, 0, none⟩))).run Tryz.prog w6 = .ok (.agg C.toArray) w6) := agg_load Tryz.isAgg31 Tryz.sizeOf31 lC (CellsAt.of_blk b6)
  have HX6 : Hid (Below w.heap.size w w6) := HB0.out.trans (hz6.mono HB0.out.size)
  clear st6 b6 hb6 hb5 hz4 hz6 HT2 HLV B4
  go_wp2_with ((with_reducible show wpList _ _ _ ({ dst := _, op := Op.store 31 (Operand.tmp 10) (Operand.tmp 26), type := _, pos := _, after := _, guard := _ } :: _) _ _); refine arm_store rfl (.tmp 10) (.tmp 26) 31 rfl rfl rfl HS6.out ?_)
  refine Calls.mono ((HP1.out _).mono (fun e w' k => (⟨k.1, k.2.symm⟩ : _ ∧ _ = w'))) ?_
  rintro _ _ ⟨rfl, rfl⟩
  go_wp2_with fail
  refine Calls.mono ((HP2.out _).mono (fun e w' k => (⟨k.1, k.2.symm⟩ : _ ∧ _ = w'))) ?_
  rintro _ _ ⟨rfl, rfl⟩
  go_wp2_with first
    | ((with_reducible show wpList _ _ _ ({ dst := _, op := Op.load 31 (Operand.tmp 7), type := _, pos := _, after := _, guard := _ } :: _) _ _); refine arm_load rfl (.tmp 7) 31 rfl rfl HL7.out ?_)
    | ((with_reducible show wpList _ _ _ ({ dst := _, op := Op.load 31 (Operand.tmp 10), type := _, pos := _, after := _, guard := _ } :: _) _ _); refine arm_load rfl (.tmp 10) 31 rfl rfl HL10.out ?_)
    | ((with_reducible show wpList _ _ _ ({ dst := _, op := Op.binOp BinOp.eql 31 _ _ _, type := _, pos := _, after := _, guard := _ } :: _) _ _); refine arm_bin rfl .eql 31 31 (.tmp 39) (.tmp 40) rfl rfl rfl (gdEnds6 _ _ _ _ _) (HQ.out _) ?_)
  refine Calls.mono ((HM1.out _).mono (fun e w' k => (⟨k.1, k.2.symm⟩ : _ ∧ _ = w'))) ?_
  rintro _ _ ⟨rfl, rfl⟩
  go_wp2_with fail
  refine Calls.mono ((HM2.out _).mono (fun e w' k => (⟨k.1, k.2.symm⟩ : _ ∧ _ = w'))) ?_
  rintro _ _ ⟨rfl, rfl⟩
  go_wp2_with fail
  refine Calls.mono (awake_calls _) ?_
  rintro _ w9 ⟨rfl, hb9⟩
  go_wp2
  go_ret
  exact ⟨rfl, HX6.out.trans (hb9.mono HX6.out.size)⟩
end Go.Proofs.YtpgnnplpcalbbaaGreat
namespace Go.Proofs.YtpgnnplpcalbbaaGreat
open Go Go.RowKit Go.ChangeShapes Go.WideShapes Go.ChangeAt
set_option maxRecDepth 100000 in
theorem tofourTells_open {H : Type} {enc : TypeId × Value → H} {W : World} {base : Nat} (v0 v1 v2 : Value) {d0 d1 d2 : DataW H} {p0 p1 p2 : List MemPlace}
    (o0 : Value.okWide Tryz.prog W .any base 36 v0) (h0 : DataW.Trod enc Tryz.prog W 0 (fun _ => true) true 36 v0 d0 p0) (z0 : ∀ k ∈ d0.weights Tryz.prog 36, k ≤ reachBytes)
    (o1 : Value.okWide Tryz.prog W .any base 33 v1) (h1 : DataW.Trod enc Tryz.prog W 0 (fun _ => true) true 33 v1 d1 p1) (z1 : ∀ k ∈ d1.weights Tryz.prog 33, k ≤ reachBytes)
    (o2 : Value.okWide Tryz.prog W .any base 33 v2) (h2 : DataW.Trod enc Tryz.prog W 0 (fun _ => true) true 33 v2 d2 p2) (z2 : ∀ k ∈ d2.weights Tryz.prog 33, k ≤ reachBytes) :
    Calls Tryz.prog 12 #[v0, v1, v2] W fun e w' => e = .returned (.bool true) ∧ Below W.heap.size W w' := by
  obtain ⟨f, g, vh, vb, hs, body, rfl, hd, ho, -, ⟨A, hA, fA⟩, -, -, -⟩ := V6.open_v6 h0 z0
  obtain ⟨n, rfl, _, _, w1⟩ := open_int Tryz.underlying33 o1 h1
  obtain ⟨m, rfl, _, _, w2⟩ := open_int Tryz.underlying33 o2 h2
  have b1 := bounds_u32 w1
  have b2 := bounds_u32 w2
  have lA : A.length = 32 := by
    have := f.len
    rw [hA, u8L_len] at this
    exact this
  have hAB : f.ad = u8L (A.take 16) ++ u8L (A.drop 16) := by
    rw [hA]
    unfold u8L
    rw [← List.map_append, List.take_append_drop]
  exact tofourTells_walk f g vh vb hs (A.take 16) (A.drop 16) body n m W ⟨hd, hAB, by rw [List.length_take]; omega, by rw [List.length_drop]; omega, fun z hz => fA z (List.mem_of_mem_take hz), fun z hz => fA z (List.mem_of_mem_drop hz)⟩ ho (by omega) (by omega)
end Go.Proofs.YtpgnnplpcalbbaaGreat
namespace Go.Proofs.YtpgnnplpcalbbaaGreat.tofourTells
open Go.ChangeShapes Go.WideShapes Go.ChangeAt Go.RowKit
theorem own : ownKnob Tryz.prog.godebug = none := by kernel_rfl
theorem laidOut : laidOutB Tryz.prog = true := by kernel_rfl
set_option maxRecDepth 100000 in
theorem lifted (os : Os) (started : os.Started) (H : Type) (enc : TypeId × Value → H) :
    ReturnsInHanded {} Tryz.checked os 12 .any (Rows.tofourTellsSpec.pre6 enc Tryz.prog Tryz.f12 Rows.tofourTellsRow.domain false) (Rows.tofourTellsSpec.post enc Tryz.prog Tryz.f12 false true false false) := by
  refine returnsInHanded_of_change_sized (C := Tryz.checked) own started (by kernel_rfl) Tryz.func12
    (ChangeSpec.witness6 (enc := enc) (C := Tryz.checked) false ⟨#[], #[.agg #[.int .u8 0, .int .u32 0, .int .u8 0, .int .u8 0, .int .u8 0, .int .u8 0, .int .u8 0, .int .u8 0, .int .u8 0, .int .u8 0, .int .u8 0, .int .u8 0, .int .u8 0, .int .u8 0, .int .u8 0, .int .u8 0, .int .u8 0, .int .u8 0, .int .u8 0, .int .u8 0, .int .u8 0, .int .u8 0, .int .u8 0, .int .u8 0, .int .u8 0, .int .u8 0, .int .u8 0, .int .u8 0, .int .u8 0, .int .u8 0, .int .u8 0, .int .u8 0, .int .u8 0, .int .u8 0, .int .u8 0, .slice none 0 0, .bool false, .int .u32 0, .int .i64 0, .bool false, .int .u8 0, .slice none 0 0], .int .u32 0, .int .u32 0], []⟩ 8 (by kernel_rfl) (by kernel_rfl) (by kernel_rfl) (by kernel_rfl)) ?_
  intro W base args ds gs before hval0 hW hcnd hsz0 _
  have hval : ∀ (j : Nat) t v, Tryz.f12.params[j]? = some t → args[j]? = some v → Value.okWide Tryz.prog W .any base t v := hval0
  have hW' := hW
  obtain ⟨p, q, hA0, hV, rfl, hfz, hnd⟩ := hW
  have hA : DataW.TrodAll enc Tryz.prog W 0 (fun _ => true) true Tryz.f12.params.toList args.toList ds p := hA0
  have hsz : (DataW.weightsEach Tryz.prog (Tryz.f12.params.toList ++ Rows.tofourTellsSpec.plain.varTypes Tryz.prog) (ds ++ gs)).all (· ≤ reachBytes) = true := hsz0
  rw [Tryz.params12] at hA hval hsz
  obtain ⟨v0, vs0, d0, ds0, p0, q0, hargs, rfl, rfl, h0, r0⟩ := trodAll_cons hA
  obtain ⟨v1, vs1, d1, ds1, p1, q1, rfl, rfl, rfl, h1, r1⟩ := trodAll_cons r0
  obtain ⟨v2, vs2, d2, ds2, p2, q2, rfl, rfl, rfl, h2, r2⟩ := trodAll_cons r1
  obtain ⟨rfl, rfl, rfl⟩ := trodAll_nil r2
  obtain rfl : args = #[v0, v1, v2] := by cases args; simp_all
  obtain ⟨rfl, rfl⟩ := trodVars_none hV
  have lt0 : ∀ x ∈ p0, x.block < W.heap.size := by obtain ⟨m, hm⟩ := h0; exact DataW.trod_lt m _ _ _ hm
  have lt1 : ∀ x ∈ p1, x.block < W.heap.size := by obtain ⟨m, hm⟩ := h1; exact DataW.trod_lt m _ _ _ hm
  have lt2 : ∀ x ∈ p2, x.block < W.heap.size := by obtain ⟨m, hm⟩ := h2; exact DataW.trod_lt m _ _ _ hm
  have z0 : ∀ k ∈ d0.weights Tryz.prog 36, k ≤ reachBytes := fun k hk => of_decide_eq_true (List.all_eq_true.1 hsz k (DataW.weights_mem_each (j := 0) rfl rfl k hk))
  have z1 : ∀ k ∈ d1.weights Tryz.prog 33, k ≤ reachBytes := fun k hk => of_decide_eq_true (List.all_eq_true.1 hsz k (DataW.weights_mem_each (j := 1) rfl rfl k hk))
  have z2 : ∀ k ∈ d2.weights Tryz.prog 33, k ≤ reachBytes := fun k hk => of_decide_eq_true (List.all_eq_true.1 hsz k (DataW.weights_mem_each (j := 2) rfl rfl k hk))
  clear hA0 hval0 hsz0
  refine (tofourTells_open v0 v1 v2 (hval 0 36 v0 rfl rfl) h0 z0 (hval 1 33 v1 rfl rfl) h1 z1 (hval 2 33 v2 rfl rfl) h2 z2).mono fun e W' ⟨he, bel⟩ => ?_
  subst he
  exact ⟨_, rfl, _, _, _, [], _, [], hW', trodAll_mk1 (shut_bool Tryz.underlying4 _), (trodAll_cons_mk (Below.trod laidOut (by kernel_rfl) (of_decide_eq_true (by kernel_rfl)) h0 bel lt0) (trodAll_cons_mk (Below.trod laidOut (by kernel_rfl) (of_decide_eq_true (by kernel_rfl)) h1 bel lt1) (trodAll_cons_mk (Below.trod laidOut (by kernel_rfl) (of_decide_eq_true (by kernel_rfl)) h2 bel lt2) trodAll_mk0))), rfl, bel.frame _, fun h => by cases h⟩
theorem over : Rows.tofourTellsRow.holds Tryz.pinned (OpenSpec.ofChange Rows.tofourTellsSpec) :=
  OpenClaim.holds_of_wide 12 Tryz.f12 rfl rfl rfl rfl rfl rfl rfl ⟨rfl, rfl, rfl, rfl, rfl⟩ rfl rfl rfl rfl rfl (by kernel_rfl) Tryz.func12 (by kernel_rfl)
    (of_decide_eq_true (by kernel_rfl)) (by unfold Func.isWrapper; first | (rw [if_pos (by decide +kernel)]; kernel_rfl) | (rw [if_neg (by decide +kernel)]; exact ⟨rfl, rfl⟩))
    (fun os started H enc _ => lifted os started H enc)
theorem proved : Rows.TofourTellsSaid := over
#print axioms proved
end Go.Proofs.YtpgnnplpcalbbaaGreat.tofourTells
