/-
  The statement SplitsixMakes.
-/
import Derived.Test.YtcllcinekohklaaXg3
namespace Go.Proofs.Ytcllcinekohklaa
open Go Go.RowKit
set_option linter.unusedVariables false
set_option linter.unusedSimpArgs false

open Go.ChangeShapes Go.WideShapes Go.ChangeAt
theorem spL_len (en : Option Int) (L : List FG) : (spL en L).length = cntN en L.length := by cases en <;> rfl
section
variable {S : Nat → Prop} {w : World} {f : F6} (g : G6) {vh vb : Value} {hs : Opts} {body : List Int} (mtu : Int)
set_option maxHeartbeats 4000000 in
set_option maxRecDepth 100000 in
theorem RCount_any (hmt : -9223372036854775808 ≤ mtu ∧ mtu ≤ 9223372036854775807) (h : D6 S w f vh vb hs body) : Calls Try.prog 11 #[VV f g vh vb, .int .i64 mtu] w fun e w' => e = .returned (.tuple #[.int .i64 (cntN (fragP f hs g body mtu 0).2 (fragP f hs g body mtu 0).1.length), .int .i64 (enE (fragP f hs g body mtu 0).2)]) ∧ Below w.heap.size w w' := by
  obtain ⟨w0, hw0⟩ : ∃ w0, w0 = w.alloc (BV f g vh vb) := ⟨_, rfl⟩
  have hb0 : w0.heap[w.heap.size]? = some (BV f g vh vb) := by rw [hw0]; exact blk_new w (BV f g vh vb)
  have hB0 : Below w.heap.size w w0 := by rw [hw0]; exact (Below.refl w.heap.size w).alloc (Nat.le_refl _) (BV f g vh vb)
  have HL0 : Hid _ := vb_load hb0
  have HB0 : Hid (Below w.heap.size w w0) := hB0
  have HSP : Hid (Calls Try.prog 9 #[VV f g vh vb, .int .i64 mtu, .int .u32 0] w0 (RSpP f hs w0 (fragP f hs g body mtu 0).2 (fragP f hs g body mtu 0).1)) := RSplit_any g mtu 0 hmt (h.on hB0)
  have hW := hw0.symm
  rw [← spL_len]
  clear hb0 hB0 hw0 h
  generalize (fragP f hs g body mtu 0).2 = en at *
  generalize (fragP f hs g body mtu 0).1 = L at *
  obtain ⟨N, hN⟩ : ∃ N, (spL en L).length = N := ⟨_, rfl⟩
  obtain ⟨E, hE⟩ : ∃ E, enE en = E := ⟨_, rfl⟩
  rw [hN, hE]
  have HN : Hid ((spL en L).length = N) := hN
  have HE : Hid (enE en = E) := hE
  clear hN hE
  go_enter Try.func11, Try.ntmps11
  go_wp2_with first
    | ((with_reducible show wpList _ _ _ ({ dst := _, op := Op.load 28 (Operand.tmp 2), type := _, pos := _, after := _, guard := _ } :: _) _ _); refine armL (.tmp 2) 28 rfl rfl rfl HL0.out ?_)
  refine Calls.mono HSP.out ?_
  rintro e w2 ⟨v, rfl, hr, hb2⟩
  obtain ⟨a1, c1, e1⟩ := hr.slc
  rw [HN.out] at e1
  rw [HE.out]
  subst e1
  have HB2 : Hid (Below w.heap.size w w2) := HB0.out.trans (hb2.mono HB0.out.size)
  clear hr hb2 HSP HL0 HB0
  go_wp2
  go_ret2
  exact ⟨rfl, HB2.out⟩
end
section
variable (f : F6) (g : G6) (vh vb : Value) (hs : Opts) (body : List Int) (mtu id : Int) (w : World)
set_option maxHeartbeats 4000000 in
set_option maxRecDepth 100000 in
theorem splitsixMakes_walk (hf : AdOk f) (h : D6 (fun b => b < w.heap.size) w f vh vb hs body) (hmt : -9223372036854775808 ≤ mtu ∧ mtu ≤ 9223372036854775807) :
    Calls Try.prog 3 #[VV f g vh vb, .int .i64 mtu, .int .u32 id] w fun e w' => e = .returned (.bool true) ∧ Below w.heap.size w w' := by
  obtain ⟨w0, hw0⟩ : ∃ w0, w0 = w.alloc (BV f g vh vb) := ⟨_, rfl⟩
  have hb0 : w0.heap[w.heap.size]? = some (BV f g vh vb) := by rw [hw0]; exact blk_new w (BV f g vh vb)
  have hB0 : Below w.heap.size w w0 := by rw [hw0]; exact (Below.refl w.heap.size w).alloc (Nat.le_refl _) (BV f g vh vb)
  have hd0 := h.on hB0
  have HV0 : Hid (w0.heap[w.heap.size]? = some (BV f g vh vb)) := hb0
  have HBB : Hid (Below w.heap.size w w0) := hB0
  have HLX : Hid (∀ X, Below w0.heap.size w0 X → (Instr.loadAt 28 (.pointer (some ⟨w.heap.size, 0, none⟩))).run Try.prog X = .ok (VV f g vh vb) X) := fun X hX => vb_load (blk_on hb0 hX)
  have HAD : Hid (AdOk f) := hf
  have HLL : Hid ((spL (fragP f hs g body mtu id).2 (fragP f hs g body mtu id).1).length ≤ 100000) := by
    show _ ≤ _
    rw [spL_len]
    have := fragP_len f hs g body mtu id
    unfold cntN
    split <;> omega
  have HC1 : Hid (Calls Try.prog 8 #[VV f g vh vb, .int .i64 mtu, .int .u32 id] w0 (RSpP f hs w0 (fragP f hs g body mtu id).2 (fragP f hs g body mtu id).1)) := Split_any g mtu id hd0
  have HC2 : Hid (∀ X, Below w0.heap.size w0 X → Calls Try.prog 9 #[VV f g vh vb, .int .i64 mtu, .int .u32 id] X (RSpP f hs X (fragP f hs g body mtu id).2 (fragP f hs g body mtu id).1)) := fun X hX => RSplit_any g mtu id hmt (hd0.on hX)
  have HC3 : Hid (∀ X, Below w0.heap.size w0 X → Calls Try.prog 10 #[VV f g vh vb, .int .i64 mtu] X fun e w' => e = .returned (.tuple #[.int .i64 (cntN (fragP f hs g body mtu 0).2 (fragP f hs g body mtu 0).1.length), .int .i64 (enE (fragP f hs g body mtu 0).2)]) ∧ Below X.heap.size X w') := fun X hX => Count_any g mtu (hd0.on hX)
  have HC4 : Hid (∀ X, Below w0.heap.size w0 X → Calls Try.prog 11 #[VV f g vh vb, .int .i64 mtu] X fun e w' => e = .returned (.tuple #[.int .i64 (cntN (fragP f hs g body mtu 0).2 (fragP f hs g body mtu 0).1.length), .int .i64 (enE (fragP f hs g body mtu 0).2)]) ∧ Below X.heap.size X w') := fun X hX => RCount_any g mtu hmt (hd0.on hX)
  have HC5 : Hid (∀ X, Below w0.heap.size w0 X → Calls Try.prog 12 #[VV f g vh vb, .int .i64 mtu] X fun e w' => e = .returned (.tuple #[.bool (fitA f hs g body.length mtu), .int .i64 (fitE f hs g body.length mtu)]) ∧ Below X.heap.size X w') := fun X hX => Fits_any g mtu (hd0.on hX)
  have HC6 : Hid (∀ X, Below w0.heap.size w0 X → Calls Try.prog 13 #[VV f g vh vb, .int .i64 mtu] X fun e w' => e = .returned (.tuple #[.bool (fitA f hs g body.length mtu), .int .i64 (fitE f hs g body.length mtu)]) ∧ Below X.heap.size X w') := fun X hX => RFits_any g mtu hmt (hd0.on hX)
  have hW := hw0.symm
  clear hb0 hB0 h hw0 hf hd0
  generalize (fragP f hs g body mtu id).2 = en at *
  generalize (fragP f hs g body mtu id).1 = L at *
  generalize cntN (fragP f hs g body mtu 0).2 (fragP f hs g body mtu 0).1.length = CN at *
  generalize enE (fragP f hs g body mtu 0).2 = CE at *
  generalize fitA f hs g body.length mtu = FA at *
  generalize fitE f hs g body.length mtu = FE at *
  generalize enE en = EE at *
  have HL0 : Hid _ := HLX.out _ (Below.refl _ _)
  go_enter Try.func3, Try.ntmps3
  go_wp2_with first
    | ((with_reducible show wpList _ _ _ ({ dst := _, op := Op.load 28 (Operand.tmp 3), type := _, pos := _, after := _, guard := _ } :: _) _ _); refine armL (.tmp 3) 28 rfl rfl rfl HL0.out ?_)
  refine Calls.mono HC1.out ?_
  rintro e w1 ⟨v1, rfl, hr1, hb1⟩
  have HU1 : Hid (Below w0.heap.size w0 w1) := hb1
  have HR1 : Hid (RowV f hs w0.heap.size (fun _ => True) w1 v1 (spL en L)) := hr1
  have HL1 : Hid _ := HLX.out _ HU1.out
  obtain ⟨a1, c1, e1⟩ := hr1.slc
  subst e1
  clear hb1 hr1 HC1 HL0
  go_wp2_with first
    | ((with_reducible show wpList _ _ _ ({ dst := _, op := Op.load 28 (Operand.tmp 3), type := _, pos := _, after := _, guard := _ } :: _) _ _); refine armL (.tmp 3) 28 rfl rfl rfl HL1.out ?_)
  refine Calls.mono (HC2.out _ HU1.out) ?_
  rintro e w2 ⟨v2, rfl, hr2, hb2⟩
  have HU2 : Hid (Below w0.heap.size w0 w2) := HU1.out.trans (hb2.mono HU1.out.size)
  have HR1' : Hid (RowV f hs w0.heap.size (fun _ => True) w2 (.slice a1 (spL en L).length c1) (spL en L)) := HR1.out.on hb2
  have HR2 : Hid (RowV f hs w1.heap.size (fun _ => True) w2 v2 (spL en L)) := hr2
  have HL2 : Hid _ := HLX.out _ HU2.out
  obtain ⟨a2, c2, e2⟩ := hr2.slc
  subst e2
  clear hb2 hr2 HC2 HL1 HR1 HU1
  go_wp2_with first
    | ((with_reducible show wpList _ _ _ ({ dst := _, op := Op.load 28 (Operand.tmp 3), type := _, pos := _, after := _, guard := _ } :: _) _ _); refine armL (.tmp 3) 28 rfl rfl rfl HL2.out ?_)
  refine Calls.mono (HC3.out _ HU2.out) ?_
  rintro e w3 ⟨rfl, hb3⟩
  have HU3 : Hid (Below w0.heap.size w0 w3) := HU2.out.trans (hb3.mono HU2.out.size)
  have HR1' : Hid (RowV f hs w0.heap.size (fun _ => True) w3 (.slice a1 (spL en L).length c1) (spL en L)) := HR1'.out.on hb3
  have HR2 : Hid (RowV f hs w1.heap.size (fun _ => True) w3 (.slice a2 (spL en L).length c2) (spL en L)) := HR2.out.on hb3
  have HL3 : Hid _ := HLX.out _ HU3.out
  clear hb3 HC3 HL2 HU2
  go_wp2_with first
    | ((with_reducible show wpList _ _ _ ({ dst := _, op := Op.load 28 (Operand.tmp 3), type := _, pos := _, after := _, guard := _ } :: _) _ _); refine armL (.tmp 3) 28 rfl rfl rfl HL3.out ?_)
  refine Calls.mono (HC4.out _ HU3.out) ?_
  rintro e w4 ⟨rfl, hb4⟩
  have HU4 : Hid (Below w0.heap.size w0 w4) := HU3.out.trans (hb4.mono HU3.out.size)
  have HR1' : Hid (RowV f hs w0.heap.size (fun _ => True) w4 (.slice a1 (spL en L).length c1) (spL en L)) := HR1'.out.on hb4
  have HR2 : Hid (RowV f hs w1.heap.size (fun _ => True) w4 (.slice a2 (spL en L).length c2) (spL en L)) := HR2.out.on hb4
  have HL4 : Hid _ := HLX.out _ HU4.out
  clear hb4 HC4 HL3 HU3
  go_wp2_with first
    | ((with_reducible show wpList _ _ _ ({ dst := _, op := Op.load 28 (Operand.tmp 3), type := _, pos := _, after := _, guard := _ } :: _) _ _); refine armL (.tmp 3) 28 rfl rfl rfl HL4.out ?_)
  refine Calls.mono (HC5.out _ HU4.out) ?_
  rintro e w5 ⟨rfl, hb5⟩
  have HU5 : Hid (Below w0.heap.size w0 w5) := HU4.out.trans (hb5.mono HU4.out.size)
  have HR1' : Hid (RowV f hs w0.heap.size (fun _ => True) w5 (.slice a1 (spL en L).length c1) (spL en L)) := HR1'.out.on hb5
  have HR2 : Hid (RowV f hs w1.heap.size (fun _ => True) w5 (.slice a2 (spL en L).length c2) (spL en L)) := HR2.out.on hb5
  have HL5 : Hid _ := HLX.out _ HU5.out
  clear hb5 HC5 HL4 HU4
  go_wp2_with first
    | ((with_reducible show wpList _ _ _ ({ dst := _, op := Op.load 28 (Operand.tmp 3), type := _, pos := _, after := _, guard := _ } :: _) _ _); refine armL (.tmp 3) 28 rfl rfl rfl HL5.out ?_)
  refine Calls.mono (HC6.out _ HU5.out) ?_
  rintro e w6 ⟨rfl, hb6⟩
  have HU6 : Hid (Below w0.heap.size w0 w6) := HU5.out.trans (hb6.mono HU5.out.size)
  have HR1' : Hid (RowV f hs w0.heap.size (fun _ => True) w6 (.slice a1 (spL en L).length c1) (spL en L)) := HR1'.out.on hb6
  have HR2 : Hid (RowV f hs w1.heap.size (fun _ => True) w6 (.slice a2 (spL en L).length c2) (spL en L)) := HR2.out.on hb6
  have HL6 : Hid _ := HLX.out _ HU6.out
  clear hb6 HC6 HL5 HU5
  have HSM : Hid _ := rows_same HAD.out HR1'.out HR2.out HLL.out
  generalize (spL en L).length = N at *
  clear HR1' HR2 HLL HL6
  go_wp2_with fail
  refine Calls.mono HSM.out ?_
  rintro e w7 ⟨rfl, hb7⟩
  have HU7 : Hid (Below w0.heap.size w0 w7) := HU6.out.trans (hb7.mono HU6.out.size)
  clear hb7 HSM HU6
  go_wp2_with fail
  refine Calls.mono (awake_calls _) ?_
  rintro e w8 ⟨rfl, hb8⟩
  have HBE : Hid (Below w.heap.size w w8) := (HBB.out.trans (HU7.out.mono HBB.out.size)).trans (hb8.mono (Nat.le_trans HBB.out.size HU7.out.size))
  clear hb8 HU7
  go_wp2
  go_ret
  exact ⟨rfl, HBE.out⟩
end
theorem splitsixMakes_open {H : Type} {enc : TypeId × Value → H} {W : World} {base : Nat} (v0 v1 v2 : Value) {d0 d1 d2 : DataW H} {p0 p1 p2 : List MemPlace}
    (o0 : Value.okWide Try.prog W .any base 28 v0) (h0 : DataW.Trod enc Try.prog W 0 (fun _ => true) true 28 v0 d0 p0) (z0 : ∀ k ∈ d0.weights Try.prog 28, k ≤ reachBytes)
    (o1 : Value.okWide Try.prog W .any base 3 v1) (h1 : DataW.Trod enc Try.prog W 0 (fun _ => true) true 3 v1 d1 p1) (z1 : ∀ k ∈ d1.weights Try.prog 3, k ≤ reachBytes)
    (o2 : Value.okWide Try.prog W .any base 22 v2) (h2 : DataW.Trod enc Try.prog W 0 (fun _ => true) true 22 v2 d2 p2) (z2 : ∀ k ∈ d2.weights Try.prog 22, k ≤ reachBytes) :
    Calls Try.prog 3 #[v0, v1, v2] W fun e w' => e = .returned (.bool true) ∧ Below W.heap.size W w' := by
  obtain ⟨f, g, vh, vb, hs, body, rfl, hd, _, _, ha, _⟩ := open_v6 h0 z0
  obtain ⟨k, rfl, _, _, wk⟩ := open_int Try.underlying3 o1 h1
  obtain ⟨i, rfl, _, _, wi⟩ := open_int Try.underlying22 o2 h2
  exact splitsixMakes_walk f g vh vb hs body k i W ha hd (bounds_i64 wk)

end Go.Proofs.Ytcllcinekohklaa
