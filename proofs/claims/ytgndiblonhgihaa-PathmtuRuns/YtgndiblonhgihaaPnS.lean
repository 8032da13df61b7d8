/-
  The statement PathmtuFalls.
-/
import Derived.Test.YtgndiblonhgihaaPnR
import Derived.Deep.Slices
import Derived.ChangeSlices
import Derived.OpenShut
namespace Go.Proofs.Ytgndiblonhgihaa
open Go Go.RowKit Go.Lib
set_option linter.unusedVariables false
set_option linter.unusedSimpArgs false

/-- Numbers that a slice holds. -/
def IntsAt (W : World) (v : Value) (zs : List Int) : Prop :=
  ∃ ad cap, v = .slice ad zs.length cap ∧ zs.length ≤ cap ∧ cap ≤ maxLen ∧ ∀ (j : Nat) z, zs[j]? = some z → ∃ g off, ad = some ⟨g, off, none⟩ ∧ g < W.heap.size ∧ W.cell? ⟨g, off + j, none⟩ = some (.int .i64 z)
theorem IntsAt.on {W W' : World} {v : Value} {zs : List Int} (h : IntsAt W v zs) (hb : Below W.heap.size W W') : IntsAt W' v zs := by
  obtain ⟨ad, cap, e, h1, h2, h3⟩ := h
  refine ⟨ad, cap, e, h1, h2, fun j z hj => ?_⟩
  obtain ⟨g, off, e2, hg, hc⟩ := h3 j z hj
  exact ⟨g, off, e2, Nat.lt_of_lt_of_le hg hb.size, (hb.cell (p := ⟨g, _, none⟩) hg).trans hc⟩
theorem at_C {W : World} {b : Nat} {cf : Cf} (h : W.heap[b]? = some (.cells (cfC cf).toArray 23)) : (Instr.loadAt 23 (.pointer (some ⟨b, 0, none⟩))).run Try.prog W = .ok (.agg (cfC cf).toArray) W := by
  have c := CellsAt.of_blk h
  rw [List.toList_toArray] at c
  exact agg_load (n := 4) (fun w => by kernel_rfl) (fun w => by kernel_rfl) rfl c
/-- The cache of one path, in the rounds. -/
def InvF (n p pb mb : Nat) (cf : Cf) (d : List Int) (W2 wr : World) (was : Value) : Prop := ∃ L, Cch (n + 2) W2 wr p pb mb cf 0 L ∧ SH cf d L ∧ was = .int .i64 (mtuL cf L d)
theorem InvF.low {n p pb mb : Nat} {cf : Cf} {d : List Int} {W2 wr : World} {was : Value} (h : InvF n p pb mb cf d W2 wr was) : Below (n + 2) W2 wr := by
  obtain ⟨L, h, _⟩ := h
  exact h.bl
set_option maxHeartbeats 16000000 in
set_option maxRecDepth 100000 in
theorem pathmtuFalls_walk {W : World} {cf : Cf} {d : List Int} (hd : K16 d) {v : Value} {zs : List Int} (hv : IntsAt W v zs) :
    Calls Try.prog 5 #[.agg (cfC cf).toArray, .agg (u8s d).toArray, v] W fun e w' => e = .returned (.bool true) ∧ Below W.heap.size W w' := by
  generalize hQ : (fun (e : Ending) (w' : World) => e = .returned (.bool true) ∧ Below W.heap.size W w') = Q
  have HQ : Hid (∀ e w', (e = .returned (.bool true) ∧ Below W.heap.size W w') → Q e w') := fun e w' hh => by rw [← hQ]; exact hh
  clear hQ
  obtain ⟨n, hn⟩ : ∃ n, W.heap.size = n := ⟨_, rfl⟩
  obtain ⟨W1, hW1⟩ : ∃ W1, W1 = W.alloc (.cells (cfC cf).toArray 23) := ⟨_, rfl⟩
  have hB1 : Below n W W1 := by rw [hW1, ← hn]; exact (Below.refl W.heap.size W).alloc (Nat.le_refl _) _
  have hx1 : W1.heap[n]? = some (.cells (cfC cf).toArray 23) := by rw [hW1, ← hn]; exact blk_new W _
  have hs1 : W1.heap.size = n + 1 := by rw [hW1, ← hn]; simp
  obtain ⟨W2, hW2⟩ : ∃ W2, W2 = W1.alloc (.cells (u8s d).toArray 35) := ⟨_, rfl⟩
  have hB2 : Below W1.heap.size W1 W2 := by rw [hW2]; exact (Below.refl W1.heap.size W1).alloc (Nat.le_refl _) _
  have hz2 : W2.heap[n + 1]? = some (.cells (u8s d).toArray 35) := by rw [hW2, ← hs1]; exact blk_new W1 _
  have hs2 : W2.heap.size = n + 2 := by rw [hW2]; simp [hs1]
  have hc2 : W2.heap[n]? = some (.cells (cfC cf).toArray 23) := blk_on hx1 hB2
  have HC2 : Hid (W2.heap[n]? = some (.cells (cfC cf).toArray 23)) := hc2
  have HD2 : Hid (W2.heap[n + 1]? = some (.cells (u8s d).toArray 35)) := hz2
  have HB2 : Hid (Below n W W2) := hB1.trans (hB2.mono (by omega))
  have HN : Hid (W.heap.size = n) := hn
  have HS1 : Hid (W1.heap.size = n + 1) := hs1
  have HS2 : Hid (W2.heap.size = n + 2) := hs2
  have HLC : Hid _ := at_C hc2
  have HK : Hid (K16 d) := hd
  have hll : zs.length ≤ maxLen := by obtain ⟨ad, cap, e, h1, h2, _⟩ := hv; omega
  have hlm : (zs.length : Int) ≤ 9223372036854775807 := by unfold maxLen at hll; omega
  have hv2 : IntsAt W2 v zs := hv.on (by rw [hn]; exact hB1.trans (hB2.mono (by omega)))
  obtain ⟨ad, cap, rfl, hcp, hmx, hcl⟩ := hv2
  have HCLL : Hid (∀ (j : Nat) z, zs[j]? = some z → ∃ g off, ad = some ⟨g, off, none⟩ ∧ g < W2.heap.size ∧ W2.cell? ⟨g, off + j, none⟩ = some (.int .i64 z)) := hcl
  have e1 := hW1.symm
  have e2 := hW2.symm
  clear hcp hmx hcl hB1 hx1 hW1 hB2 hz2 hW2 hc2 hd hv hll
  by_cases hg : ¬ cf.Ok
  · skip
    have HNB : Hid _ := New_bad hg W2
    clear hg
    go_enter Try.func5, Try.ntmps5
    go_wp2_with first
      | ((with_reducible show wpList _ _ _ ({ dst := _, op := Op.load 23 (Operand.tmp 3), type := _, pos := _, after := _, guard := _ } :: _) _ _); refine armL (.tmp 3) 23 rfl rfl rfl (HLC.out) ?_)
    refine Calls.mono HNB.out ?_
    rintro e w3 ⟨rfl, hb3⟩
    have HB3 : Hid (Below n W w3) := HB2.out.trans (hb3.mono (by rw [HS2.out]; omega))
    clear hb3 HNB
    go_wp2_with fail
    refine Calls.mono (awake_any w3) ?_
    rintro e w4 ⟨rfl, hb4⟩
    have HB4 : Hid (Below n W w4) := HB3.out.trans (hb4.mono (by have h1 := HB3.out.size; have h2 := HN.out; omega))
    clear hb4 HB3
    go_wp2
    try go_returns
    exact HQ.out _ _ ⟨rfl, by rw [HN.out]; exact HB4.out⟩
  · replace hg : cf.Ok := Classical.not_not.1 hg
    have HG : Hid cf.Ok := hg
    have HNG : Hid _ := New_cch hg W2
    clear hg
    go_enter Try.func5, Try.ntmps5
    go_wp2_with first
      | ((with_reducible show wpList _ _ _ ({ dst := _, op := Op.load 23 (Operand.tmp 3), type := _, pos := _, after := _, guard := _ } :: _) _ _); refine armL (.tmp 3) 23 rfl rfl rfl (HLC.out) ?_)
    refine Calls.mono HNG.out ?_
    rintro e w3 ⟨p, pb, mb, rfl, hc3⟩
    rw [HS2.out] at hc3
    have HC3 : Hid (Cch (n + 2) W2 w3 p pb mb cf 0 []) := hc3
    clear hc3 HNG
    go_wp2_with fail
    refine Calls.mono (awake_any w3) ?_
    rintro e w4 ⟨rfl, hb4⟩
    have HC4 : Hid (Cch (n + 2) W2 w4 p pb mb cf 0 []) := HC3.out.on hb4
    have cl4 : w4.cell? ⟨n, 1, none⟩ = some (.int .i64 cf.link) := blk_cell (j := 1) ((HC4.out.bl.block n (by omega)).trans HC2.out) rfl
    clear hb4 HC3 e1 e2 hn hs1 hs2
    go_wp2_with fail
    go_loopw [10, 9] (fun i was wr => ∃ k : Nat, k ≤ zs.length ∧ k ≤ 200 ∧ i = .int .i64 k ∧ Hid (InvF n p pb mb cf d W2 wr was)) (fun i _ _ => zs.length - (intOf i).toNat)
    case atStart => exact ⟨0, by omega, by omega, rfl, [], HC4.out, .inl rfl, rfl⟩
    case round =>
      obtain ⟨k, hk, hk2, rfl, HV⟩ := hrel
      clear cl4 HC4
      have HBW : Hid (Below (n + 2) W2 wr) := HV.out.low
      by_cases hlt : k < zs.length ∧ k < 200
      · obtain ⟨h1, h2⟩ := hlt
        have q1 : decide ((k : Int) < zs.length) = true := by simpa using h1
        have q2 : decide ((k : Int) < 200) = true := decide_eq_true (by omega)
        have w9 : IntKind.i64.wrap ((k : Int) + 1) = (k : Int) + 1 := wrap_i64 _ ⟨by omega, by omega⟩
        obtain ⟨z, hz⟩ : ∃ z, zs[k]? = some z := ⟨_, List.getElem?_eq_getElem h1⟩
        obtain ⟨g, off, rfl, hgl, hcz⟩ := HCLL.out k z hz
        obtain ⟨L, hC, hS, rfl⟩ := HV.out
        have HCL : Hid (Cch (n + 2) W2 wr p pb mb cf 0 L) := hC
        have HSH : Hid (SH cf d L) := hS
        have HCZ : Hid (g < n + 2 ∧ W2.cell? ⟨g, off + k, none⟩ = some (.int .i64 z)) := ⟨by rw [← HS2.out]; exact hgl, hcz⟩
        have HLT : Hid (k < zs.length ∧ k < 200) := ⟨h1, h2⟩
        clear hC hS hz hcz hgl hk hk2 HV
        go_wp2_with fail
        refine wp_region_held (S := fun X => X.heap[n + 1]? = some (.cells (u8s d).toArray 35) ∧ X.cell? ⟨g, off + k, none⟩ = some (.int .i64 z)) (by kernel_rfl) ?_
        show wpAnyH _ _ _ _ _ 12 (Array.replicate 12 false) _ wr.drew
        have s0 : wr.drew.heap[n + 1]? = some (.cells (u8s d).toArray 35) ∧ wr.drew.cell? ⟨g, off + k, none⟩ = some (.int .i64 z) := ⟨(HBW.out.drew.block _ (by omega)).trans HD2.out, (HBW.out.drew.cell (p := ⟨g, _, none⟩) HCZ.out.1).trans HCZ.out.2⟩
        have HTF := told_fall (HCL.out.on ((Below.refl _ wr).drew)) HSH.out HG.out HK.out z
        generalize wr.drew = V0 at *
        refine take_wT (i := 0) (d := some 43) (v := .pointer (some ⟨p, 0, none⟩)) rfl rfl rfl (by kernel_rfl) (by kernel_rfl) (by kernel_rfl) (fun _ _ d _ _ h => by cases d <;> exact h) (fun X hS => by kernel_rfl) s0 ?_
        simp only [Act.put, List.setIfInBounds_toArray, List.set_cons_zero, List.set_cons_succ]
        refine take_wT (i := 1) (d := some 44) (v := .agg (u8s d).toArray) rfl rfl rfl (by kernel_rfl) (by kernel_rfl) (by kernel_rfl) (fun _ _ d _ _ h => by cases d <;> exact h) (fun X hS => ex_loadA (.tmp 4) 35 rfl rfl (at_A HK.out.len hS.1)) s0 ?_
        simp only [Act.put, List.setIfInBounds_toArray, List.set_cons_zero, List.set_cons_succ]
        refine take_wT (i := 2) (d := some 45) (v := .slice (some ⟨g, off, none⟩) zs.length cap) rfl rfl rfl (by kernel_rfl) (by kernel_rfl) (by kernel_rfl) (fun _ _ d _ _ h => by cases d <;> exact h) (fun X hS => by kernel_rfl) s0 ?_
        simp only [Act.put, List.setIfInBounds_toArray, List.set_cons_zero, List.set_cons_succ]
        refine take_wT (i := 3) (d := some 46) (v := .int .i64 (k : Int)) rfl rfl rfl (by kernel_rfl) (by kernel_rfl) (by kernel_rfl) (fun _ _ d _ _ h => by cases d <;> exact h) (fun X hS => by kernel_rfl) s0 ?_
        simp only [Act.put, List.setIfInBounds_toArray, List.set_cons_zero, List.set_cons_succ]
        refine take_wT (i := 4) (d := some 47) (v := .pointer (some ⟨g, off + k, none⟩)) rfl rfl rfl (by kernel_rfl) (by kernel_rfl) (by kernel_rfl) (fun _ _ d _ _ h => by cases d <;> exact h) (fun X hS => ex_ixI (.tmp 45) (.tmp 46) rfl rfl rfl HLT.out.1) s0 ?_
        simp only [Act.put, List.setIfInBounds_toArray, List.set_cons_zero, List.set_cons_succ]
        refine take_wT (i := 5) (d := some 48) (v := .int .i64 z) rfl rfl rfl (by kernel_rfl) (by kernel_rfl) (by kernel_rfl) (fun _ _ d _ _ h => by cases d <;> exact h) (fun X hS => ex_loadA (.tmp 47) 3 rfl rfl (ld_int hS.2)) s0 ?_
        simp only [Act.put, List.setIfInBounds_toArray, List.set_cons_zero, List.set_cons_succ]
        refine all_wT (i := 6) (by kernel_rfl) rfl rfl ?_
        refine wp_call (d := some 49) 15 _ rfl (by kernel_rfl) HTF ?_
        rintro _ X1 ⟨more, er, L', rfl, hc', hs', hle, hrr⟩
        have s1 : X1.heap[n + 1]? = some (.cells (u8s d).toArray 35) ∧ X1.cell? ⟨g, off + k, none⟩ = some (.int .i64 z) := ⟨(hc'.bl.block _ (by omega)).trans HD2.out, (hc'.bl.cell (p := ⟨g, _, none⟩) HCZ.out.1).trans HCZ.out.2⟩
        refine ⟨s1, ?_⟩
        simp only [Act.put, List.setIfInBounds_toArray, List.set_cons_zero, List.set_cons_succ]
        refine take_wT (i := 7) (d := some 42) (v := .tuple #[.bool more, .int .i64 er]) rfl rfl rfl (by kernel_rfl) (by kernel_rfl) (by kernel_rfl) (fun _ _ d _ _ h => by cases d <;> exact h) (fun X hS => by kernel_rfl) s1 ?_
        simp only [Act.put, List.setIfInBounds_toArray, List.set_cons_zero, List.set_cons_succ]
        refine take_wT (i := 8) (d := some 50) (v := .bool more) rfl rfl rfl (by kernel_rfl) (by kernel_rfl) (by kernel_rfl) (fun _ _ d _ _ h => by cases d <;> exact h) (fun X hS => by kernel_rfl) s1 ?_
        simp only [Act.put, List.setIfInBounds_toArray, List.set_cons_zero, List.set_cons_succ]
        refine take_wT (i := 9) (d := some 51) (v := .int .i64 er) rfl rfl rfl (by kernel_rfl) (by kernel_rfl) (by kernel_rfl) (fun _ _ d _ _ h => by cases d <;> exact h) (fun X hS => by kernel_rfl) s1 ?_
        simp only [Act.put, List.setIfInBounds_toArray, List.set_cons_zero, List.set_cons_succ]
        refine take_wT (i := 10) (d := some 11) (v := .bool more) rfl rfl rfl (by kernel_rfl) (by kernel_rfl) (by kernel_rfl) (fun _ _ d _ _ h => by cases d <;> exact h) (fun X hS => by kernel_rfl) s1 ?_
        simp only [Act.put, List.setIfInBounds_toArray, List.set_cons_zero, List.set_cons_succ]
        refine take_wT (i := 11) (d := some 12) (v := .int .i64 er) rfl rfl rfl (by kernel_rfl) (by kernel_rfl) (by kernel_rfl) (fun _ _ d _ _ h => by cases d <;> exact h) (fun X hS => by kernel_rfl) s1 ?_
        simp only [Act.put, List.setIfInBounds_toArray, List.set_cons_zero, List.set_cons_succ]
        refine wpAnyH_done (by kernel_rfl) ?_ _
        have c1 := s1.1
        have HCN : Hid (Cch (n + 2) W2 X1 p pb mb cf 0 L') := hc'
        have HSN : Hid (SH cf d L' ∧ mtuL cf L' d ≤ mtuL cf L d) := ⟨hs', hle⟩
        have HRR : Hid (er = 0 ∧ more = decide (mtuL cf L' d < mtuL cf L d) ∨ er = 131 ∧ mtuL cf L' d = mtuL cf L d) := hrr
        have HLX : Hid _ := at_A HK.out.len s1.1
        clear hc' hs' hle hrr s1 s0 HTF c1 HSH HBW HCZ
        go_wp2_with first
          | ((with_reducible show wpList _ _ _ ({ dst := _, op := Op.load 35 (Operand.tmp 4), type := _, pos := _, after := _, guard := _ } :: _) _ _); refine armL (.tmp 4) 35 rfl rfl rfl (HLX.out) ?_)
        refine Calls.mono (HCN.out.get HSN.out.1.len (t := 0) ⟨by decide, by decide⟩ HK.out) ?_
        rintro e w6 ⟨rfl, hc6, -⟩
        rw [HSN.out.1.live HG.out] at hc6 ⊢
        have HC6 : Hid (Cch (n + 2) W2 w6 p pb mb cf 0 L') := hc6
        clear hc6 HLX HCN
        have hfin : InvF n p pb mb cf d W2 w6 (.int .i64 (mtuL cf L' d)) := ⟨L', HC6.out, HSN.out.1, rfl⟩
        have HFIN : Hid _ := hfin
        have HLE := HSN.out.2
        clear hfin HC6 HSN
        generalize mtuL cf L' d = m' at *
        generalize mtuL cf L d = m at *
        have g1 : decide (m' > m) = false := decide_eq_false (by omega)
        have g2 : decide (m < m') = false := decide_eq_false (by omega)
        rcases HRR.out with ⟨rfl, hmo⟩ | ⟨rfl, hmo⟩
        · by_cases hc : m' < m
          · have g3 : decide (m' < m) = true := decide_eq_true hc
            rw [g3] at hmo
            subst hmo
            clear HRR HLE hc
            go_wp2
            go_roundw
            case rel => exact ⟨k + 1, by have := HLT.out; omega, by have := HLT.out; omega, rfl, HFIN.out⟩
            case measure => show zs.length - (k + 1) < zs.length - k; have := HLT.out; omega
          · have g3 : decide (m' < m) = false := decide_eq_false hc
            rw [g3] at hmo
            subst hmo
            clear HRR HLE hc
            go_wp2
            go_roundw
            case rel => exact ⟨k + 1, by have := HLT.out; omega, by have := HLT.out; omega, rfl, HFIN.out⟩
            case measure => show zs.length - (k + 1) < zs.length - k; have := HLT.out; omega
        · subst hmo
          clear HRR HLE
          have g4 : (m' != m') = false := by simp
          go_wp2
          go_roundw
          case rel => exact ⟨k + 1, by have := HLT.out; omega, by have := HLT.out; omega, rfl, HFIN.out⟩
          case measure => show zs.length - (k + 1) < zs.length - k; have := HLT.out; omega
      · obtain ⟨L, hC, hS, rfl⟩ := HV.out
        have HCL : Hid (Cch (n + 2) W2 wr p pb mb cf 0 L) := hC
        have HSH : Hid (SH cf d L) := hS
        have HLX : Hid _ := at_A (W := wr) HK.out.len ((HBW.out.block _ (by omega)).trans HD2.out)
        have cl : wr.cell? ⟨n, 2, none⟩ = some (.int .i64 cf.life) := blk_cell (j := 2) ((HBW.out.block n (by omega)).trans HC2.out) rfl
        have HGT : Hid _ := hC.get hS.len (t := cf.life) ⟨by have := HG.out.life; omega, by have := HG.out.life; omega⟩ HK.out
        have HTE : Hid (¬ (k < zs.length ∧ k < 200)) := hlt
        clear hC hS HV hlt
        by_cases hk3 : k < zs.length
        · have q1 : decide ((k : Int) < zs.length) = true := by simpa using hk3
          have h200 : ¬ k < 200 := by have := HTE.out; omega
          have q2 : decide ((k : Int) < 200) = false := decide_eq_false (by omega)
          clear hk hk2
          go_wp2_with first
            | ((with_reducible show wpList _ _ _ ({ dst := _, op := Op.load 35 (Operand.tmp 4), type := _, pos := _, after := _, guard := _ } :: _) _ _); refine armL (.tmp 4) 35 rfl rfl rfl (HLX.out) ?_)
          refine Calls.mono HGT.out ?_
          rintro e w7 ⟨rfl, hc7, -⟩
          rw [HSH.out.gone] at hc7 ⊢
          have HC7 : Hid (Cch (n + 2) W2 w7 p pb mb cf cf.life []) := hc7
          have HF : Hid (Below n W w7) := HB2.out.trans (hc7.bl.mono (by omega))
          have cl7 : w7.cell? ⟨n, 1, none⟩ = some (.int .i64 cf.link) := blk_cell (j := 1) ((hc7.bl.block n (by omega)).trans HC2.out) rfl
          rw [show mtuL cf [] d = cf.link from rfl]
          have HLN : Hid _ := hc7.len
          have g5 : (cf.link == cf.link) = true := by simp
          clear hc7 HLX HGT cl
          go_wp2_with fail
          refine Calls.mono HLN.out ?_
          rintro e w8 ⟨rfl, hx8⟩
          obtain rfl := hx8.symm
          clear hx8
          go_wp2
          try go_returns
          exact HQ.out _ _ ⟨rfl, by rw [HN.out]; exact HF.out⟩
        · have q1 : decide ((k : Int) < zs.length) = false := decide_eq_false (by omega)
          clear hk hk2
          go_wp2_with first
            | ((with_reducible show wpList _ _ _ ({ dst := _, op := Op.load 35 (Operand.tmp 4), type := _, pos := _, after := _, guard := _ } :: _) _ _); refine armL (.tmp 4) 35 rfl rfl rfl (HLX.out) ?_)
          refine Calls.mono HGT.out ?_
          rintro e w7 ⟨rfl, hc7, -⟩
          rw [HSH.out.gone] at hc7 ⊢
          have HC7 : Hid (Cch (n + 2) W2 w7 p pb mb cf cf.life []) := hc7
          have HF : Hid (Below n W w7) := HB2.out.trans (hc7.bl.mono (by omega))
          have cl7 : w7.cell? ⟨n, 1, none⟩ = some (.int .i64 cf.link) := blk_cell (j := 1) ((hc7.bl.block n (by omega)).trans HC2.out) rfl
          rw [show mtuL cf [] d = cf.link from rfl]
          have HLN : Hid _ := hc7.len
          have g5 : (cf.link == cf.link) = true := by simp
          clear hc7 HLX HGT cl
          go_wp2_with fail
          refine Calls.mono HLN.out ?_
          rintro e w8 ⟨rfl, hx8⟩
          obtain rfl := hx8.symm
          clear hx8
          go_wp2
          try go_returns
          exact HQ.out _ _ ⟨rfl, by rw [HN.out]; exact HF.out⟩
open Go.ChangeShapes Go.WideShapes Go.ChangeAt
theorem list4c {α : Type} {l : List α} (h : l.length = 4) : ∃ x0 x1 x2 x3, l = [x0, x1, x2, x3] := by
  match l, h with
  | [x0, x1, x2, x3], _ => exact ⟨x0, x1, x2, x3, rfl⟩
theorem split_c {l : List Value} (h : l.length = 4) : l = (l.drop 0).take 1 ++ ((l.drop 1).take 1 ++ ((l.drop 2).take 1 ++ ((l.drop 3).take 1))) := by
  match l, h with
  | [_, _, _, _], _ => rfl
set_option maxRecDepth 100000 in
theorem open_conf {H : Type} {enc : TypeId × Value → H} {W : World} {v : Value} {d : DataW H} {p : List MemPlace} (h : DataW.Trod enc Try.prog W 0 (fun _ => true) true 23 v d p) :
    ∃ cf : Cf, v = .agg (cfC cf).toArray ∧ (Lit.int .i64 cf.lim).wf = true ∧ (Lit.int .i64 cf.link).wf = true ∧ (Lit.int .i64 cf.life).wf = true ∧ (Lit.int .i64 cf.least).wf = true := by
  obtain ⟨fuel, hf⟩ := h
  obtain ⟨xs, m, _, hx, hl, hxl, hi⟩ := DataW.trod_struct Try.underlying23 hf
  have c4 : Try.prog.cellsOf 23 = 4 := by kernel_rfl
  rw [c4] at hl
  obtain ⟨x0, x1, x2, x3, rfl⟩ := list4c hxl
  have g0 : DataW.trod enc Try.prog W 0 (fun _ => true) true m 3 ((v.cells.toList.drop 0).take 1) = some x0 := by
    have e : DataW.trod enc Try.prog W 0 (fun _ => true) true m 3 ((v.cells.toList.drop 0).take (Try.prog.cellsOf 3)) = some x0 := hi 0 _ rfl
    rwa [show Try.prog.cellsOf 3 = 1 by kernel_rfl] at e
  have g1 : DataW.trod enc Try.prog W 0 (fun _ => true) true m 3 ((v.cells.toList.drop 1).take 1) = some x1 := by
    have e : DataW.trod enc Try.prog W 0 (fun _ => true) true m 3 ((v.cells.toList.drop 1).take (Try.prog.cellsOf 3)) = some x1 := hi 1 _ rfl
    rwa [show Try.prog.cellsOf 3 = 1 by kernel_rfl] at e
  have g2 : DataW.trod enc Try.prog W 0 (fun _ => true) true m 3 ((v.cells.toList.drop 2).take 1) = some x2 := by
    have e : DataW.trod enc Try.prog W 0 (fun _ => true) true m 3 ((v.cells.toList.drop 2).take (Try.prog.cellsOf 3)) = some x2 := hi 2 _ rfl
    rwa [show Try.prog.cellsOf 3 = 1 by kernel_rfl] at e
  have g3 : DataW.trod enc Try.prog W 0 (fun _ => true) true m 3 ((v.cells.toList.drop 3).take 1) = some x3 := by
    have e : DataW.trod enc Try.prog W 0 (fun _ => true) true m 3 ((v.cells.toList.drop 3).take (Try.prog.cellsOf 3)) = some x3 := hi 3 _ rfl
    rwa [show Try.prog.cellsOf 3 = 1 by kernel_rfl] at e
  obtain ⟨z0, e0, _, f0⟩ := DataW.trod_int Try.underlying3 g0
  obtain ⟨z1, e1, _, f1⟩ := DataW.trod_int Try.underlying3 g1
  obtain ⟨z2, e2, _, f2⟩ := DataW.trod_int Try.underlying3 g2
  obtain ⟨z3, e3, _, f3⟩ := DataW.trod_int Try.underlying3 g3
  have hall := split_c hl
  rw [e0, e1, e2, e3] at hall
  have hv := agg_of hall (by simp)
  exact ⟨⟨z0, z1, z2, z3⟩, hv, f0, f1, f2, f3⟩
set_option maxRecDepth 100000 in
theorem open_intsF {H : Type} {enc : TypeId × Value → H} {W : World} {base : Nat} {v : Value} {d : DataW H} {p : List MemPlace} (o : Value.okWide Try.prog W .any base 46 v) (h : DataW.Trod enc Try.prog W 0 (fun _ => true) true 46 v d p) : ∃ zs, IntsAt W v zs := by
  obtain ⟨a, len, cap, rfl⟩ := okWide_slice Try.underlying46 o
  obtain ⟨fuel, hf⟩ := h
  rcases open_ints Try.underlying46 Try.underlying3 (by kernel_rfl) hf with ⟨hcs, _⟩ | ⟨x, l, c, zs, hcs, _, hl, hm, hz, _, hcell, hwz⟩
  · simp [Value.cells] at hcs
    obtain ⟨rfl, rfl, rfl⟩ := hcs
    exact ⟨[], none, 0, rfl, Nat.le_refl _, by decide, fun j z hj => by simp at hj⟩
  · simp [Value.cells] at hcs
    obtain ⟨rfl, rfl, rfl⟩ := hcs
    simp at hz
    refine ⟨zs.take len, some x, cap, by simp [hz, Nat.min_eq_left hl], by simp; omega, hm, fun j z hj => ?_⟩
    have hjl := (List.getElem?_eq_some_iff.1 hj).1
    simp at hjl
    have hc := hcell j (by omega)
    have hzz : zs.getD j 0 = z := by
      rw [List.getElem?_take_of_lt (by omega)] at hj
      simp [List.getD, hj]
    rw [hzz] at hc
    obtain ⟨g, off, s⟩ := x
    have hs : s = none := by simpa [Addr.add] using World.cell?_spot (hcell 0 (by omega))
    subst hs
    rw [Go.WideShapes.add_plain] at hc
    exact ⟨g, off, rfl, World.block_lt_of_cell? W _ hc, hc⟩
set_option maxRecDepth 100000 in
theorem pathmtuFalls_open {H : Type} {enc : TypeId × Value → H} {W : World} {base : Nat} (v0 v1 v2 : Value) {d0 d1 d2 : DataW H} {p0 p1 p2 : List MemPlace}
    (o0 : Value.okWide Try.prog W .any base 23 v0) (h0 : DataW.Trod enc Try.prog W 0 (fun _ => true) true 23 v0 d0 p0) (z0 : ∀ k ∈ d0.weights Try.prog 23, k ≤ reachBytes)
    (o1 : Value.okWide Try.prog W .any base 35 v1) (h1 : DataW.Trod enc Try.prog W 0 (fun _ => true) true 35 v1 d1 p1) (z1 : ∀ k ∈ d1.weights Try.prog 35, k ≤ reachBytes)
    (o2 : Value.okWide Try.prog W .any base 46 v2) (h2 : DataW.Trod enc Try.prog W 0 (fun _ => true) true 46 v2 d2 p2) (z2 : ∀ k ∈ d2.weights Try.prog 46, k ≤ reachBytes) :
    Calls Try.prog 5 #[v0, v1, v2] W fun e w' => e = .returned (.bool true) ∧ Below W.heap.size W w' := by
  obtain ⟨cf, rfl, _⟩ := open_conf h0
  obtain ⟨d, rfl, hl, hf⟩ := open_addr6 h1
  obtain ⟨zs, hz⟩ := open_intsF o2 h2
  exact pathmtuFalls_walk ⟨hf, hl⟩ hz
end Go.Proofs.Ytgndiblonhgihaa
