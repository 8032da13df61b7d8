/-
  The statement PathmtuFalls.
  The document's cache in memory: rows of entries.
-/
import Derived.Test.YtgndiblonhgihaaFold23
import Derived.Deep.Slices
import Derived.ChangeSlices
import Derived.OpenShut
import Derived.Great.BuildSlice
import Derived.Maps.AppendAt
namespace Go.Proofs.Ytgndiblonhgihaa
open Go Go.RowKit Go.Lib
set_option linter.unusedVariables false
set_option linter.unusedSimpArgs false

/-- Numbers that a slice holds. -/
def IntsAt (W : World) (v : Value) (zs : List Int) : Prop :=
  ∃ ad cap, v = .slice ad zs.length cap ∧ zs.length ≤ cap ∧ cap ≤ maxLen ∧ ∀ (j : Nat) z, zs[j]? = some z → ∃ g off, ad = some ⟨g, off, none⟩ ∧ g < W.heap.size ∧ W.cell? ⟨g, off + j, none⟩ = some (.int .i64 z)
theorem IntsAt.on {W W' : World} {v : Value} {zs : List Int} (h : IntsAt W v zs) (hb : Below W.heap.size W W') : IntsAt W' v zs := by
  obtain ⟨ad, cap, e, h1, h2, h3⟩ := h
  refine ⟨ad, cap, e, h1, h2, fun j z hj => ?_⟩
  obtain ⟨g, off, e2, hg, hc⟩ := h3 j z hj
  exact ⟨g, off, e2, Nat.lt_of_lt_of_le hg hb.size, (hb.cell (p := ⟨g, _, none⟩) hg).trans hc⟩
theorem at_C {W : World} {b : Nat} {cf : Cf} (h : W.heap[b]? = some (.cells (cfC cf).toArray 23)) : (Instr.loadAt 23 (.pointer (some ⟨b, 0, none⟩))).run Try.prog W = .ok (.agg (cfC cf).toArray) W := by
  have c := CellsAt.of_blk h
  rw [List.toList_toArray] at c
  exact agg_load (n := 4) (fun w => by kernel_rfl) (fun w => by kernel_rfl) rfl c
/-- The cache of one path, in the rounds. -/
def InvF (n p pb mb : Nat) (cf : Cf) (d : List Int) (W2 wr : World) (was : Value) : Prop := ∃ L, Cch (n + 2) W2 wr p pb mb cf 0 L ∧ SH cf d L ∧ was = .int .i64 (mtuL cf L d)
theorem InvF.low {n p pb mb : Nat} {cf : Cf} {d : List Int} {W2 wr : World} {was : Value} (h : InvF n p pb mb cf d W2 wr was) : Below (n + 2) W2 wr := by
  obtain ⟨L, h, _⟩ := h
  exact h.bl
set_option maxHeartbeats 16000000 in
set_option maxRecDepth 100000 in
theorem pathmtuFalls_walk {W : World} {cf : Cf} {d : List Int} (hd : K16 d) {v : Value} {zs : List Int} (hv : IntsAt W v zs) :
    Calls Try.prog 5 #[.agg (cfC cf).toArray, .agg (u8s d).toArray, v] W fun e w' => e = .returned (.bool true) ∧ Below W.heap.size W w' := by
  generalize hQ : (fun (e : Ending) (w' : World) => e = .returned (.bool true) ∧ Below W.heap.size W w') = Q
  have HQ : Hid (∀ e w', (e = .returned (.bool true) ∧ Below W.heap.size W w') → Q e w') := fun e w' hh => by rw [← hQ]; exact hh
  clear hQ
  obtain ⟨n, hn⟩ : ∃ n, W.heap.size = n := ⟨_, rfl⟩
  obtain ⟨W1, hW1⟩ : ∃ W1, W1 = W.alloc (.cells (cfC cf).toArray 23) := ⟨_, rfl⟩
  have hB1 : Below n W W1 := by rw [hW1, ← hn]; exact (Below.refl W.heap.size W).alloc (Nat.le_refl _) _
  have hx1 : W1.heap[n]? = some (.cells (cfC cf).toArray 23) := by rw [hW1, ← hn]; exact blk_new W _
  have hs1 : W1.heap.size = n + 1 := by rw [hW1, ← hn]; simp
  obtain ⟨W2, hW2⟩ : ∃ W2, W2 = W1.alloc (.cells (u8s d).toArray 35) := ⟨_, rfl⟩
  have hB2 : Below W1.heap.size W1 W2 := by rw [hW2]; exact (Below.refl W1.heap.size W1).alloc (Nat.le_refl _) _
  have hz2 : W2.heap[n + 1]? = some (.cells (u8s d).toArray 35) := by rw [hW2, ← hs1]; exact blk_new W1 _
  have hs2 : W2.heap.size = n + 2 := by rw [hW2]; simp [hs1]
  have hc2 : W2.heap[n]? = some (.cells (cfC cf).toArray 23) := blk_on hx1 hB2
  have HC2 : Hid (W2.heap[n]? = some (.cells (cfC cf).toArray 23)) := hc2
  have HD2 : Hid (W2.heap[n + 1]? = some (.cells (u8s d).toArray 35)) := hz2
  have HB2 : Hid (Below n W W2) := hB1.trans (hB2.mono (by omega))
  have HN : Hid (W.heap.size = n) := hn
  have HS1 : Hid (W1.heap.size = n + 1) := hs1
  have HS2 : Hid (W2.heap.size = n + 2) := hs2
  have HLC : Hid _ := at_C hc2
  have HK : Hid (K16 d) := hd
  have hll : zs.length ≤ maxLen := by obtain ⟨ad, cap, e, h1, h2, _⟩ := hv; omega
  have hlm : (zs.length : Int) ≤ 9223372036854775807 := by unfold maxLen at hll; omega
  have hv2 : IntsAt W2 v zs := hv.on (by rw [hn]; exact hB1.trans (hB2.mono (by omega)))
  obtain ⟨ad, cap, rfl, hcp, hmx, hcl⟩ := hv2
  have HCLL : Hid (∀ (j : Nat) z, zs[j]? = some z → ∃ g off, ad = some ⟨g, off, none⟩ ∧ g < W2.heap.size ∧ W2.cell? ⟨g, off + j, none⟩ = some (.int .i64 z)) := hcl
  have e1 := hW1.symm
  have e2 := hW2.symm
  clear hcp hmx hcl hB1 hx1 hW1 hB2 hz2 hW2 hc2 hd hv hll
  by_cases hg : ¬ cf.Ok
  · skip
    have HNB : Hid _ := New_bad hg W2
    clear hg
    go_enter Try.func5, Try.ntmps5
    go_wp2_with first
      | ((with_reducible show wpList _ _ _ ({ dst := _, op := Op.load 23 (Operand.tmp 3), type := _, pos := _, after := _, guard := _ } :: _) _ _); refine armL (.tmp 3) 23 rfl rfl rfl (HLC.out) ?_)
    refine Calls.mono HNB.out ?_
    rintro e w3 ⟨rfl, hb3⟩
    have HB3 : Hid (Below n W w3) := HB2.out.trans (hb3.mono (by rw [HS2.out]; omega))
    clear hb3 HNB
    go_wp2_with fail
    refine Calls.mono (awake_any w3) ?_
    rintro e w4 ⟨rfl, hb4⟩
    have HB4 : Hid (Below n W w4) := HB3.out.trans (hb4.mono (by have h1 := HB3.out.size; have h2 := HN.out; omega))
    clear hb4 HB3
    go_wp2
    try go_returns
    exact HQ.out _ _ ⟨rfl, by rw [HN.out]; exact HB4.out⟩
  · replace hg : cf.Ok := Classical.not_not.1 hg
    have HG : Hid cf.Ok := hg
    have HNG : Hid _ := New_cch hg W2
    clear hg
    go_enter Try.func5, Try.ntmps5
    go_wp2_with first
      | ((with_reducible show wpList _ _ _ ({ dst := _, op := Op.load 23 (Operand.tmp 3), type := _, pos := _, after := _, guard := _ } :: _) _ _); refine armL (.tmp 3) 23 rfl rfl rfl (HLC.out) ?_)
    refine Calls.mono HNG.out ?_
    rintro e w3 ⟨p, pb, mb, rfl, hc3⟩
    rw [HS2.out] at hc3
    have HC3 : Hid (Cch (n + 2) W2 w3 p pb mb cf 0 []) := hc3
    clear hc3 HNG
    go_wp2_with fail
    refine Calls.mono (awake_any w3) ?_
    rintro e w4 ⟨rfl, hb4⟩
    have HC4 : Hid (Cch (n + 2) W2 w4 p pb mb cf 0 []) := HC3.out.on hb4
    have cl4 : w4.cell? ⟨n, 1, none⟩ = some (.int .i64 cf.link) := blk_cell (j := 1) ((HC4.out.bl.block n (by omega)).trans HC2.out) rfl
    clear hb4 HC3 e1 e2 hn hs1 hs2
    go_wp2_with fail
    go_loopw [10, 9] (fun i was wr => ∃ k : Nat, k ≤ zs.length ∧ k ≤ 200 ∧ i = .int .i64 k ∧ Hid (InvF n p pb mb cf d W2 wr was)) (fun i _ _ => zs.length - (intOf i).toNat)
    case atStart => exact ⟨0, by omega, by omega, rfl, [], HC4.out, .inl rfl, rfl⟩
    case round =>
      obtain ⟨k, hk, hk2, rfl, HV⟩ := hrel
      clear cl4 HC4
      have HBW : Hid (Below (n + 2) W2 wr) := HV.out.low
      by_cases hlt : k < zs.length ∧ k < 200
      · obtain ⟨h1, h2⟩ := hlt
        have q1 : decide ((k : Int) < zs.length) = true := by simpa using h1
        have q2 : decide ((k : Int) < 200) = true := decide_eq_true (by omega)
        have w9 : IntKind.i64.wrap ((k : Int) + 1) = (k : Int) + 1 := wrap_i64 _ ⟨by omega, by omega⟩
        obtain ⟨z, hz⟩ : ∃ z, zs[k]? = some z := ⟨_, List.getElem?_eq_getElem h1⟩
        obtain ⟨g, off, rfl, hgl, hcz⟩ := HCLL.out k z hz
        obtain ⟨L, hC, hS, rfl⟩ := HV.out
        have HCL : Hid (Cch (n + 2) W2 wr p pb mb cf 0 L) := hC
        have HSH : Hid (SH cf d L) := hS
        have HCZ : Hid (g < n + 2 ∧ W2.cell? ⟨g, off + k, none⟩ = some (.int .i64 z)) := ⟨by rw [← HS2.out]; exact hgl, hcz⟩
        have HLT : Hid (k < zs.length ∧ k < 200) := ⟨h1, h2⟩
        clear hC hS hz hcz hgl hk hk2 HV
        go_wp2_with fail
        refine wp_region_held (S := fun X => X.heap[n + 1]? = some (.cells (u8s d).toArray 35) ∧ X.cell? ⟨g, off + k, none⟩ = some (.int .i64 z)) (by kernel_rfl) ?_
        show wpAnyH _ _ _ _ _ 12 (Array.replicate 12 false) _ wr.drew
        have s0 : wr.drew.heap[n + 1]? = some (.cells (u8s d).toArray 35) ∧ wr.drew.cell? ⟨g, off + k, none⟩ = some (.int .i64 z) := ⟨(HBW.out.drew.block _ (by omega)).trans HD2.out, (HBW.out.drew.cell (p := ⟨g, _, none⟩) HCZ.out.1).trans HCZ.out.2⟩
        have HTF := told_fall (HCL.out.on ((Below.refl _ wr).drew)) HSH.out HG.out HK.out z
        generalize wr.drew = V0 at *
        refine take_wT (i := 0) (d := some 43) (v := .pointer (some ⟨p, 0, none⟩)) rfl rfl rfl (by kernel_rfl) (by kernel_rfl) (by kernel_rfl) (fun _ _ d _ _ h => by cases d <;> exact h) (fun X hS => by kernel_rfl) s0 ?_
        simp only [Act.put, List.setIfInBounds_toArray, List.set_cons_zero, List.set_cons_succ]
        refine take_wT (i := 1) (d := some 44) (v := .agg (u8s d).toArray) rfl rfl rfl (by kernel_rfl) (by kernel_rfl) (by kernel_rfl) (fun _ _ d _ _ h => by cases d <;> exact h) (fun X hS => ex_loadA (.tmp 4) 35 rfl rfl (at_A HK.out.len hS.1)) s0 ?_
        simp only [Act.put, List.setIfInBounds_toArray, List.set_cons_zero, List.set_cons_succ]
        refine take_wT (i := 2) (d := some 45) (v := .slice (some ⟨g, off, none⟩) zs.length cap) rfl rfl rfl (by kernel_rfl) (by kernel_rfl) (by kernel_rfl) (fun _ _ d _ _ h => by cases d <;> exact h) (fun X hS => by kernel_rfl) s0 ?_
        simp only [Act.put, List.setIfInBounds_toArray, List.set_cons_zero, List.set_cons_succ]
        refine take_wT (i := 3) (d := some 46) (v := .int .i64 (k : Int)) rfl rfl rfl (by kernel_rfl) (by kernel_rfl) (by kernel_rfl) (fun _ _ d _ _ h => by cases d <;> exact h) (fun X hS => by kernel_rfl) s0 ?_
        simp only [Act.put, List.setIfInBounds_toArray, List.set_cons_zero, List.set_cons_succ]
        refine take_wT (i := 4) (d := some 47) (v := .pointer (some ⟨g, off + k, none⟩)) rfl rfl rfl (by kernel_rfl) (by kernel_rfl) (by kernel_rfl) (fun _ _ d _ _ h => by cases d <;> exact h) (fun X hS => ex_ixI (.tmp 45) (.tmp 46) rfl rfl rfl HLT.out.1) s0 ?_
        simp only [Act.put, List.setIfInBounds_toArray, List.set_cons_zero, List.set_cons_succ]
        refine take_wT (i := 5) (d := some 48) (v := .int .i64 z) rfl rfl rfl (by kernel_rfl) (by kernel_rfl) (by kernel_rfl) (fun _ _ d _ _ h => by cases d <;> exact h) (fun X hS => ex_loadA (.tmp 47) 3 rfl rfl (ld_int hS.2)) s0 ?_
        simp only [Act.put, List.setIfInBounds_toArray, List.set_cons_zero, List.set_cons_succ]
        refine all_wT (i := 6) (by kernel_rfl) rfl rfl ?_
        refine wp_call (d := some 49) 15 _ rfl (by kernel_rfl) HTF ?_
        rintro _ X1 ⟨more, er, L', rfl, hc', hs', hle, hrr⟩
        have s1 : X1.heap[n + 1]? = some (.cells (u8s d).toArray 35) ∧ X1.cell? ⟨g, off + k, none⟩ = some (.int .i64 z) := ⟨(hc'.bl.block _ (by omega)).trans HD2.out, (hc'.bl.cell (p := ⟨g, _, none⟩) HCZ.out.1).trans HCZ.out.2⟩
        refine ⟨s1, ?_⟩
        simp only [Act.put, List.setIfInBounds_toArray, List.set_cons_zero, List.set_cons_succ]
        refine take_wT (i := 7) (d := some 42) (v := .tuple #[.bool more, .int .i64 er]) rfl rfl rfl (by kernel_rfl) (by kernel_rfl) (by kernel_rfl) (fun _ _ d _ _ h => by cases d <;> exact h) (fun X hS => by kernel_rfl) s1 ?_
        simp only [Act.put, List.setIfInBounds_toArray, List.set_cons_zero, List.set_cons_succ]
        refine take_wT (i := 8) (d := some 50) (v := .bool more) rfl rfl rfl (by kernel_rfl) (by kernel_rfl) (by kernel_rfl) (fun _ _ d _ _ h => by cases d <;> exact h) (fun X hS => by kernel_rfl) s1 ?_
        simp only [Act.put, List.setIfInBounds_toArray, List.set_cons_zero, List.set_cons_succ]
        refine take_wT (i := 9) (d := some 51) (v := .int .i64 er) rfl rfl rfl (by kernel_rfl) (by kernel_rfl) (by kernel_rfl) (fun _ _ d _ _ h => by cases d <;> exact h) (fun X hS => by kernel_rfl) s1 ?_
        simp only [Act.put, List.setIfInBounds_toArray, List.set_cons_zero, List.set_cons_succ]
        refine take_wT (i := 10) (d := some 11) (v := .bool more) rfl rfl rfl (by kernel_rfl) (by kernel_rfl) (by kernel_rfl) (fun _ _ d _ _ h => by cases d <;> exact h) (fun X hS => by kernel_rfl) s1 ?_
        simp only [Act.put, List.setIfInBounds_toArray, List.set_cons_zero, List.set_cons_succ]
        refine take_wT (i := 11) (d := some 12) (v := .int .i64 er) rfl rfl rfl (by kernel_rfl) (by kernel_rfl) (by kernel_rfl) (fun _ _ d _ _ h => by cases d <;> exact h) (fun X hS => by kernel_rfl) s1 ?_
        simp only [Act.put, List.setIfInBounds_toArray, List.set_cons_zero, List.set_cons_succ]
        refine wpAnyH_done (by kernel_rfl) ?_ _
        have c1 := s1.1
        have HCN : Hid (Cch (n + 2) W2 X1 p pb mb cf 0 L') := hc'
        have HSN : Hid (SH cf d L' ∧ mtuL cf L' d ≤ mtuL cf L d) := ⟨hs', hle⟩
        have HRR : Hid (er = 0 ∧ more = decide (mtuL cf L' d < mtuL cf L d) ∨ er = 131 ∧ mtuL cf L' d = mtuL cf L d) := hrr
        have HLX : Hid _ := at_A HK.out.len s1.1
        clear hc' hs' hle hrr s1 s0 HTF c1 HSH HBW HCZ
        go_wp2_with first
          | ((with_reducible show wpList _ _ _ ({ dst := _, op := Op.load 35 (Operand.tmp 4), type := _, pos := _, after := _, guard := _ } :: _) _ _); refine armL (.tmp 4) 35 rfl rfl rfl (HLX.out) ?_)
        refine Calls.mono (HCN.out.get HSN.out.1.len (t := 0) ⟨by decide, by decide⟩ HK.out) ?_
        rintro e w6 ⟨rfl, hc6, -⟩
        rw [HSN.out.1.live HG.out] at hc6 ⊢
        have HC6 : Hid (Cch (n + 2) W2 w6 p pb mb cf 0 L') := hc6
        clear hc6 HLX HCN
        have hfin : InvF n p pb mb cf d W2 w6 (.int .i64 (mtuL cf L' d)) := ⟨L', HC6.out, HSN.out.1, rfl⟩
        have HFIN : Hid _ := hfin
        have HLE := HSN.out.2
        clear hfin HC6 HSN
        generalize mtuL cf L' d = m' at *
        generalize mtuL cf L d = m at *
        have g1 : decide (m' > m) = false := decide_eq_false (by omega)
        have g2 : decide (m < m') = false := decide_eq_false (by omega)
        rcases HRR.out with ⟨rfl, hmo⟩ | ⟨rfl, hmo⟩
        · by_cases hc : m' < m
          · have g3 : decide (m' < m) = true := decide_eq_true hc
            rw [g3] at hmo
            subst hmo
            clear HRR HLE hc
            go_wp2
            go_roundw
            case rel => exact ⟨k + 1, by have := HLT.out; omega, by have := HLT.out; omega, rfl, HFIN.out⟩
            case measure => show zs.length - (k + 1) < zs.length - k; have := HLT.out; omega
          · have g3 : decide (m' < m) = false := decide_eq_false hc
            rw [g3] at hmo
            subst hmo
            clear HRR HLE hc
            go_wp2
            go_roundw
            case rel => exact ⟨k + 1, by have := HLT.out; omega, by have := HLT.out; omega, rfl, HFIN.out⟩
            case measure => show zs.length - (k + 1) < zs.length - k; have := HLT.out; omega
        · subst hmo
          clear HRR HLE
          have g4 : (m' != m') = false := by simp
          go_wp2
          go_roundw
          case rel => exact ⟨k + 1, by have := HLT.out; omega, by have := HLT.out; omega, rfl, HFIN.out⟩
          case measure => show zs.length - (k + 1) < zs.length - k; have := HLT.out; omega
      · obtain ⟨L, hC, hS, rfl⟩ := HV.out
        have HCL : Hid (Cch (n + 2) W2 wr p pb mb cf 0 L) := hC
        have HSH : Hid (SH cf d L) := hS
        have HLX : Hid _ := at_A (W := wr) HK.out.len ((HBW.out.block _ (by omega)).trans HD2.out)
        have cl : wr.cell? ⟨n, 2, none⟩ = some (.int .i64 cf.life) := blk_cell (j := 2) ((HBW.out.block n (by omega)).trans HC2.out) rfl
        have HGT : Hid _ := hC.get hS.len (t := cf.life) ⟨by have := HG.out.life; omega, by have := HG.out.life; omega⟩ HK.out
        have HTE : Hid (¬ (k < zs.length ∧ k < 200)) := hlt
        clear hC hS HV hlt
        by_cases hk3 : k < zs.length
        · have q1 : decide ((k : Int) < zs.length) = true := by simpa using hk3
          have h200 : ¬ k < 200 := by have := HTE.out; omega
          have q2 : decide ((k : Int) < 200) = false := decide_eq_false (by omega)
          clear hk hk2
          go_wp2_with first
            | ((with_reducible show wpList _ _ _ ({ dst := _, op := Op.load 35 (Operand.tmp 4), type := _, pos := _, after := _, guard := _ } :: _) _ _); refine armL (.tmp 4) 35 rfl rfl rfl (HLX.out) ?_)
          refine Calls.mono HGT.out ?_
          rintro e w7 ⟨rfl, hc7, -⟩
          rw [HSH.out.gone] at hc7 ⊢
          have HC7 : Hid (Cch (n + 2) W2 w7 p pb mb cf cf.life []) := hc7
          have HF : Hid (Below n W w7) := HB2.out.trans (hc7.bl.mono (by omega))
          have cl7 : w7.cell? ⟨n, 1, none⟩ = some (.int .i64 cf.link) := blk_cell (j := 1) ((hc7.bl.block n (by omega)).trans HC2.out) rfl
          rw [show mtuL cf [] d = cf.link from rfl]
          have HLN : Hid _ := hc7.len
          have g5 : (cf.link == cf.link) = true := by simp
          clear hc7 HLX HGT cl
          go_wp2_with fail
          refine Calls.mono HLN.out ?_
          rintro e w8 ⟨rfl, hx8⟩
          obtain rfl := hx8.symm
          clear hx8
          go_wp2
          try go_returns
          exact HQ.out _ _ ⟨rfl, by rw [HN.out]; exact HF.out⟩
        · have q1 : decide ((k : Int) < zs.length) = false := decide_eq_false (by omega)
          clear hk hk2
          go_wp2_with first
            | ((with_reducible show wpList _ _ _ ({ dst := _, op := Op.load 35 (Operand.tmp 4), type := _, pos := _, after := _, guard := _ } :: _) _ _); refine armL (.tmp 4) 35 rfl rfl rfl (HLX.out) ?_)
          refine Calls.mono HGT.out ?_
          rintro e w7 ⟨rfl, hc7, -⟩
          rw [HSH.out.gone] at hc7 ⊢
          have HC7 : Hid (Cch (n + 2) W2 w7 p pb mb cf cf.life []) := hc7
          have HF : Hid (Below n W w7) := HB2.out.trans (hc7.bl.mono (by omega))
          have cl7 : w7.cell? ⟨n, 1, none⟩ = some (.int .i64 cf.link) := blk_cell (j := 1) ((hc7.bl.block n (by omega)).trans HC2.out) rfl
          rw [show mtuL cf [] d = cf.link from rfl]
          have HLN : Hid _ := hc7.len
          have g5 : (cf.link == cf.link) = true := by simp
          clear hc7 HLX HGT cl
          go_wp2_with fail
          refine Calls.mono HLN.out ?_
          rintro e w8 ⟨rfl, hx8⟩
          obtain rfl := hx8.symm
          clear hx8
          go_wp2
          try go_returns
          exact HQ.out _ _ ⟨rfl, by rw [HN.out]; exact HF.out⟩
open Go.ChangeShapes Go.WideShapes Go.ChangeAt
theorem list4c {α : Type} {l : List α} (h : l.length = 4) : ∃ x0 x1 x2 x3, l = [x0, x1, x2, x3] := by
  match l, h with
  | [x0, x1, x2, x3], _ => exact ⟨x0, x1, x2, x3, rfl⟩
theorem split_c {l : List Value} (h : l.length = 4) : l = (l.drop 0).take 1 ++ ((l.drop 1).take 1 ++ ((l.drop 2).take 1 ++ ((l.drop 3).take 1))) := by
  match l, h with
  | [_, _, _, _], _ => rfl
set_option maxRecDepth 100000 in
theorem open_conf {H : Type} {enc : TypeId × Value → H} {W : World} {v : Value} {d : DataW H} {p : List MemPlace} (h : DataW.Trod enc Try.prog W 0 (fun _ => true) true 23 v d p) :
    ∃ cf : Cf, v = .agg (cfC cf).toArray ∧ (Lit.int .i64 cf.lim).wf = true ∧ (Lit.int .i64 cf.link).wf = true ∧ (Lit.int .i64 cf.life).wf = true ∧ (Lit.int .i64 cf.least).wf = true := by
  obtain ⟨fuel, hf⟩ := h
  obtain ⟨xs, m, _, hx, hl, hxl, hi⟩ := DataW.trod_struct Try.underlying23 hf
  have c4 : Try.prog.cellsOf 23 = 4 := by kernel_rfl
  rw [c4] at hl
  obtain ⟨x0, x1, x2, x3, rfl⟩ := list4c hxl
  have g0 : DataW.trod enc Try.prog W 0 (fun _ => true) true m 3 ((v.cells.toList.drop 0).take 1) = some x0 := by
    have e : DataW.trod enc Try.prog W 0 (fun _ => true) true m 3 ((v.cells.toList.drop 0).take (Try.prog.cellsOf 3)) = some x0 := hi 0 _ rfl
    rwa [show Try.prog.cellsOf 3 = 1 by kernel_rfl] at e
  have g1 : DataW.trod enc Try.prog W 0 (fun _ => true) true m 3 ((v.cells.toList.drop 1).take 1) = some x1 := by
    have e : DataW.trod enc Try.prog W 0 (fun _ => true) true m 3 ((v.cells.toList.drop 1).take (Try.prog.cellsOf 3)) = some x1 := hi 1 _ rfl
    rwa [show Try.prog.cellsOf 3 = 1 by kernel_rfl] at e
  have g2 : DataW.trod enc Try.prog W 0 (fun _ => true) true m 3 ((v.cells.toList.drop 2).take 1) = some x2 := by
    have e : DataW.trod enc Try.prog W 0 (fun _ => true) true m 3 ((v.cells.toList.drop 2).take (Try.prog.cellsOf 3)) = some x2 := hi 2 _ rfl
    rwa [show Try.prog.cellsOf 3 = 1 by kernel_rfl] at e
  have g3 : DataW.trod enc Try.prog W 0 (fun _ => true) true m 3 ((v.cells.toList.drop 3).take 1) = some x3 := by
    have e : DataW.trod enc Try.prog W 0 (fun _ => true) true m 3 ((v.cells.toList.drop 3).take (Try.prog.cellsOf 3)) = some x3 := hi 3 _ rfl
    rwa [show Try.prog.cellsOf 3 = 1 by kernel_rfl] at e
  obtain ⟨z0, e0, _, f0⟩ := DataW.trod_int Try.underlying3 g0
  obtain ⟨z1, e1, _, f1⟩ := DataW.trod_int Try.underlying3 g1
  obtain ⟨z2, e2, _, f2⟩ := DataW.trod_int Try.underlying3 g2
  obtain ⟨z3, e3, _, f3⟩ := DataW.trod_int Try.underlying3 g3
  have hall := split_c hl
  rw [e0, e1, e2, e3] at hall
  have hv := agg_of hall (by simp)
  exact ⟨⟨z0, z1, z2, z3⟩, hv, f0, f1, f2, f3⟩
set_option maxRecDepth 100000 in
theorem open_intsF {H : Type} {enc : TypeId × Value → H} {W : World} {base : Nat} {v : Value} {d : DataW H} {p : List MemPlace} (o : Value.okWide Try.prog W .any base 46 v) (h : DataW.Trod enc Try.prog W 0 (fun _ => true) true 46 v d p) : ∃ zs, IntsAt W v zs := by
  obtain ⟨a, len, cap, rfl⟩ := okWide_slice Try.underlying46 o
  obtain ⟨fuel, hf⟩ := h
  rcases open_ints Try.underlying46 Try.underlying3 (by kernel_rfl) hf with ⟨hcs, _⟩ | ⟨x, l, c, zs, hcs, _, hl, hm, hz, _, hcell, hwz⟩
  · simp [Value.cells] at hcs
    obtain ⟨rfl, rfl, rfl⟩ := hcs
    exact ⟨[], none, 0, rfl, Nat.le_refl _, by decide, fun j z hj => by simp at hj⟩
  · simp [Value.cells] at hcs
    obtain ⟨rfl, rfl, rfl⟩ := hcs
    simp at hz
    refine ⟨zs.take len, some x, cap, by simp [hz, Nat.min_eq_left hl], by simp; omega, hm, fun j z hj => ?_⟩
    have hjl := (List.getElem?_eq_some_iff.1 hj).1
    simp at hjl
    have hc := hcell j (by omega)
    have hzz : zs.getD j 0 = z := by
      rw [List.getElem?_take_of_lt (by omega)] at hj
      simp [List.getD, hj]
    rw [hzz] at hc
    obtain ⟨g, off, s⟩ := x
    have hs : s = none := by simpa [Addr.add] using World.cell?_spot (hcell 0 (by omega))
    subst hs
    rw [Go.WideShapes.add_plain] at hc
    exact ⟨g, off, rfl, World.block_lt_of_cell? W _ hc, hc⟩
set_option maxRecDepth 100000 in
theorem pathmtuFalls_open {H : Type} {enc : TypeId × Value → H} {W : World} {base : Nat} (v0 v1 v2 : Value) {d0 d1 d2 : DataW H} {p0 p1 p2 : List MemPlace}
    (o0 : Value.okWide Try.prog W .any base 23 v0) (h0 : DataW.Trod enc Try.prog W 0 (fun _ => true) true 23 v0 d0 p0) (z0 : ∀ k ∈ d0.weights Try.prog 23, k ≤ reachBytes)
    (o1 : Value.okWide Try.prog W .any base 35 v1) (h1 : DataW.Trod enc Try.prog W 0 (fun _ => true) true 35 v1 d1 p1) (z1 : ∀ k ∈ d1.weights Try.prog 35, k ≤ reachBytes)
    (o2 : Value.okWide Try.prog W .any base 46 v2) (h2 : DataW.Trod enc Try.prog W 0 (fun _ => true) true 46 v2 d2 p2) (z2 : ∀ k ∈ d2.weights Try.prog 46, k ≤ reachBytes) :
    Calls Try.prog 5 #[v0, v1, v2] W fun e w' => e = .returned (.bool true) ∧ Below W.heap.size W w' := by
  obtain ⟨cf, rfl, _⟩ := open_conf h0
  obtain ⟨d, rfl, hl, hf⟩ := open_addr6 h1
  obtain ⟨zs, hz⟩ := open_intsF o2 h2
  exact pathmtuFalls_walk ⟨hf, hl⟩ hz
end Go.Proofs.Ytgndiblonhgihaa

namespace Go.Proofs.Ytgndiblonhgihaa
open Go Go.RowKit Go.Lib
set_option linter.unusedVariables false
set_option linter.unusedSimpArgs false

/-- An entry's cells, 18 whatever its address. -/
def eE (x : PE) : List Value := u8s ((List.range 16).map fun i => x.k.getD i 0) ++ [.int .i64 x.m, .int .i64 x.u]
theorem eE_len (x : PE) : (eE x).length = 18 := by simp [eE, u8s]
theorem eE_ok {x : PE} (h : x.Ok) : eE x = eC x.k x.m x.u := by
  unfold eE eC
  have : ((List.range 16).map fun i => x.k.getD i 0) = x.k := by
    refine List.ext_getElem? fun i => ?_
    by_cases c : i < 16
    · simp [List.getD, c, h.2]
    · rw [List.getElem?_eq_none (by simp; omega), List.getElem?_eq_none (by have := h.2; omega)]
  rw [this]
theorem eE_one (x : PE) : ∀ u ∈ eE x, u.oneCell' = true := by
  intro u hu
  unfold eE at hu
  rcases List.mem_append.1 hu with h | h
  · exact u8s_one _ u h
  · simp at h
    rcases h with rfl | rfl <;> rfl
theorem flat_atE : ∀ {l : List PE} {j : Nat} {e : PE}, l[j]? = some e → ∀ (i : Nat) u, (eE e)[i]? = some u → (l.flatMap eE)[j * 18 + i]? = some u
  | [], j, e, h, _, _, _ => by simp at h
  | x :: l, 0, e, h, i, u, hu => by
    simp at h
    subst h
    rw [List.flatMap_cons, List.getElem?_append_left (by have := (List.getElem?_eq_some_iff.1 hu).1; omega)]
    simpa using hu
  | x :: l, j + 1, e, h, i, u, hu => by
    rw [List.getElem?_cons_succ] at h
    rw [List.flatMap_cons, List.getElem?_append_right (by rw [eE_len]; omega), eE_len, show (j + 1) * 18 + i - 18 = j * 18 + i by omega]
    exact flat_atE h i u hu
theorem flat_lenE : ∀ l : List PE, (l.flatMap eE).length = l.length * 18
  | [] => by simp
  | x :: l => by rw [List.flatMap_cons, List.length_append, eE_len, flat_lenE l, List.length_cons]; omega
theorem own_atE {W : World} {base : Nat} {t : TypeId} {v : Value} {l : List PE} (h : W.ownsRow base t 18 v l.length (l.flatMap eE)) {j : Nat} {e : PE} (hj : l[j]? = some e) :
    ∃ g c, v = .slice (some ⟨g, 0, none⟩) l.length c ∧ g < W.heap.size ∧ base ≤ g ∧ CellsAt W g (j * 18) (eE e) := by
  have hjl := (List.getElem?_eq_some_iff.1 hj).1
  rcases h.2 with ⟨_, h0⟩ | ⟨g, c, cur, rfl, h1, h2, h3⟩
  · omega
  · refine ⟨g, c, rfl, (Array.getElem?_eq_some_iff.1 h2).1, h1, fun i u hu => ?_⟩
    have := h.cells (g := g) rfl (j * 18 + i) u (flat_atE hj i u hu)
    rw [Go.WideShapes.add_plain] at this
    simpa using this
theorem own_baseE {W : World} {base b2 k n : Nat} {t : TypeId} {v : Value} {xs : List Value} (h : W.ownsRow base t k v n xs) (hb : b2 ≤ base) : W.ownsRow b2 t k v n xs := by
  refine ⟨h.1, ?_⟩
  rcases h.2 with h2 | ⟨g, cap, cur, rfl, h1, h3⟩
  · exact .inl h2
  · exact .inr ⟨g, cap, cur, rfl, Nat.le_trans hb h1, h3⟩
theorem own_ltE {w : World} {base size n : Nat} {e : TypeId} {v : Value} {xs : List Value} (h : w.ownsRow base e size v n xs) {b : Nat} (hb : v.ownBlock = some b) : base ≤ b ∧ b < w.heap.size := by
  rcases h.2 with ⟨rfl, _⟩ | ⟨g, cap, cur, rfl, h1, h2, h3⟩
  · simp [Value.ownBlock] at hb
  · simp [Value.ownBlock] at hb
    subst hb
    exact ⟨h1, (Array.getElem?_eq_some_iff.1 h2).1⟩
/-- A part of a row as a slice. -/
def SrcE (W : World) (S : Value) (l : List PE) : Prop := (S = .slice none 0 0 ∧ l = []) ∨ ∃ a c, S = .slice (some a) l.length c ∧ ∀ j u, (l.flatMap eE)[j]? = some u → W.cell? (a.add j) = some u
theorem srcE_take {W : World} {base : Nat} {t : TypeId} {l : List PE} {g c n : Nat} (h : W.ownsRow base t 18 (.slice (some ⟨g, 0, none⟩) l.length c) l.length (l.flatMap eE)) (hn : n ≤ l.length) : SrcE W (.slice (some ⟨g, 0, none⟩) n c) (l.take n) := by
  refine .inr ⟨_, _, by rw [List.length_take, Nat.min_eq_left hn], fun j u hj => h.cells (g := g) rfl j u ?_⟩
  have e : l.flatMap eE = (l.take n).flatMap eE ++ (l.drop n).flatMap eE := by rw [← List.flatMap_append, List.take_append_drop]
  rw [e, List.getElem?_append_left (List.getElem?_eq_some_iff.1 hj).1]
  exact hj
theorem srcE_drop {W : World} {base : Nat} {t : TypeId} {l : List PE} {g c n m : Nat} {a : Addr} (h : W.ownsRow base t 18 (.slice (some ⟨g, 0, none⟩) l.length c) l.length (l.flatMap eE)) (hn : n ≤ l.length) (ha : n < l.length → a = ⟨g, n * 18, none⟩) : SrcE W (.slice (some a) (l.length - n) m) (l.drop n) := by
  refine .inr ⟨_, _, by rw [List.length_drop], fun j u hj => ?_⟩
  have hlt : n < l.length := Nat.lt_of_not_le fun hc => by rw [List.drop_eq_nil_of_le hc] at hj; simp at hj
  rw [ha hlt]
  have e : l.flatMap eE = (l.take n).flatMap eE ++ (l.drop n).flatMap eE := by rw [← List.flatMap_append, List.take_append_drop]
  have := h.cells (g := g) rfl (n * 18 + j) u (by
    rw [e, List.getElem?_append_right (by rw [flat_lenE, List.length_take, Nat.min_eq_left hn]; omega), flat_lenE, List.length_take, Nat.min_eq_left hn, show n * 18 + j - n * 18 = j by omega]
    exact hj)
  rw [Go.WideShapes.add_plain] at this ⊢
  simpa using this
theorem SrcE.on {W W' : World} {S : Value} {l : List PE} (h : SrcE W S l) (hb : Below W.heap.size W W') : SrcE W' S l := by
  rcases h with h | ⟨a, c, e, h⟩
  · exact .inl h
  · refine .inr ⟨a, c, e, fun j u hj => ?_⟩
    have hc := h j u hj
    exact (hb.cell (World.block_lt_of_cell? W _ hc)).trans hc
theorem arm_bsE {P : Program} {w w2 : World} {ops : Array Oper} {rest : List Oper} {o : Oper} {a : Act} {Q : Exit → Act → World → Prop} (x : Operand) (t : TypeId) (hop : o.op = Op.buildSlice t 1 #[(0, x)]) (hw : Region.wanted o (yielded ops a.tmps) = true) {vx v : Value} (hx : a.eval x = vx) (hrun : (Instr.buildSlice t 1 #[(0, vx)]).run P w = .ok v w2) (hK : wpList P ops Q rest (a.put o.dst v) w2) : wpList P ops Q (o :: rest) a w := by
  refine BigFrame.wpList_want hw fun K hK' => ?_
  unfold Oper.wp
  simp [execOp, hop, hx, hrun, Result.andThen]
  exact hK' _ _ hK
theorem arm_apE {P : Program} {w w2 : World} {ops : Array Oper} {rest : List Oper} {o : Oper} {a : Act} {Q : Exit → Act → World → Prop} (s x : Operand) (t : TypeId) (hop : o.op = Op.call { callee := Callee.builtin Builtin.append, args := #[s, x], argTypes := #[t, t] }) (hw : Region.wanted o (yielded ops a.tmps) = true) {vs vx v : Value} (hs : a.eval s = vs) (hx : a.eval x = vx) (hrun : (Builtin.append_ #[t, t] o.type #[vs, vx]).run P w = .ok v w2) (hK : wpList P ops Q rest (a.put o.dst v) w2) : wpList P ops Q (o :: rest) a w := by
  refine BigFrame.wpList_want hw fun K hK' => ?_
  unfold Oper.wp
  simp [execOp, hop, resolve, invoke, builtin, hs, hx, hrun, Result.andThen]
  exact hK' _ _ hK
theorem arm_slE {P : Program} {w : World} {ops : Array Oper} {rest : List Oper} {o : Oper} {a : Act} {Q : Exit → Act → World → Prop} (x : Operand) (lo hi : Option Operand) (t : TypeId) (hop : o.op = Op.slice t x lo hi none) (hw : Region.wanted o (yielded ops a.tmps) = true) {vx v : Value} {vl vh : Option Value} (hx : a.eval x = vx) (hl : lo.map a.eval = vl) (hh : hi.map a.eval = vh) (hrun : (Instr.sliceAt t vx vl vh none).run P w = .ok v w) (hK : wpList P ops Q rest (a.put o.dst v) w) : wpList P ops Q (o :: rest) a w := by
  refine BigFrame.wpList_want hw fun K hK' => ?_
  unfold Oper.wp
  simp [execOp, hop, hx, hl, hh, hrun, Result.andThen]
  exact hK' _ _ hK
theorem sl_hiE (g n len c : Nat) (w : World) (h : n ≤ c) (hc : c ≤ maxLen) : (Instr.sliceAt 43 (.slice (some ⟨g, 0, none⟩) len c) none (some (.int .i64 n)) none).run Try.prog w = .ok (.slice (some ⟨g, 0, none⟩) n c) w := by
  have h1 : ¬ ((c : Int) < n) := by omega
  have h2 : ¬ ((n : Int) < 0) := by omega
  simp [Instr.sliceAt, go_sem, h1, h2, h]
theorem sl_loE (g n len c : Nat) (h : n ≤ len) (hl : len ≤ c) (hc : c ≤ maxLen) : ∃ a, (∀ w : World, (Instr.sliceAt 43 (.slice (some ⟨g, 0, none⟩) len c) (some (.int .i64 n)) none none).run Try.prog w = .ok (.slice (some a) (len - n) (c - n)) w) ∧ (n < len → a = ⟨g, n * 18, none⟩) := by
  have h2 : ¬ ((n : Int) < 0) := by omega
  by_cases hnc : c - n = 0
  · refine ⟨⟨g, 0, none⟩, fun w => ?_, fun hlt => by omega⟩
    simp [Instr.sliceAt, go_sem, h2, h, hnc, hl]
    intro hh
    omega
  · refine ⟨⟨g, n * 18, none⟩, fun w => ?_, fun _ => rfl⟩
    simp [Instr.sliceAt, go_sem, h2, h, hnc, hl]
    intro hh
    omega
theorem cutsE {W : World} {base : Nat} {l : List PE} {a : Option Addr} {c n : Nat} (h : W.ownsRow base 72 18 (.slice a l.length c) l.length (l.flatMap eE)) (hn : n ≤ l.length) :
    ∃ S1 S2, (∀ w : World, (Instr.sliceAt 43 (.slice a l.length c) none (some (.int .i64 n)) none).run Try.prog w = .ok S1 w) ∧ SrcE W S1 (l.take n) ∧ (∀ w : World, (Instr.sliceAt 43 (.slice a l.length c) (some (.int .i64 n)) none none).run Try.prog w = .ok S2 w) ∧ SrcE W S2 (l.drop n) := by
  rcases id h.2 with ⟨e, h0⟩ | ⟨g, c', cur, e, h1, h2, h3, h4, h5⟩
  · injection e with e1 e2 e3
    subst e1
    subst e3
    have hl : l = [] := List.length_eq_zero_iff.1 h0
    subst hl
    obtain rfl : n = 0 := by simpa using hn
    exact ⟨.slice none 0 0, .slice none 0 0, fun w => by simp [Instr.sliceAt, go_sem], .inl ⟨rfl, rfl⟩, fun w => by simp [Instr.sliceAt, go_sem], .inl ⟨rfl, rfl⟩⟩
  · injection e with e1 e2 e3
    subst e1
    subst e3
    obtain ⟨a2, hr, ha⟩ := sl_loE g n l.length c hn h3 h4
    exact ⟨_, .slice (some a2) (l.length - n) (c - n), fun w => sl_hiE g n l.length c w (Nat.le_trans hn h3) h4, srcE_take h hn, hr, srcE_drop h hn ha⟩
theorem infoPE : ∃ i, Try.prog.info? 72 = some i ∧ i.zero = some (.agg ([.int .u8 0, .int .u8 0, .int .u8 0, .int .u8 0, .int .u8 0, .int .u8 0, .int .u8 0, .int .u8 0, .int .u8 0, .int .u8 0, .int .u8 0, .int .u8 0, .int .u8 0, .int .u8 0, .int .u8 0, .int .u8 0, .int .i64 0, .int .i64 0] : List Value).toArray) ∧ i.size = 18 ∧ i.bytes = 32 := by
  have : (Try.prog.info? 72).map (fun i => (i.zero, i.size, i.bytes)) = some (some (.agg ([.int .u8 0, .int .u8 0, .int .u8 0, .int .u8 0, .int .u8 0, .int .u8 0, .int .u8 0, .int .u8 0, .int .u8 0, .int .u8 0, .int .u8 0, .int .u8 0, .int .u8 0, .int .u8 0, .int .u8 0, .int .u8 0, .int .i64 0, .int .i64 0] : List Value).toArray), 18, 32) := by kernel_rfl
  obtain ⟨i, h1, h2⟩ := Option.map_eq_some_iff.1 this
  injection h2 with h2 h3
  injection h3 with h3 h4
  exact ⟨i, h1, h2, h3, h4⟩
theorem appE {base : Nat} {W : World} {v : Value} {L : List PE} (h : W.ownsRow base 72 18 v L.length (L.flatMap eE)) (hb : base ≤ W.heap.size) {L2 : List PE} (hl : L.length + L2.length ≤ 200000) {S : Value} (hS : SrcE W S L2) (ty : TypeId) :
    ∃ v' W', (Builtin.append_ #[43, 43] ty #[v, S]).run Try.prog W = .ok v' W' ∧ W'.ownsRow base 72 18 v' (L ++ L2).length ((L ++ L2).flatMap eE) ∧ Below base W W' := by
  obtain ⟨i, hi, hz, hsz, hby⟩ := infoPE
  rcases hS with ⟨rfl, rfl⟩ | ⟨a, c, rfl, hc⟩
  · refine ⟨v, W, run_append_owned_none W base 43 ty 72 i 18 Try.underlying43 hi v L.length _ h, ?_, Below.refl _ _⟩
    rw [List.append_nil]
    exact h
  · obtain ⟨v', w', hrun, hown, hgr, _, hat⟩ := run_append_own_at (P := Try.prog) W base 43 ty 72 i (.agg ([.int .u8 0, .int .u8 0, .int .u8 0, .int .u8 0, .int .u8 0, .int .u8 0, .int .u8 0, .int .u8 0, .int .u8 0, .int .u8 0, .int .u8 0, .int .u8 0, .int .u8 0, .int .u8 0, .int .u8 0, .int .u8 0, .int .i64 0, .int .i64 0] : List Value).toArray) 18 32 Try.underlying43 hi hz hsz hby rfl (by decide) v L.length (L.flatMap eE) h a L2.length c (L2.flatMap eE) (flat_lenE _) hc (fun u hu => by
      obtain ⟨e, _, he⟩ := List.mem_flatMap.1 hu
      exact eE_one e u he) (by unfold maxLen; omega) (by omega) hb
    refine ⟨v', w', hrun, ?_, ⟨hgr.os, hgr.tape, hgr.output, hgr.size, fun j hj => hgr.block j (by omega) (fun e => ?_)⟩⟩
    · rw [List.length_append, List.flatMap_append]
      exact hown
    · have := (own_ltE h e.symm).1
      omega
theorem pushE {base : Nat} {W : World} {v : Value} {L : List PE} (h : W.ownsRow base 72 18 v L.length (L.flatMap eE)) (hb : base ≤ W.heap.size) (hl : L.length ≤ 100000) (e : PE) (ty : TypeId) :
    ∃ v' W', (Builtin.append_ #[43, 43] ty #[v, .slice (some ⟨W.heap.size, 0, none⟩) 1 1]).run Try.prog (W.alloc (.cells (eE e).toArray 72)) = .ok v' W' ∧ W'.ownsRow base 72 18 v' (L ++ [e]).length ((L ++ [e]).flatMap eE) ∧ Below base W W' := by
  have hB1 := (Below.refl W.heap.size W).alloc (Nat.le_refl _) (.cells (eE e).toArray 72)
  have ho1 := own_same (w' := W.alloc (.cells (eE e).toArray 72)) h (fun b hb' => hB1.block b (own_ltE h hb').2)
  obtain ⟨v', w', hrun, hown, hbl⟩ := appE (L2 := [e]) ho1 (by simp; omega) (by simp; omega) (S := .slice (some ⟨W.heap.size, 0, none⟩) 1 1) (.inr ⟨_, 1, rfl, fun j u hj => by
    rw [Go.WideShapes.add_plain]
    have := CellsAt.of_blk (blk_new W (.cells (eE e).toArray 72)) j u (by simpa using hj)
    simpa using this⟩) ty
  exact ⟨v', w', hrun, hown, (hB1.mono hb).trans hbl⟩
theorem bsE (W : World) (e : PE) : (Instr.buildSlice 43 1 #[(0, .agg (eE e).toArray)]).run Try.prog W = .ok (.slice (some ⟨W.heap.size, 0, none⟩) 1 1) (W.alloc (.cells (eE e).toArray 72)) := by
  obtain ⟨i, hi, hz, hsz, hby⟩ := infoPE
  refine run_buildSlice W 43 72 1 #[(0, .agg (eE e).toArray)] (eE e).toArray i (.agg ([.int .u8 0, .int .u8 0, .int .u8 0, .int .u8 0, .int .u8 0, .int .u8 0, .int .u8 0, .int .u8 0, .int .u8 0, .int .u8 0, .int .u8 0, .int .u8 0, .int .u8 0, .int .u8 0, .int .u8 0, .int .u8 0, .int .i64 0, .int .i64 0] : List Value).toArray) Try.underlying43 hi hz (by rw [hsz]; omega) (by rw [hsz]; omega) ?_
  have := Go.Great.fill_whole (s := 18) (by omega) [.agg (eE e).toArray] ((Array.range (1 * i.size)).map ((Value.agg ([.int .u8 0, .int .u8 0, .int .u8 0, .int .u8 0, .int .u8 0, .int .u8 0, .int .u8 0, .int .u8 0, .int .u8 0, .int .u8 0, .int .u8 0, .int .u8 0, .int .u8 0, .int .u8 0, .int .u8 0, .int .u8 0, .int .i64 0, .int .i64 0] : List Value).toArray).cells[· % (Value.agg ([.int .u8 0, .int .u8 0, .int .u8 0, .int .u8 0, .int .u8 0, .int .u8 0, .int .u8 0, .int .u8 0, .int .u8 0, .int .u8 0, .int .u8 0, .int .u8 0, .int .u8 0, .int .u8 0, .int .u8 0, .int .u8 0, .int .i64 0, .int .i64 0] : List Value).toArray).cells.size]!)) (fun v hv => by simp at hv; rw [hv]; simp [Value.cells, eE_len]) (by simp [hsz])
  rw [hsz] at this ⊢
  simpa [Value.cells] using this
/-- The document's cache. -/
structure Doc (rb : Nat) (cf : Cf) (now : Int) (D : List PE) (v : Value) (W : World) : Prop where
  box : W.heap[rb]? = some (.cells [.int .i64 cf.lim, .int .i64 cf.link, .int .i64 cf.life, .int .i64 cf.least, .int .i64 now, v].toArray 45)
  row : W.ownsRow (rb + 1) 72 18 v D.length (D.flatMap eE)
  ok : ∀ x ∈ D, x.Ok
theorem Doc.on {rb : Nat} {cf : Cf} {now : Int} {D : List PE} {v : Value} {W W' : World} (h : Doc rb cf now D v W) (hb : Below W.heap.size W W') : Doc rb cf now D v W' :=
  ⟨blk_on h.box hb, own_same h.row (fun b hb' => hb.block b (own_ltE h.row hb').2), h.ok⟩
theorem Doc.lt {rb : Nat} {cf : Cf} {now : Int} {D : List PE} {v : Value} {W : World} (h : Doc rb cf now D v W) : rb < W.heap.size := (Array.getElem?_eq_some_iff.1 h.box).1
/-- A call of the document turns its box alone. -/
structure FrD (rb : Nat) (W W' : World) : Prop where
  os : W'.os = W.os
  tape : W'.tape = W.tape
  output : W'.output = W.output
  size : W.heap.size ≤ W'.heap.size
  other : ∀ j, j < W.heap.size → j ≠ rb → W'.heap[j]? = W.heap[j]?
theorem FrD.below {rb : Nat} {W W' : World} (h : Below W.heap.size W W') : FrD rb W W' := ⟨h.os, h.tape, h.output, h.size, fun j hj _ => h.block j hj⟩
theorem FrD.trans {rb : Nat} {A B C : World} (h : FrD rb A B) (g : FrD rb B C) : FrD rb A C := ⟨g.os.trans h.os, g.tape.trans h.tape, g.output.trans h.output, Nat.le_trans h.size g.size, fun j hj hn => (g.other j (by have := h.size; omega) hn).trans (h.other j hj hn)⟩
theorem ld_cE {W : World} {g o : Nat} {e : PE} (h : CellsAt W g o (eE e)) : (Instr.loadAt 72 (.pointer (some ⟨g, o, none⟩))).run Try.prog W = .ok (.agg (eE e).toArray) W :=
  agg_load (n := 18) (fun w => by kernel_rfl) (fun w => by kernel_rfl) (eE_len e) h
theorem ld_kE {W : World} {g o : Nat} {e : PE} (hok : e.Ok) (h : CellsAt W g o (eE e)) : (Instr.loadAt 35 (.pointer (some ⟨g, o, none⟩))).run Try.prog W = .ok (.agg (u8s e.k).toArray) W := by
  rw [eE_ok hok] at h
  exact load6 hok.2 (fun i u hi => h i u (by unfold eC; rw [List.getElem?_append_left (List.getElem?_eq_some_iff.1 hi).1]; exact hi))
theorem cE_u17 {W : World} {g o : Nat} {e : PE} (h : CellsAt W g o (eE e)) : W.cell? ⟨g, o + 17, none⟩ = some (.int .i64 e.u) := h 17 _ (by simp [eE, u8s])
theorem cE_m16 {W : World} {g o : Nat} {e : PE} (h : CellsAt W g o (eE e)) : W.cell? ⟨g, o + 16, none⟩ = some (.int .i64 e.m) := h 16 _ (by simp [eE, u8s])
theorem st_L {W : World} {rb : Nat} {cf : Cf} {now : Int} {v0 : Value} (h : W.heap[rb]? = some (.cells [.int .i64 cf.lim, .int .i64 cf.link, .int .i64 cf.life, .int .i64 cf.least, .int .i64 now, v0].toArray 45)) {v : Value} (hv : ∃ x n m, v = .slice x n m) : (Instr.storeAt 43 (.pointer (some ⟨rb, 5, none⟩)) v).run Try.prog W = .ok () (W.setCell ⟨rb, 5, none⟩ v) := by
  obtain ⟨x, n, m, rfl⟩ := hv
  have h1 : W.cell? ⟨rb, 5, none⟩ = some v0 := blk_cell h rfl
  have h2 := blk_open h 5
  simp [Instr.storeAt, go_sem, h1, h2]
/-- The box takes a new row. -/
theorem Doc.put {rb : Nat} {cf : Cf} {now : Int} {D D' : List PE} {v v' : Value} {W W' : World} (h : Doc rb cf now D v W) (hb : Below W.heap.size W W') (hr : W'.ownsRow W.heap.size 72 18 v' D'.length (D'.flatMap eE)) (hok : ∀ x ∈ D', x.Ok) :
    Doc rb cf now D' v' (W'.setCell ⟨rb, 5, none⟩ v') ∧ FrD rb W (W'.setCell ⟨rb, 5, none⟩ v') := by
  have hlt := h.lt
  have hbx := blk_on h.box hb
  have on : Only rb W' (W'.setCell ⟨rb, 5, none⟩ v') := (Only.refl rb W').set 5 _
  have hbox' := blk_set hbx 5 v'
  refine ⟨⟨hbox', own_baseE (own_same hr (fun q hq => on.other q (by have := (own_ltE hr hq).1; omega))) (by omega), hok⟩, ⟨on.os.trans hb.os, on.tape.trans hb.tape, on.output.trans hb.output, by rw [on.size]; exact hb.size, fun j hj hn => (on.other j hn).trans (hb.block j hj)⟩⟩
end Go.Proofs.Ytgndiblonhgihaa
